import Derived.Test.YtdfnbcbnmiohnaaGreatDoorP46
namespace Go.Proofs.YtdfnbcbnmiohnaaGreatDoor
open Go.RowKit
set_option maxRecDepth 100000
set_option maxHeartbeats 8000000
attribute [-simp] Tryz.isAgg44 Tryz.sizeOf44 Tryz.zeroValue44 Tryz.isAgg55 Tryz.sizeOf55 Tryz.zeroValue55
/-- A database of the call's own that life's calls have led to. -/
structure RD (W w : World) (p : Dp) (n : Nat) (d : DS) : Prop where
  o : OD W w p d
  r : Rch n d
theorem RD.on {W w w' : World} {p : Dp} {n : Nat} {d : DS} (h : RD W w p n d) (hb : Below w.heap.size w w') : RD W w' p n d := ⟨h.o.on hb, h.r⟩
theorem RD.up {W w : World} {p : Dp} {n : Nat} {d : DS} (h : RD W w p n d) : RD W w p (n + 1) d := ⟨h.o, h.r.up⟩
theorem RD.wh {W w : World} {p : Dp} {n : Nat} {d : DS} (h : RD W w p n d) : d.m.Whole := Mem.whole h.o.db.mem
theorem RD.g {W w : World} {p : Dp} {n : Nat} {d : DS} (h : RD W w p n d) (hn : n ≤ 41) : GI n d := .of h.r hn
theorem g_new (W w : World) (f : Fp) (h : NewMem W w f (MS.new 8 1)) : Calls Tryz.prog 14 #[ptr f.gm] w fun e w' => ∃ g gw, e = .returned (ptr g) ∧ RD W w' ⟨g, gw, f⟩ 0 (DS.fresh (MS.new 8 1)) :=
  (newO' W w f (MS.new 8 1) h (by decide)).mono fun _ _ ⟨g, gw, h1, h2⟩ => ⟨g, gw, h1, h2, .start⟩
theorem g_bear (W w : World) (p : Dp) (n : Nat) (d : DS) (h : RD W w p n d) (a b : Int) :
    Calls Tryz.prog 15 #[ptr p.g, .int .i64 a, .int .i64 b] w fun e w' => e = .returned (.int .i64 (d.bearE a b)) ∧ OD W w' p (d.takeSpace a b) ∧ ButL p.w w w' :=
  (takeSpace_any w p d h.o.db a b).mono fun _ _ ⟨he, hd, hb⟩ => ⟨he, h.o.step hd hb, hb⟩
theorem g_lay (W w0 w : World) (p : Dp) (n : Nat) (d : DS) (h : RD W w0 p n d) (a b : Int) (hz : d.bearE a b = 0) (a0 : 0 ≤ a) (a1 : a < 4294967296) (b0 : 0 ≤ b) (b1 : b < 8) (ho : OD W w p (d.takeSpace a b)) :
    Calls Tryz.prog 16 #[ptr p.g, .int .u32 a, H.Ag (H.saveOf [])] w fun e w' => e = .returned (.tuple #[]) ∧ RD W w' p (n + 1) ((d.takeSpace a b).dig a (H.saveOf []) 26) ∧ ButL p.w w w' :=
  (lay_l w p _ ho.db a a0 a1 (H.saveOf []) (H.saveOf_length _)).mono fun _ _ ⟨he, hd, hb⟩ => ⟨he, ⟨ho.stepf hd hb, h.r.born a b h.o.db.ok h.wh hz b0 b1⟩, hb.mono p.fw_w⟩
theorem g_take (W w : World) (p : Dp) (n : Nat) (d : DS) (h : RD W w p n d) (q t s : Int) :
    Calls Tryz.prog 43 #[ptr p.g, .int .i64 q, .int .i64 t, .int .i64 s] w fun e w' => ∃ c, e = .returned (.int .i64 c) ∧ RD W w' p (n + 1) (d.take q t s) :=
  (take_any w p d h.o.db q t s).mono fun _ _ ⟨he, hd, hb⟩ => ⟨_, he, h.o.step hd hb, h.r.take q t s h.o.db.ok⟩
theorem g_at (W w : World) (p : Dp) (n : Nat) (d : DS) (h : RD W w p n d) (q : Int) :
    Calls Tryz.prog 10 #[ptr p.g, .int .i64 q] w fun e w' => e = .returned (.agg #[.int .i64 (d.ent q).t, .int .i64 (d.ent q).o, .int .i64 (d.ent q).r, .int .i64 (d.ent q).s, .bool (d.ent q).e]) ∧ RD W w' p n d ∧ Below w.heap.size w w' :=
  (at_l w p d h.o.db q).mono fun _ _ ⟨he, hb⟩ => ⟨he, h.on hb, hb⟩
theorem g_ext (W w : World) (p : Dp) (n : Nat) (d : DS) (h : RD W w p n d) (hn : n ≤ 41) (hT : H.Tab W) (hs : 1 < W.heap.size) (k a b t f v : Int) (a0 : 0 ≤ a) (a1 : a < 4294967296) (s1 : (d.ent a).s = 1) (v0 : 0 ≤ v) (v1 : v < 4294967296) :
    Calls Tryz.prog 18 #[ptr p.g, opV k a b t f v] w fun e w' => e = .returned (.tuple #[]) ∧ RD W w' p (n + 1) (d.ext a (stepO t v)) :=
  (extend_l w p d h.o.db (h.g hn).U (h.o.gl hT hs) k a b t f v a0 a1).mono fun _ _ ⟨he, hd, hb⟩ => ⟨he, h.o.stepf hd hb, h.r.ext a t v h.o.db.ok h.wh s1 v0 v1⟩
theorem srD_rch {n : Nat} {d : DS} (h : Rch n d) (hk : d.Ok) (w q : Int) : Rch (n + 1) (d.srD w q) := by
  unfold DS.srD
  split
  · exact h.take q 6 w hk
  · exact h.up
theorem g_spare (W w : World) (p : Dp) (n : Nat) (d : DS) (h : RD W w p n d) (a q : Int) (a0 : 0 ≤ a) (a1 : a < 4294967296) (q0 : 0 ≤ q) (q1 : q < 4294967296) :
    Calls Tryz.prog 44 #[ptr p.g, .int .u32 a, .int .u32 q] w fun e w' => e = .returned (.int .u32 (d.srC a q)) ∧ RD W w' p (n + 1) (d.srD a q) :=
  (spare_any w p d h.o.db a q a0 a1 q0 q1).mono fun _ _ ⟨he, hd, hb⟩ => ⟨he, h.o.step hd hb, srD_rch h.r h.o.db.ok a q⟩
theorem g_final (W w : World) (p : Dp) (n : Nat) (d : DS) (h : RD W w p n d) (hn : n ≤ 41) (hT : H.Tab W) (hs : 1 < W.heap.size) (a : Int) (a0 : 0 ≤ a) (a1 : a < 4294967296) :
    Calls Tryz.prog 23 #[ptr p.g, .int .u32 a] w fun e w' => ∃ d', e = .returned (.int .u32 (d.fiC a)) ∧ DS.Sim (d.fiD a) d' ∧ RD W w' p (n + 1) d' :=
  (final_any w p d h.o.db (h.g hn).U (h.o.gl hT hs) a a0 a1).mono fun _ _ ⟨d', he, hS, hd, hb⟩ => ⟨d', he, hS, h.o.step hd hb, (h.r.fin a h.o.db.ok h.wh).sim hS⟩
theorem g_stop (W w : World) (p : Dp) (n : Nat) (d : DS) (h : RD W w p n d) (a : Int) (a0 : 0 ≤ a) (a1 : a < 4294967296) :
    Calls Tryz.prog 22 #[ptr p.g, .int .u32 a] w fun e w' => e = .returned (.int .u32 (d.saE a)) ∧ RD W w' p (n + 1) (d.stD a) :=
  (stop_any w p d h.o.db a a0 a1).mono fun _ _ ⟨he, hd, hb⟩ => ⟨he, h.o.step hd hb, h.r.stop a h.o.db.ok⟩
theorem g_rem (W w : World) (p : Dp) (n : Nat) (d : DS) (h : RD W w p n d) (a : Int) (a0 : 0 ≤ a) :
    Calls Tryz.prog 29 #[ptr p.g, .int .u32 a] w fun e w' => e = .returned (.int .u32 (d.rmC a)) ∧ RD W w' p (n + 1) (d.rmD a) :=
  (remove_any w p d h.o.db a a0).mono fun _ _ ⟨he, hd, hb⟩ => ⟨he, h.o.step hd hb, h.r.rem a h.o.db.ok h.wh⟩
theorem RD.set {W w : World} {p : Dp} {n : Nat} {d : DS} (h : RD W w p n d) {gc : Nat} (hg : W.heap.size ≤ gc) (hoff : ∀ k ∈ p.all, k < gc) (j : Nat) (u : Value) : RD W (w.setCell ⟨gc, j, none⟩ u) p n d := by
  have hB : ButL [gc] w (w.setCell ⟨gc, j, none⟩ u) := .setCell w gc j u (by simp)
  exact ⟨⟨h.o.db.frame hB (fun k hk hm => by rw [List.mem_singleton] at hm; have := hoff k hk; omega), h.o.bl.trans (hB.below (by simpa using hg) h.o.bl.size), h.o.own⟩, h.r⟩
theorem grown_any (W : World) (ao : Option Addr) (n cp : Nat) (q : Nat → Oq) (hq : OpsAt W ao n q) (hn : (n : Int) ≤ 4611686018427387904) (hT : H.Tab W) (hs : 1 < W.heap.size) :
    Calls Tryz.prog 8 #[.slice ao n cp] W fun x W' => ∃ p m d, x = .returned (.pointer (some ⟨Dp.g p, 0, none⟩)) ∧ m ≤ 40 ∧ RD W W' p m d := by
  have HN := hid (fun w => new_any w 8 1 (by decide) (by decide) (by decide) (by decide))
  have HD := hid (fun w f h => g_new W w f h)
  have HQ := hid hq
  have HT := hid hT
  have HS := hid hs
  clear hT hs hq
  simp only [ptr] at *
  go_enter Tryz.func8, Tryz.ntmps8
  go_upto_region 7 with (first | (go_at_call 13; refine (HN.out _).mono ?_; rintro e w1 ⟨f, rfl, hn⟩; have N1 := hid hn; clear hn HN) | (go_at_call 14; refine (HD.out _ _ N1.out).mono ?_; rintro e w2 ⟨g, gw, rfl, hO⟩; have O2 := hid hO; clear hO N1 HD))
  go_upto_region 8 with fail
  go_loopw [6] (fun i wr => ∃ (j : Nat) (d : DS), j ≤ n ∧ j ≤ 40 ∧ i = .int .i64 (j : Int) ∧ Hid (RD W wr ⟨g, gw, f⟩ j d)) (fun i _ => n - (intOf i).toNat)
  case atStart => exact ⟨0, _, Nat.zero_le _, Nat.zero_le _, rfl, O2⟩
  case round =>
    obtain ⟨j, d, hjn, hj6, rfl, HI⟩ := hrel
    clear O2
    by_cases hlt : j < n ∧ j < 40
    · obtain ⟨hlt, hlt6⟩ := hlt
      have q1 : (j : Int) < (n : Int) := by omega
      have q6 : (j : Int) < 40 := by omega
      have q2 : (j : Int) ≤ 4611686018427387904 := by omega
      obtain ⟨go, off, rfl, hgl, hr⟩ := HQ.out.at_ (by omega)
      have HR := hid (rangeAt_on (hr j hlt) hgl HI.out.o.bl)
      have HV := hid (HQ.out.v j hlt)
      have HKk : Hid (j < n ∧ j < 40) := hid ⟨hlt, hlt6⟩
      clear hlt hlt6 hgl hr hjn hj6 HQ
      generalize q j = oo at *
      obtain ⟨ok, oa, ob, ot, of, ov⟩ := oo
      simp only [opC, Oq.cs] at *
      go_upto_region 11 with (first | (refine wpList_load_mid rfl 48 _ rfl go (off + j * 6) rfl _ _ HR.out under48 rfl (by rw [size48]; rfl) ?_))
      have C0 := hid (Cel.new wr 48 [.int .i64 ok, .int .u32 oa, .int .u32 ob, .int .i64 ot, .int .i64 of, .int .u32 ov])
      have I0 := hid (HI.out.on (below_one wr (.cells #[.int .i64 ok, .int .u32 oa, .int .u32 ob, .int .i64 ot, .int .i64 of, .int .u32 ov] 48)))
      have HOff := hid HI.out.o.db.lt
      have HWo := hid HI.out.o.bl.size
      clear HI HR
      generalize wr.alloc _ = w7 at *
      generalize wr.heap.size = gc at *
      have c1 := C0.out.cell 1
      have f1 := C0.out.free 1
      simp only [List.getElem?_cons_zero, List.getElem?_cons_succ] at c1
      obtain ⟨A, hA⟩ : ∃ A, oa.tmod 8 = A := ⟨_, rfl⟩
      obtain ⟨B, hB⟩ : ∃ B, ob.tmod 8 = B := ⟨_, rfl⟩
      have hA0 : 0 ≤ A ∧ A < 8 := by
        rw [← hA, Int.tmod_eq_emod_of_nonneg HV.out.a0]; omega
      have hB0 : 0 ≤ B ∧ B < 8 := by
        rw [← hB, Int.tmod_eq_emod_of_nonneg HV.out.b0]; omega
      obtain ⟨a0, a1⟩ := hA0
      obtain ⟨b0, b1⟩ := hB0
      have HBe := hid (fun w h => g_bear W w ⟨g, gw, f⟩ j d h A B)
      have HLa := hid (fun w0 w h hz ho => g_lay W w0 w ⟨g, gw, f⟩ j d h A B hz a0 (by omega) b0 b1 ho)
      have HSt := hid (fun w => Q.start_any w)
      have HTk := hid (fun w h => g_take W w ⟨g, gw, f⟩ j d h A ot B)
      have HAt := hid (fun w h => g_at W w ⟨g, gw, f⟩ j d h A)
      have HEx := hid (fun w h s1 => g_ext W w ⟨g, gw, f⟩ j d h (by have := HKk.out; omega) HT.out HS.out ok A ob ot of ov a0 (by omega) s1 HV.out.v0 HV.out.v1)
      have HSp := hid (fun w h => g_spare W w ⟨g, gw, f⟩ j d h A B a0 (by omega) b0 (by omega))
      have HFi := hid (fun w h => g_final W w ⟨g, gw, f⟩ j d h (by have := HKk.out; omega) HT.out HS.out A a0 (by omega))
      have HSo := hid (fun w h => g_stop W w ⟨g, gw, f⟩ j d h A a0 (by omega))
      have HRe := hid (fun w h => g_rem W w ⟨g, gw, f⟩ j d h A a0)
      simp only [ptr, H.Ag, opV, opC] at HBe HLa HSt HTk HAt HEx HSp HFi HSo HRe
      generalize H.saveOf [] = S0 at *
      have HVv := hid (And.intro HV.out.v0 HV.out.v1)
      clear HV
      simp only at HVv
      go_upto_region 12 with fail
      have C1 := hid (C0.out.setCell 1 (.int .u32 A))
      have I1 := hid (I0.out.set HWo.out HOff.out 1 (.int .u32 A))
      clear C0 I0 c1 f1 hA HWo
      simp only [List.set_cons_zero, List.set_cons_succ] at C1
      generalize World.setCell _ _ _ = w8 at *
      have c0 := C1.out.cell 0
      have c1 := C1.out.cell 1
      have c2 := C1.out.cell 2
      have c3 := C1.out.cell 3
      simp only [List.getElem?_cons_zero, List.getElem?_cons_succ] at c0 c1 c2 c3
      by_cases e1 : ok = 1
      · subst e1
        go_upto_region 15 with (go_at_call 15; refine (HBe.out _ I1.out).mono ?_; rintro e w9 ⟨rfl, hO, hb⟩; have O9 := hid (And.intro hO (C1.out.but hb (fun hm => by have := HOff.out gc (Dp.w_all hm); omega))); clear hO hb)
        by_cases hz : d.bearE A B = 0
        · rw [hz]
          go_upto_region 16 with fail
          have Oa := hid (And.intro (O9.out.1.on (Below.refl _ _).drew) (O9.out.2.on (Below.refl _ _).drew))
          refine wp_region_held_drew (S := fun w => w.cell? ⟨gc, 1, none⟩ = some (.int .u32 A)) (by kernel_rfl) (Oa.out.2.cell 1) (fun hHeld => ?_)
          generalize World.drew _ = wd at *
          refine wpAnyH_take (i := 0) (oi := { dst := some 52, op := Op.move (Operand.tmp 5), type := 23, pos := "outright.go:33", after := #[], guard := none }) (v := .pointer (some ⟨g, 0, none⟩)) rfl (by kernel_rfl) (by kernel_rfl) (by kernel_rfl) (fun _ _ _ h => h) (Or.inl ⟨by rfl, by intro w hSw; go_simp⟩) (by assumption) ?_
          simp only [Act.put, List.setIfInBounds_toArray, List.set_cons_zero, List.set_cons_succ]
          refine wpAnyH_take (i := 1) (oi := { dst := some 53, op := Op.fieldAddr 48 (Operand.tmp 7) 1, type := 0, pos := "outright.go:33", after := #[], guard := none }) (v := .pointer (some ⟨gc, 1, none⟩)) rfl (by kernel_rfl) (by kernel_rfl) (by kernel_rfl) (fun _ _ _ h => h) (Or.inl ⟨by rfl, by intro w hSw; go_simp⟩) (by assumption) ?_
          simp only [Act.put, List.setIfInBounds_toArray, List.set_cons_zero, List.set_cons_succ]
          refine wpAnyH_take (i := 2) (oi := { dst := some 54, op := Op.load 43 (Operand.tmp 53), type := 43, pos := "outright.go:33", after := #[{ on := 1, ground := Ground.data }], guard := none }) (v := .int .u32 A) rfl (by kernel_rfl) (by kernel_rfl) (by kernel_rfl) (fun _ _ _ h => h) (Or.inl ⟨by rfl, by intro w hSw; have hc := hSw; go_simp⟩) (by assumption) ?_
          simp only [Act.put, List.setIfInBounds_toArray, List.set_cons_zero, List.set_cons_succ]
          refine wpAnyH_ready (rs := [3]) (by kernel_rfl) (by simp) (AllReadyH.cons (o := { dst := some 55, op := Op.call { callee := Callee.value (Operand.func 17), args := #[], argTypes := #[] }, type := 44, pos := "outright.go:33", after := #[], guard := none }) rfl (fun KQ hK => ?_) AllReadyH.nil)
          go_simp
          refine (HSt.out _).mono ?_
          rintro e wb ⟨rfl, hb⟩
          have Ob := hid (And.intro (Oa.out.1.on hb) (Oa.out.2.on hb))
          clear hb
          go_wp2_with fail
          refine hK.out _ _ (Ob.out.2.cell 1) (fun hHeld => ?_)
          clear hK KQ
          try simp only [Act.put, List.setIfInBounds_toArray, List.set_cons_zero, List.set_cons_succ]
          refine wpAnyH_ready (rs := [4]) (by kernel_rfl) (by simp) (AllReadyH.cons (o := { dst := some 56, op := Op.call { callee := Callee.value (Operand.func 16), args := #[Operand.tmp 52, Operand.tmp 54, Operand.tmp 55], argTypes := #[23, 43, 44] }, type := 0, pos := "outright.go:33", after := #[{ on := 0, ground := Ground.data }, { on := 2, ground := Ground.data }, { on := 3, ground := Ground.data }, { on := 3, ground := Ground.chain }], guard := none }) rfl (fun KQ hK => ?_) AllReadyH.nil)
          go_simp
          refine (HLa.out _ _ I1.out hz Ob.out.1).mono ?_
          rintro e wc ⟨rfl, hR, hb⟩
          have Oc := hid (And.intro hR (Ob.out.2.but hb (fun hm => by have := HOff.out gc (Dp.w_all hm); omega)))
          clear hR hb
          go_wp2_with fail
          refine hK.out _ _ (Oc.out.2.cell 1) (fun hHeld => ?_)
          clear hK KQ
          try simp only [Act.put, List.setIfInBounds_toArray, List.set_cons_zero, List.set_cons_succ]
          refine wpAnyH_done (by kernel_rfl) ?_ _

          go_wp2_with fail
          go_roundw
          case measure => have := HKk.out; simp [intOf] <;> omega
          case rel => exact ⟨j + 1, _, by have := HKk.out; omega, by have := HKk.out; omega, by simp, hid Oc.out.1⟩
        · have hz2 : (d.bearE A B == 0) = false := by simpa using hz
          have hT2 : d.takeSpace A B = d := by unfold DS.takeSpace; rw [if_neg hz]
          have Or := hid (RD.up ⟨by have := O9.out.1; rw [hT2] at this; exact this, I1.out.r⟩)
          clear hT2 hz
          generalize d.bearE A B = ce at *
          go_wp2_with fail
          go_roundw
          case measure => have := HKk.out; simp [intOf] <;> omega
          case rel => exact ⟨j + 1, _, by have := HKk.out; omega, by have := HKk.out; omega, by simp, Or⟩
      have n1 : (ok == 1) = false := by simpa using e1
      by_cases e2 : ok = 2
      · subst e2
        go_upto_region 9 with (go_at_call 43; refine (HTk.out _ I1.out).mono ?_; rintro e w9 ⟨c, rfl, hO⟩; have O9 := hid hO; clear hO)
        go_wp2_with fail
        go_roundw
        case measure => have := HKk.out; simp [intOf] <;> omega
        case rel => exact ⟨j + 1, _, by have := HKk.out; omega, by have := HKk.out; omega, by simp, O9⟩
      have n2 : (ok == 2) = false := by simpa using e2
      by_cases e3 : ok = 3
      · subst e3
        by_cases s1 : (d.ent A).s = 1
        · simp only [s1] at HAt
          have hfld : ∀ w, (Instr.field 30 (.agg #[.int .i64 (d.ent A).t, .int .i64 (d.ent A).o, .int .i64 (d.ent A).r, .int .i64 1, .bool (d.ent A).e]) 3).run Tryz.prog w = .ok (.int .i64 1) w := fun w => by kernel_rfl
          have HEe := hid (fun w h => HEx.out w h s1)
          clear s1 HEx
          go_upto_region 21 with (go_at_call 10; refine (HAt.out _ I1.out).mono ?_; rintro e w9 ⟨rfl, hO, hb⟩; have O9 := hid hO; have C9 := hid (C1.out.on hb); clear hO hb C1 I1 c0 c1 c2 c3)
          go_wp2_with (first | (refine wpList_load_mid rfl 48 _ rfl gc 0 rfl _ _ C9.out.range under48 rfl (by rw [size48]; rfl) ?_) | (go_at_call 18; refine (HEe.out _ O9.out).mono ?_; rintro e wa ⟨rfl, hO⟩; have Oa := hid hO; clear hO))
          go_roundw
          case measure => have := HKk.out; simp [intOf] <;> omega
          case rel => exact ⟨j + 1, _, by have := HKk.out; omega, by have := HKk.out; omega, by simp, Oa⟩
        · have s2 : ((d.ent A).s == 1) = false := by simpa using s1
          clear s1 HEx
          generalize (d.ent A).s = es at *
          have hfld : ∀ w, (Instr.field 30 (.agg #[.int .i64 (d.ent A).t, .int .i64 (d.ent A).o, .int .i64 (d.ent A).r, .int .i64 es, .bool (d.ent A).e]) 3).run Tryz.prog w = .ok (.int .i64 es) w := fun w => by kernel_rfl
          go_wp2_with (go_at_call 10; refine (HAt.out _ I1.out).mono ?_; rintro e w9 ⟨rfl, hO, hb⟩; have O9 := hid hO.up; clear hO hb C1 I1 c0 c1 c2 c3)
          go_roundw
          case measure => have := HKk.out; simp [intOf] <;> omega
          case rel => exact ⟨j + 1, _, by have := HKk.out; omega, by have := HKk.out; omega, by simp, O9⟩
      have n3 : (ok == 3) = false := by simpa using e3
      by_cases e4 : ok = 5
      · subst e4
        go_upto_region 9 with (go_at_call 44; refine (HSp.out _ I1.out).mono ?_; rintro e w9 ⟨rfl, hO⟩; have O9 := hid hO; clear hO)
        go_wp2_with fail
        go_roundw
        case measure => have := HKk.out; simp [intOf] <;> omega
        case rel => exact ⟨j + 1, _, by have := HKk.out; omega, by have := HKk.out; omega, by simp, O9⟩
      have n4 : (ok == 5) = false := by simpa using e4
      by_cases e5 : ok = 6
      · subst e5
        go_upto_region 9 with (go_at_call 23; refine (HFi.out _ I1.out).mono ?_; rintro e w9 ⟨d9, rfl, _, hO⟩; have O9 := hid hO; clear hO)
        go_wp2_with fail
        go_roundw
        case measure => have := HKk.out; simp [intOf] <;> omega
        case rel => exact ⟨j + 1, _, by have := HKk.out; omega, by have := HKk.out; omega, by simp, O9⟩
      have n5 : (ok == 6) = false := by simpa using e5
      by_cases e6 : ok = 7
      · subst e6
        go_upto_region 9 with (go_at_call 22; refine (HSo.out _ I1.out).mono ?_; rintro e w9 ⟨rfl, hO⟩; have O9 := hid hO; clear hO)
        go_wp2_with fail
        go_roundw
        case measure => have := HKk.out; simp [intOf] <;> omega
        case rel => exact ⟨j + 1, _, by have := HKk.out; omega, by have := HKk.out; omega, by simp, O9⟩
      have n6 : (ok == 7) = false := by simpa using e6
      by_cases e7 : ok = 8
      · subst e7
        go_upto_region 9 with (go_at_call 29; refine (HRe.out _ I1.out).mono ?_; rintro e w9 ⟨rfl, hO⟩; have O9 := hid hO; clear hO)
        go_wp2_with fail
        go_roundw
        case measure => have := HKk.out; simp [intOf] <;> omega
        case rel => exact ⟨j + 1, _, by have := HKk.out; omega, by have := HKk.out; omega, by simp, O9⟩
      have n7 : (ok == 8) = false := by simpa using e7
      have O9 := hid I1.out.up
      clear e1 e2 e3 e4 e5 e6 e7
      go_wp2_with fail
      go_roundw
      case measure => have := HKk.out; simp [intOf] <;> omega
      case rel => exact ⟨j + 1, _, by have := HKk.out; omega, by have := HKk.out; omega, by simp, O9⟩
    · clear HQ
      have hcond : (n : Int) ≤ (j : Int) ∨ ((j : Int) < (n : Int) ∧ (40 : Int) ≤ (j : Int)) := by omega
      rcases hcond with h1 | ⟨h1, h2⟩
      all_goals
        go_wp2_with fail
        go_ret
        exact ⟨_, j, d, rfl, hj6, HI.out⟩
end Go.Proofs.YtdfnbcbnmiohnaaGreatDoor
