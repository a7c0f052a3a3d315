import Derived.Test.YtildhjiddidghaaGreatDoorP46
import Derived.Test.YtildhjiddidghaaGreatDoorP01
namespace Go.Proofs.YtildhjiddidghaaGreatDoor
open Go.RowKit
set_option maxHeartbeats 4000000
set_option maxRecDepth 100000
theorem blank_l (W w : World) (g : Nat) (p : Dp) (r : Rp) (d : DS) (h : SS W w g p r d d) (q : Int) :
    Calls Tryz.prog 50 #[.pointer (some ⟨g, 0, none⟩), .int .i64 q] w fun e w' => e = .returned (.bool (d.zr q 0 1024)) ∧ Below w.heap.size w w' := by
  have HPk := hid (fun w (hw : DB w p d) (j : Int) => peek_any w p.f d.m hw.mem true q j)
  have HSc := hid (fun w => secure_l w q)
  have HX := hid h
  obtain ⟨Z, hZ⟩ : ∃ Z, d.zr q 0 1024 = Z := ⟨_, rfl⟩
  rw [hZ]
  have HZ := hid hZ
  clear h hZ
  simp only [ptr, fr] at *
  go_enter Tryz.func50, Tryz.ntmps50
  go_upto_region 2 with fail
  go_loopw [5] (fun i wr => ∃ (j : Nat), j ≤ 1024 ∧ i = .int .i64 (j : Int) ∧ Hid (∀ i : Nat, i < j → d.m.word true q (i : Int) = 0) ∧ Hid (Below w.heap.size w wr)) (fun i _ => 1024 - (intOf i).toNat)
  case atStart => exact ⟨0, by omega, rfl, hid (fun i hi => absurd hi (by omega)), hid (Below.refl _ _)⟩
  case round =>
    obtain ⟨j, hj, rfl, HA, HB⟩ := hrel
    by_cases hlt : j < 1024
    · have q1 : (j : Int) < 1024 := by omega
      have HJ := hid hlt
      clear hlt hj
      go_upto_region 4 with fail
      have S1 := hid (HX.out.on (HB.out.trans (Below.refl _ wr).drew))
      have B1 := hid (HB.out.trans (Below.refl _ wr).drew)
      clear HB
      generalize hy : d.m.word true q (j : Int) = y at *
      refine wp_region_held_drew (S := fun w => w.cell? ⟨g, 0, none⟩ = some (.pointer (some ⟨p.f.gm, 0, none⟩))) (by kernel_rfl) S1.out.c.1 (fun hHeld => ?_)
      refine tk 0 ⟨some 10, .move (.tmp 0), 26, "outright.go:14", #[], none⟩ (.pointer (some ⟨g, 0, none⟩)) ?_
      simp only [Act.put, List.setIfInBounds_toArray, List.set_cons_zero, List.set_cons_succ]
      refine tk 1 ⟨some 11, .nilCheck (.tmp 10), 0, "outright.go:14", #[⟨0, .data⟩], none⟩ (.pointer (some ⟨g, 0, none⟩)) ?_
      simp only [Act.put, List.setIfInBounds_toArray, List.set_cons_zero, List.set_cons_succ]
      refine tk 2 ⟨some 12, .fieldAddr 34 (.tmp 11) 0, 0, "outright.go:14", #[⟨1, .data⟩], none⟩ (.pointer (some ⟨g, 0, none⟩)) ?_
      simp only [Act.put, List.setIfInBounds_toArray, List.set_cons_zero, List.set_cons_succ]
      refine tk 3 ⟨some 13, .load 30 (.tmp 12), 30, "outright.go:14", #[⟨2, .data⟩], none⟩ (.pointer (some ⟨p.f.gm, 0, none⟩)) ?_ (hy := Or.inl ⟨by rfl, by intro w hSw; have hc := hSw; go_simp⟩)
      simp only [Act.put, List.setIfInBounds_toArray, List.set_cons_zero, List.set_cons_succ]
      refine tk 4 ⟨some 14, .move (.tmp 1), 3, "outright.go:14", #[], none⟩ (.int .i64 q) ?_
      simp only [Act.put, List.setIfInBounds_toArray, List.set_cons_zero, List.set_cons_succ]
      refine tk 6 ⟨some 16, .move (.tmp 5), 3, "outright.go:14", #[], none⟩ (.int .i64 (j : Int)) ?_
      simp only [Act.put, List.setIfInBounds_toArray, List.set_cons_zero, List.set_cons_succ]
      refine wpAnyH_ready (rs := [5]) (by kernel_rfl) (by simp) (AllReadyH.cons (o := ⟨some 15, .call { callee := .value (.func 23), args := #[.tmp 14], argTypes := #[3] }, 57, "outright.go:14", #[⟨4, .data⟩], none⟩) rfl (fun KQ hK => ?_) AllReadyH.nil)
      go_simp
      refine (HSc.out _).mono ?_
      rintro e w2 ⟨rfl, hb2⟩
      have S2 := hid (S1.out.on hb2)
      have B2 := hid (below_on B1.out hb2)
      clear hb2 S1 B1
      go_wp2_with fail
      refine hK.out _ _ S2.out.c.1 (fun hHeld => ?_)
      clear hK KQ
      try simp only [Act.put, List.setIfInBounds_toArray, List.set_cons_zero, List.set_cons_succ]
      refine wpAnyH_ready (rs := [7]) (by kernel_rfl) (by simp) (AllReadyH.cons (o := ⟨some 17, .call { callee := .value (.func 86), args := #[.tmp 13, .tmp 15, .tmp 16], argTypes := #[30, 57, 3] }, 22, "outright.go:14", #[⟨3, .data⟩, ⟨5, .data⟩, ⟨6, .data⟩, ⟨5, .chain⟩], none⟩) rfl (fun KQ hK => ?_) AllReadyH.nil)
      go_simp
      refine (HPk.out _ S2.out.own (j : Int)).mono ?_
      rw [hy]
      rintro e w3 ⟨rfl, hb3⟩
      have S3 := hid (S2.out.on hb3)
      have B3 := hid (below_on B2.out hb3)
      clear hb3 S2 B2
      go_wp2_with fail
      refine hK.out _ _ S3.out.c.1 (fun hHeld => ?_)
      clear hK KQ
      try simp only [Act.put, List.setIfInBounds_toArray, List.set_cons_zero, List.set_cons_succ]
      refine tk 8 ⟨some 18, .binOp .neq 22 (.tmp 17) (.const (.int .u32 0)) 22, 4, "outright.go:14", #[⟨7, .data⟩], none⟩ (.bool (y != 0)) ?_
      simp only [Act.put, List.setIfInBounds_toArray, List.set_cons_zero, List.set_cons_succ]
      refine wpAnyH_done (by kernel_rfl) ?_ _
      have HYY := hid hy
      clear hy
      by_cases hz : y = 0
      · subst hz
        go_wp2_with fail
        go_roundw
        case measure => have := HJ.out; simp [intOf] <;> omega
        case rel => exact ⟨j + 1, HJ.out, by simp, hid (fun i hi => by by_cases e : i = j; subst e; exact HYY.out; exact HA.out i (by omega)), B3⟩
      · have z1 : (y != 0) = true := by simpa using hz
        go_wp2_with fail
        go_ret
        refine ⟨?_, B3.out⟩
        rw [← HZ.out, DS.zr_no (k := j) (by omega) HJ.out (by rw [HYY.out]; exact hz)]; rfl
    · obtain rfl : j = 1024 := by omega
      clear hlt hj
      go_wp2_with fail
      go_ret
      refine ⟨?_, HB.out⟩
      rw [← HZ.out, DS.zr_yes (fun k _ hk => HA.out k hk)]; rfl
structure PB (w x : World) (L : List BxT) : Prop where
  bl : Below w.heap.size w x
  bag : ∀ y ∈ L, Cel x y.1 y.2.1 y.2.2
  nw : ∀ y ∈ L, w.heap.size ≤ y.1
theorem PB.on {w x x' : World} {L : List BxT} (h : PB w x L) (hb : Below x.heap.size x x') : PB w x' L := ⟨below_on h.bl hb, fun y hy => (h.bag y hy).on hb, h.nw⟩
theorem PB.get {w x : World} {L : List BxT} (h : PB w x L) (k : Nat) {b : Nat} {t : TypeId} {cs : List Value} (hk : L[k]? = some (b, t, cs)) : Cel x b t cs := h.bag _ (List.mem_of_getElem? hk)
theorem PB.box {w x : World} {L : List BxT} (h : PB w x L) (t : TypeId) (cs : List Value) : PB w (x.alloc (.cells cs.toArray t)) ((x.heap.size, t, cs) :: L) := by
  have h' := h.on (below_one x (.cells cs.toArray t))
  refine ⟨h'.bl, fun y hy => ?_, fun y hy => ?_⟩
  · rcases List.mem_cons.1 hy with rfl | hy
    · exact Cel.new x t cs
    · exact h'.bag y hy
  · rcases List.mem_cons.1 hy with rfl | hy
    · exact h.bl.size
    · exact h'.nw y hy
theorem PB.put {w x x' : World} {L : List BxT} {b : Nat} {t : TypeId} {cs cs' : List Value} (h : PB w x ((b, t, cs) :: L)) (hL : ∀ y ∈ L, y.1 ≠ b) (hc : Cel x' b t cs') (hb : ButL [b] x x') : PB w x' ((b, t, cs') :: L) := by
  have hn := h.nw (b, t, cs) (by simp)
  refine ⟨h.bl.trans (hb.below (B := w.heap.size) (by simpa using hn) h.bl.size), fun y hy => ?_, fun y hy => ?_⟩
  · rcases List.mem_cons.1 hy with rfl | hy
    · exact hc
    · exact (h.bag y (by simp [hy])).but hb (by rw [List.mem_singleton]; exact hL y hy)
  · rcases List.mem_cons.1 hy with rfl | hy
    · exact hn
    · exact h.nw y (by simp [hy])
theorem own3_slice9 {w : World} {B n : Nat} {v : Value} {xs : List Value} (h : w.ownsRow B 3 1 v n xs) : ∃ ao c, v = .slice ao n c := by
  rcases h.2 with ⟨rfl, rfl⟩ | ⟨g, cap, cur, rfl, _⟩
  · exact ⟨none, 0, rfl⟩
  · exact ⟨_, cap, rfl⟩
def DS.pl (d : DS) (k : Int) (q : Nat) : Bool :=
  if k = 1 then (d.at q).t != 1 || (d.at q).o == (q : Int) else if k = 2 then (d.at q).t != 0 || d.zr (q : Int) 0 1024 else if k = 3 then (d.at q).t == 0 || ((d.at q).t == 1 || d.hasSp q) else if k = 4 then (d.at q).t != 1 || ((d.at q).r == ((d.owned (q : Int)).length : Int)) else if k = 12 then (d.at q).t != 6 || d.zr (q : Int) 0 1024 else true
theorem plain_l (W w : World) (g : Nat) (p : Dp) (r : Rp) (d : DS) (h : SS W w g p r d d) (k : Int) (q : Nat) (hq : q < d.m.ns) :
    Calls Tryz.prog 16 #[.pointer (some ⟨g, 0, none⟩), .int .i64 k, .int .i64 (q : Int)] w fun e w' => e = .returned (.bool (d.pl k q)) ∧ Below w.heap.size w w' := by
  have hok := h.own.ok
  obtain ⟨ho, hol⟩ := hok.onat hq
  have HE := hid (fun w (hw : DB w p d) => entry_any w p d hw (q : Int))
  have HE2 := hid (fun w (hw : DB w p d) => entry_any w p d hw (d.at q).o)
  have e1 : d.ent (q : Int) = d.at q ∧ d.entE (q : Int) = 0 := by
    have : d.there (q : Int) = true := by unfold DS.there; simp; omega
    unfold DS.ent DS.entE
    rw [if_pos this, if_pos this]
    exact ⟨rfl, rfl⟩
  have e2 : d.ent (d.at q).o = d.ownr q ∧ d.entE (d.at q).o = 0 := by
    have : d.there (d.at q).o = true := by rw [ho]; unfold DS.there; simp; omega
    unfold DS.ent DS.entE
    rw [if_pos this, if_pos this]
    exact ⟨rfl, rfl⟩
  simp only [e1.1, e1.2, e2.1, e2.2, ptr, En.v, En.cs] at HE HE2
  have HBl := hid (fun w (h : SS W w g p r d d) => blank_l W w g p r d h (q : Int))
  have HOw := hid (fun w (hw : DB w p d) => owned_any w p d hw (q : Int))
  have HNm := hid (fun w x => num_l w x)
  simp only [ptr] at HOw
  obtain ⟨R, hR⟩ : ∃ R, d.pl k q = R := ⟨_, rfl⟩
  rw [hR]
  unfold DS.pl DS.hasSp at hR
  have HR := hid hR
  have HX := hid h
  clear h hR e1 e2 ho hol hok hq
  generalize d.at q = E at *
  generalize d.ownr q = O at *
  go_enter Tryz.func16, Tryz.ntmps16
  obtain ⟨x0, x1, x2⟩ := HX.out.c
  go_upto_region 2 with (go_at_call 49; refine (HE.out _ HX.out.own).mono ?_; rintro e w1 ⟨rfl, hb1⟩; have B1 := hid (PB.mk (L := []) hb1 (by simp) (by simp)); clear hb1)
  have P1 := hid (B1.out.box 92 [.int .i64 E.t, .int .i64 E.o, .int .i64 E.r, .int .i64 E.s, .bool E.e])
  clear B1 x0 x1 x2
  simp only [List.toArray] at P1
  generalize World.alloc _ _ = w2 at *
  generalize w1.heap.size = g7 at *
  have HX2 := hid (HX.out.on P1.out.bl)
  go_cut [9, 10] (fun v x wz => ∃ g9, v = .pointer (some ⟨g9, 0, none⟩) ∧ x = .int .i64 0 ∧ Hid (PB w wz [(g9, 92, [.int .i64 O.t, .int .i64 O.o, .int .i64 O.r, .int .i64 O.s, .bool O.e]), (g7, 92, [.int .i64 E.t, .int .i64 E.o, .int .i64 E.r, .int .i64 E.s, .bool E.e])]))
  case first =>
    have P2 := hid (P1.out.on (Below.refl _ _).drew)
    clear P1 HX2
    refine wp_region_held_drew (S := fun w => w.cell? ⟨g, 1, none⟩ = some (.pointer (some ⟨p.g, 0, none⟩)) ∧ w.cell? ⟨g7, 1, none⟩ = some (.int .i64 E.o)) (by kernel_rfl) ⟨(HX.out.on P2.out.bl).c.2.1, (P2.out.get 0 rfl).cell 1⟩ (fun hHeld => ?_)
    generalize World.drew _ = wq at *
    refine tk 0 ⟨some 21, .move (.tmp 0), 26, "outright.go:24", #[], none⟩ (.pointer (some ⟨g, 0, none⟩)) ?_
    simp only [Act.put, List.setIfInBounds_toArray, List.set_cons_zero, List.set_cons_succ]
    refine tk 1 ⟨some 22, .nilCheck (.tmp 21), 0, "outright.go:24", #[⟨0, .data⟩], none⟩ (.pointer (some ⟨g, 0, none⟩)) ?_
    simp only [Act.put, List.setIfInBounds_toArray, List.set_cons_zero, List.set_cons_succ]
    refine tk 2 ⟨some 23, .fieldAddr 34 (.tmp 22) 1, 0, "outright.go:24", #[⟨1, .data⟩], none⟩ (.pointer (some ⟨g, 1, none⟩)) ?_
    simp only [Act.put, List.setIfInBounds_toArray, List.set_cons_zero, List.set_cons_succ]
    refine tk 3 ⟨some 24, .load 31 (.tmp 23), 31, "outright.go:24", #[⟨2, .data⟩], none⟩ (.pointer (some ⟨p.g, 0, none⟩)) ?_ (hy := Or.inl ⟨by rfl, by intro w hSw; have hc := hSw.1; go_simp⟩)
    simp only [Act.put, List.setIfInBounds_toArray, List.set_cons_zero, List.set_cons_succ]
    refine tk 4 ⟨some 25, .fieldAddr 92 (.tmp 7) 1, 0, "outright.go:24", #[], none⟩ (.pointer (some ⟨g7, 1, none⟩)) ?_
    simp only [Act.put, List.setIfInBounds_toArray, List.set_cons_zero, List.set_cons_succ]
    refine tk 5 ⟨some 26, .load 3 (.tmp 25), 3, "outright.go:24", #[⟨4, .data⟩], none⟩ (.int .i64 E.o) ?_ (hy := Or.inl ⟨by rfl, by intro w hSw; have hc := hSw.2; go_simp⟩)
    simp only [Act.put, List.setIfInBounds_toArray, List.set_cons_zero, List.set_cons_succ]
    refine wpAnyH_ready (rs := [6, 10]) (by kernel_rfl) (by simp) (AllReadyH.cons (o := ⟨some 27, .call { callee := .value (.func 49), args := #[.tmp 24, .tmp 26], argTypes := #[31, 3] }, 93, "outright.go:24", #[⟨3, .data⟩, ⟨5, .data⟩], none⟩) rfl (fun KQ hK => ?_) (AllReadyH.cons (o := ⟨some 9, .alloc 92, 0, "outright.go:24", #[], none⟩) rfl (fun KQ hK => ?_) AllReadyH.nil))
    · go_simp
      refine (HE2.out _ (HX.out.on P2.out.bl).own).mono ?_
      rintro e w3 ⟨rfl, hb3⟩
      have P3 := hid (P2.out.on hb3)
      clear hb3 P2
      go_wp2_with fail
      refine hK.out _ _ ⟨(HX.out.on P3.out.bl).c.2.1, (P3.out.get 0 rfl).cell 1⟩ (fun hHeld => ?_)
      clear hK KQ
      try simp only [Act.put, List.setIfInBounds_toArray, List.set_cons_zero, List.set_cons_succ]
      refine tk 7 ⟨some 20, .move (.tmp 27), 93, "outright.go:24", #[⟨6, .data⟩], none⟩ (.tuple #[.agg #[.int .i64 O.t, .int .i64 O.o, .int .i64 O.r, .int .i64 O.s, .bool O.e], .int .i64 0]) ?_
      simp only [Act.put, List.setIfInBounds_toArray, List.set_cons_zero, List.set_cons_succ]
      refine tk 8 ⟨some 28, .extract (.tmp 20) 0, 92, "outright.go:24", #[⟨7, .data⟩], none⟩ (.agg #[.int .i64 O.t, .int .i64 O.o, .int .i64 O.r, .int .i64 O.s, .bool O.e]) ?_
      simp only [Act.put, List.setIfInBounds_toArray, List.set_cons_zero, List.set_cons_succ]
      refine tk 9 ⟨some 29, .extract (.tmp 20) 1, 54, "outright.go:24", #[⟨7, .data⟩, { on := 11, ground := .gcOnly Departure.lateStores }], none⟩ (.int .i64 0) ?_
      simp only [Act.put, List.setIfInBounds_toArray, List.set_cons_zero, List.set_cons_succ]
      refine wpAnyH_ready (rs := [10]) (by kernel_rfl) (by simp) (AllReadyH.cons (o := ⟨some 9, .alloc 92, 0, "outright.go:24", #[], none⟩) rfl (fun KQ hK => ?_) AllReadyH.nil)
      go_simp
      have P4 : Hid (PB w (w3.alloc (.cells #[.int .i64 0, .int .i64 0, .int .i64 0, .int .i64 0, .bool false] 92)) [(w3.heap.size, 92, [.int .i64 0, .int .i64 0, .int .i64 0, .int .i64 0, .bool false]), (g7, 92, [.int .i64 E.t, .int .i64 E.o, .int .i64 E.r, .int .i64 E.s, .bool E.e])]) := hid (P3.out.box 92 [.int .i64 0, .int .i64 0, .int .i64 0, .int .i64 0, .bool false])
      have HNe : Hid (g7 ≠ w3.heap.size) := hid (by have := (P3.out.get 0 rfl).lt; omega)
      clear P3
      generalize World.alloc _ _ = w4 at *
      generalize w3.heap.size = g9 at *
      refine hK.out _ _ ⟨(HX.out.on P4.out.bl).c.2.1, (P4.out.get 1 rfl).cell 1⟩ (fun hHeld => ?_)
      clear hK KQ
      try simp only [Act.put, List.setIfInBounds_toArray, List.set_cons_zero, List.set_cons_succ]
      refine wpAnyH_ready (rs := [11]) (by kernel_rfl) (by simp) (AllReadyH.cons (o := ⟨none, .store 92 (.tmp 9) (.tmp 28), 0, "outright.go:24", #[⟨10, .data⟩, ⟨8, .data⟩, ⟨6, .chain⟩, ⟨0, .phase⟩, ⟨1, .phase⟩, ⟨2, .phase⟩, ⟨3, .phase⟩, ⟨4, .phase⟩, ⟨5, .phase⟩, ⟨6, .phase⟩, ⟨7, .phase⟩, ⟨8, .phase⟩, { on := 9, ground := .textOnly Departure.lateStores }, ⟨10, .phase⟩], none⟩) rfl (fun KQ hK => ?_) AllReadyH.nil)
      rw [if_pos (by rfl)]
      refine wp_store_st 92 _ _ rfl g9 [.int .i64 O.t, .int .i64 O.o, .int .i64 O.r, .int .i64 O.s, .bool O.e] rfl rfl (P4.out.get 0 rfl) sizeE rfl rfl ?_
      intro w5 hc5 hb5 hs5
      have P5 := hid (P4.out.put (by intro y hy; rw [List.mem_singleton] at hy; subst hy; exact HNe.out) hc5 hb5)
      clear hc5 hb5 hs5 P4
      refine hK.out _ _ ⟨(HX.out.on P5.out.bl).c.2.1, (P5.out.get 1 rfl).cell 1⟩ (fun hHeld => ?_)
      clear hK KQ
      try simp only [Act.put]
      refine wpAnyH_ready (rs := [12]) (by kernel_rfl) (by simp) (AllReadyH.cons (o := ⟨some 10, .assign (.tmp 29), 54, "outright.go:24", #[⟨9, .data⟩, ⟨11, .chain⟩, ⟨0, .phase⟩, ⟨1, .phase⟩, ⟨2, .phase⟩, ⟨3, .phase⟩, ⟨4, .phase⟩, ⟨5, .phase⟩, ⟨6, .phase⟩, ⟨7, .phase⟩, ⟨8, .phase⟩, ⟨9, .phase⟩, ⟨10, .phase⟩, ⟨11, .phase⟩], none⟩) rfl (fun KQ hK => ?_) AllReadyH.nil)
      go_simp
      refine hK.out _ _ ⟨(HX.out.on P5.out.bl).c.2.1, (P5.out.get 1 rfl).cell 1⟩ (fun hHeld => ?_)
      clear hK KQ
      try simp only [Act.put, List.setIfInBounds_toArray, List.set_cons_zero, List.set_cons_succ]
      refine wpAnyH_done (by kernel_rfl) ?_ _
      go_wp2_with fail
      go_meet
      exact ⟨g9, rfl, rfl, P5⟩
    · go_simp
      have P3 : Hid (PB w (wq.alloc (.cells #[.int .i64 0, .int .i64 0, .int .i64 0, .int .i64 0, .bool false] 92)) [(wq.heap.size, 92, [.int .i64 0, .int .i64 0, .int .i64 0, .int .i64 0, .bool false]), (g7, 92, [.int .i64 E.t, .int .i64 E.o, .int .i64 E.r, .int .i64 E.s, .bool E.e])]) := hid (P2.out.box 92 [.int .i64 0, .int .i64 0, .int .i64 0, .int .i64 0, .bool false])
      have HNe : Hid (g7 ≠ wq.heap.size) := hid (by have := (P2.out.get 0 rfl).lt; omega)
      clear P2
      generalize World.alloc _ _ = w3 at *
      generalize wq.heap.size = g9 at *
      refine hK.out _ _ ⟨(HX.out.on P3.out.bl).c.2.1, (P3.out.get 1 rfl).cell 1⟩ (fun hHeld => ?_)
      clear hK KQ
      try simp only [Act.put, List.setIfInBounds_toArray, List.set_cons_zero, List.set_cons_succ]
      refine wpAnyH_ready (rs := [6]) (by kernel_rfl) (by simp) (AllReadyH.cons (o := ⟨some 27, .call { callee := .value (.func 49), args := #[.tmp 24, .tmp 26], argTypes := #[31, 3] }, 93, "outright.go:24", #[⟨3, .data⟩, ⟨5, .data⟩], none⟩) rfl (fun KQ hK => ?_) AllReadyH.nil)
      go_simp
      refine (HE2.out _ (HX.out.on P3.out.bl).own).mono ?_
      rintro e w4 ⟨rfl, hb4⟩
      have P4 := hid (P3.out.on hb4)
      have HL4 := hid (show g9 < w4.heap.size by exact (P4.out.get 0 rfl).lt)
      clear hb4 P3
      go_wp2_with fail
      refine hK.out _ _ ⟨(HX.out.on P4.out.bl).c.2.1, (P4.out.get 1 rfl).cell 1⟩ (fun hHeld => ?_)
      clear hK KQ
      try simp only [Act.put, List.setIfInBounds_toArray, List.set_cons_zero, List.set_cons_succ]
      refine tk 7 ⟨some 20, .move (.tmp 27), 93, "outright.go:24", #[⟨6, .data⟩], none⟩ (.tuple #[.agg #[.int .i64 O.t, .int .i64 O.o, .int .i64 O.r, .int .i64 O.s, .bool O.e], .int .i64 0]) ?_
      simp only [Act.put, List.setIfInBounds_toArray, List.set_cons_zero, List.set_cons_succ]
      refine tk 8 ⟨some 28, .extract (.tmp 20) 0, 92, "outright.go:24", #[⟨7, .data⟩], none⟩ (.agg #[.int .i64 O.t, .int .i64 O.o, .int .i64 O.r, .int .i64 O.s, .bool O.e]) ?_
      simp only [Act.put, List.setIfInBounds_toArray, List.set_cons_zero, List.set_cons_succ]
      refine tk 9 ⟨some 29, .extract (.tmp 20) 1, 54, "outright.go:24", #[⟨7, .data⟩, { on := 11, ground := .gcOnly Departure.lateStores }], none⟩ (.int .i64 0) ?_
      simp only [Act.put, List.setIfInBounds_toArray, List.set_cons_zero, List.set_cons_succ]
      refine wpAnyH_ready (rs := [11]) (by kernel_rfl) (by simp) (AllReadyH.cons (o := ⟨none, .store 92 (.tmp 9) (.tmp 28), 0, "outright.go:24", #[⟨10, .data⟩, ⟨8, .data⟩, ⟨6, .chain⟩, ⟨0, .phase⟩, ⟨1, .phase⟩, ⟨2, .phase⟩, ⟨3, .phase⟩, ⟨4, .phase⟩, ⟨5, .phase⟩, ⟨6, .phase⟩, ⟨7, .phase⟩, ⟨8, .phase⟩, { on := 9, ground := .textOnly Departure.lateStores }, ⟨10, .phase⟩], none⟩) rfl (fun KQ hK => ?_) AllReadyH.nil)
      rw [if_pos (by rfl)]
      refine wp_store_st 92 _ _ rfl g9 [.int .i64 O.t, .int .i64 O.o, .int .i64 O.r, .int .i64 O.s, .bool O.e] rfl rfl (P4.out.get 0 rfl) sizeE rfl rfl ?_
      intro w5 hc5 hb5 hs5
      have P5 := hid (P4.out.put (by intro y hy; rw [List.mem_singleton] at hy; subst hy; exact HNe.out) hc5 hb5)
      clear hc5 hb5 hs5 P4
      refine hK.out _ _ ⟨(HX.out.on P5.out.bl).c.2.1, (P5.out.get 1 rfl).cell 1⟩ (fun hHeld => ?_)
      clear hK KQ
      try simp only [Act.put]
      refine wpAnyH_ready (rs := [12]) (by kernel_rfl) (by simp) (AllReadyH.cons (o := ⟨some 10, .assign (.tmp 29), 54, "outright.go:24", #[⟨9, .data⟩, ⟨11, .chain⟩, ⟨0, .phase⟩, ⟨1, .phase⟩, ⟨2, .phase⟩, ⟨3, .phase⟩, ⟨4, .phase⟩, ⟨5, .phase⟩, ⟨6, .phase⟩, ⟨7, .phase⟩, ⟨8, .phase⟩, ⟨9, .phase⟩, ⟨10, .phase⟩, ⟨11, .phase⟩], none⟩) rfl (fun KQ hK => ?_) AllReadyH.nil)
      go_simp
      refine hK.out _ _ ⟨(HX.out.on P5.out.bl).c.2.1, (P5.out.get 1 rfl).cell 1⟩ (fun hHeld => ?_)
      clear hK KQ
      try simp only [Act.put, List.setIfInBounds_toArray, List.set_cons_zero, List.set_cons_succ]
      refine wpAnyH_done (by kernel_rfl) ?_ _
      go_wp2_with fail
      go_meet
      exact ⟨g9, rfl, rfl, P5⟩
  case rest =>
    obtain ⟨g9, rfl, rfl, HP⟩ := hcut
    clear P1 HX2
    have y0 := (HP.out.get 1 rfl).cell 0
    have y1 := (HP.out.get 1 rfl).cell 1
    have y2 := (HP.out.get 1 rfl).cell 2
    have y3 := (HP.out.get 0 rfl).cell 0
    simp only [List.getElem?_cons_zero, List.getElem?_cons_succ] at y0 y1 y2 y3
    have HXp := hid (HX.out.on HP.out.bl)
    clear HX
    by_cases k1 : k = 1
    · subst k1
      rw [if_pos rfl] at HR
      by_cases t1 : E.t = 1
      · have b1 : (E.t != 1) = false := by simpa using t1
        rw [b1, Bool.false_or] at HR
        go_wp2_with fail
        go_ret
        exact ⟨by rw [← HR.out]; rfl, HP.out.bl⟩
      · have b1 : (E.t != 1) = true := by simpa using t1
        rw [b1, Bool.true_or] at HR
        go_wp2_with fail
        go_ret
        exact ⟨by rw [← HR.out]; rfl, HP.out.bl⟩
    rw [if_neg k1] at HR
    have n1 : (k == 1) = false := by simpa using k1
    clear k1
    by_cases k2 : k = 2
    · subst k2
      rw [if_pos rfl] at HR
      by_cases t1 : E.t = 0
      · have b1 : (E.t != 0) = false := by simpa using t1
        rw [b1, Bool.false_or] at HR
        go_wp2_with (go_at_call 50; refine (HBl.out _ HXp.out).mono ?_; rw [HR.out]; rintro e w6 ⟨rfl, hb6⟩; have P6 := hid (HP.out.on hb6); clear hb6)
        go_ret
        exact ⟨rfl, P6.out.bl⟩
      · have b1 : (E.t != 0) = true := by simpa using t1
        rw [b1, Bool.true_or] at HR
        go_wp2_with fail
        go_ret
        exact ⟨by rw [← HR.out]; rfl, HP.out.bl⟩
    rw [if_neg k2] at HR
    have n2 : (k == 2) = false := by simpa using k2
    clear k2
    by_cases k3 : k = 3
    · subst k3
      rw [if_pos rfl] at HR
      by_cases t0 : E.t = 0
      · have b0 : (E.t == 0) = true := by simpa using t0
        rw [b0, Bool.true_or] at HR
        go_wp2_with fail
        go_ret
        exact ⟨by rw [← HR.out]; rfl, HP.out.bl⟩
      · have b0 : (E.t == 0) = false := by simpa using t0
        rw [b0, Bool.false_or] at HR
        by_cases t1 : E.t = 1
        · have b1 : (E.t == 1) = true := by simpa using t1
          rw [b1, Bool.true_or] at HR
          clear t0 t1
          go_wp2_with fail
          go_ret
          exact ⟨by rw [← HR.out]; rfl, HP.out.bl⟩
        · have b1 : (E.t == 1) = false := by simpa using t1
          rw [b1, Bool.false_or] at HR
          clear t0 t1
          go_wp2_with (go_at_call 25; refine (HNm.out _ _).mono ?_; rintro e wx ⟨rfl, hw⟩; subst wx)
          go_ret
          exact ⟨by rw [← HR.out]; rfl, HP.out.bl⟩
    rw [if_neg k3] at HR
    have n3 : (k == 3) = false := by simpa using k3
    clear k3
    by_cases k4 : k = 4
    · subst k4
      rw [if_pos rfl] at HR
      go_upto_region 11 with fail
      have P2 := hid (HP.out.on (Below.refl _ _).drew)
      have HXq := hid (HXp.out.on (Below.refl _ _).drew)
      clear HP HXp y0 y1 y2 y3
      by_cases t1 : E.t = 1
      · have b1 : (E.t != 1) = false := by simpa using t1
        rw [b1, Bool.false_or] at HR
        refine wp_region_held_drew (S := fun w => (w.cell? ⟨g, 1, none⟩ = some (.pointer (some ⟨p.g, 0, none⟩)) ∧ w.cell? ⟨g7, 0, none⟩ = some (.int .i64 E.t)) ∧ w.cell? ⟨g7, 2, none⟩ = some (.int .i64 E.r)) (by kernel_rfl) ⟨⟨HXq.out.c.2.1, (P2.out.get 1 rfl).cell 0⟩, (P2.out.get 1 rfl).cell 2⟩ (fun hHeld => ?_)
        refine tk 0 ⟨some 74, .fieldAddr 92 (.tmp 7) 0, 0, "outright.go:33", #[], none⟩ (.pointer (some ⟨g7, 0, none⟩)) ?_
        simp only [Act.put, List.setIfInBounds_toArray, List.set_cons_zero, List.set_cons_succ]
        refine tk 1 ⟨some 75, .load 76 (.tmp 74), 76, "outright.go:33", #[⟨0, .data⟩], none⟩ (.int .i64 E.t) ?_ (hy := Or.inl ⟨by rfl, by intro w hSw; have hc := hSw.1.2; go_simp⟩)
        simp only [Act.put, List.setIfInBounds_toArray, List.set_cons_zero, List.set_cons_succ]
        refine tk 2 ⟨some 76, .binOp .neq 76 (.tmp 75) (.const (.int .i64 1)) 76, 4, "outright.go:33", #[⟨1, .data⟩], none⟩ (.bool false) ?_
        simp only [Act.put, List.setIfInBounds_toArray, List.set_cons_zero, List.set_cons_succ]
        refine tk 3 ⟨some 77, .move (.tmp 76), 4, "outright.go:33", #[⟨2, .data⟩], none⟩ (.bool false) ?_
        simp only [Act.put, List.setIfInBounds_toArray, List.set_cons_zero, List.set_cons_succ]
        refine tk 4 ⟨some 78, .fieldAddr 92 (.tmp 7) 2, 0, "outright.go:33", #[⟨3, .guard⟩], some (3, false)⟩ (.pointer (some ⟨g7, 2, none⟩)) ?_
        simp only [Act.put, List.setIfInBounds_toArray, List.set_cons_zero, List.set_cons_succ]
        refine tk 5 ⟨some 79, .load 3 (.tmp 78), 3, "outright.go:33", #[⟨4, .data⟩, ⟨3, .guard⟩], some (3, false)⟩ (.int .i64 E.r) ?_ (hy := Or.inl ⟨by rfl, by intro w hSw; have hc := hSw.2; go_simp⟩)
        simp only [Act.put, List.setIfInBounds_toArray, List.set_cons_zero, List.set_cons_succ]
        refine tk 6 ⟨some 80, .move (.tmp 0), 26, "outright.go:33", #[⟨3, .guard⟩], some (3, false)⟩ (.pointer (some ⟨g, 0, none⟩)) ?_
        simp only [Act.put, List.setIfInBounds_toArray, List.set_cons_zero, List.set_cons_succ]
        refine tk 7 ⟨some 81, .nilCheck (.tmp 80), 0, "outright.go:33", #[⟨6, .data⟩, ⟨3, .guard⟩], some (3, false)⟩ (.pointer (some ⟨g, 0, none⟩)) ?_
        simp only [Act.put, List.setIfInBounds_toArray, List.set_cons_zero, List.set_cons_succ]
        refine tk 8 ⟨some 82, .fieldAddr 34 (.tmp 81) 1, 0, "outright.go:33", #[⟨7, .data⟩, ⟨3, .guard⟩], some (3, false)⟩ (.pointer (some ⟨g, 1, none⟩)) ?_
        simp only [Act.put, List.setIfInBounds_toArray, List.set_cons_zero, List.set_cons_succ]
        refine tk 9 ⟨some 83, .load 31 (.tmp 82), 31, "outright.go:33", #[⟨8, .data⟩, ⟨3, .guard⟩], some (3, false)⟩ (.pointer (some ⟨p.g, 0, none⟩)) ?_ (hy := Or.inl ⟨by rfl, by intro w hSw; have hc := hSw.1.1; go_simp⟩)
        simp only [Act.put, List.setIfInBounds_toArray, List.set_cons_zero, List.set_cons_succ]
        refine tk 10 ⟨some 84, .move (.tmp 2), 3, "outright.go:33", #[⟨3, .guard⟩], some (3, false)⟩ (.int .i64 (q : Int)) ?_
        simp only [Act.put, List.setIfInBounds_toArray, List.set_cons_zero, List.set_cons_succ]
        refine wpAnyH_ready (rs := [11]) (by kernel_rfl) (by simp) (AllReadyH.cons (o := ⟨some 85, .call { callee := .value (.func 51), args := #[.tmp 83, .tmp 84], argTypes := #[31, 3] }, 96, "outright.go:33", #[⟨9, .data⟩, ⟨10, .data⟩, ⟨3, .chain⟩, ⟨3, .guard⟩], some (3, false)⟩) rfl (fun KQ hK => ?_) AllReadyH.nil)
        go_simp
        refine (HOw.out _ HXq.out.own).mono ?_
        rintro e w6 ⟨v6, rfl, ho6, hb6⟩
        obtain ⟨xo, xc, rfl⟩ := own3_slice9 ho6
        have P6 := hid (P2.out.on hb6)
        have HX6 := hid (HXq.out.on hb6)
        clear hb6 ho6 P2 HXq
        go_wp2_with fail
        refine hK.out _ _ ⟨⟨HX6.out.c.2.1, (P6.out.get 1 rfl).cell 0⟩, (P6.out.get 1 rfl).cell 2⟩ (fun hHeld => ?_)
        clear hK KQ
        try simp only [Act.put, List.setIfInBounds_toArray, List.set_cons_zero, List.set_cons_succ]
        refine tk 12 ⟨some 86, .call { callee := .builtin .len, args := #[.tmp 85], argTypes := #[96] }, 3, "outright.go:33", #[⟨11, .data⟩, ⟨3, .guard⟩], some (3, false)⟩ (.int .i64 ((d.owned (q : Int)).length : Int)) ?_
        simp only [Act.put, List.setIfInBounds_toArray, List.set_cons_zero, List.set_cons_succ]
        refine tk 13 ⟨some 87, .binOp .eql 3 (.tmp 79) (.tmp 86) 3, 4, "outright.go:33", #[⟨5, .data⟩, ⟨12, .data⟩, ⟨3, .guard⟩], some (3, false)⟩ (.bool (E.r == ((d.owned (q : Int)).length : Int))) ?_
        simp only [Act.put, List.setIfInBounds_toArray, List.set_cons_zero, List.set_cons_succ]
        refine tk 14 ⟨some 88, .pick (.tmp 77) (.const (.bool true)) (.tmp 87), 4, "outright.go:33", #[⟨3, .data⟩, ⟨13, .data⟩], none⟩ (.bool (E.r == ((d.owned (q : Int)).length : Int))) ?_
        simp only [Act.put, List.setIfInBounds_toArray, List.set_cons_zero, List.set_cons_succ]
        refine wpAnyH_ready (rs := [15]) (by kernel_rfl) (by simp) (AllReadyH.cons (o := ⟨some 6, .assign (.tmp 88), 4, "outright.go:33", #[⟨14, .data⟩, ⟨11, .chain⟩, ⟨0, .phase⟩, ⟨1, .phase⟩, ⟨2, .phase⟩, ⟨3, .phase⟩, ⟨4, .phase⟩, ⟨5, .phase⟩, ⟨6, .phase⟩, ⟨7, .phase⟩, ⟨8, .phase⟩, ⟨9, .phase⟩, ⟨10, .phase⟩, ⟨11, .phase⟩, ⟨12, .phase⟩, ⟨13, .phase⟩, ⟨14, .phase⟩], none⟩) rfl (fun KQ hK => ?_) AllReadyH.nil)
        go_simp
        refine hK.out _ _ ⟨⟨HX6.out.c.2.1, (P6.out.get 1 rfl).cell 0⟩, (P6.out.get 1 rfl).cell 2⟩ (fun hHeld => ?_)
        clear hK KQ
        try simp only [Act.put, List.setIfInBounds_toArray, List.set_cons_zero, List.set_cons_succ]
        refine wpAnyH_done (by kernel_rfl) ?_ _
        go_wp2_with fail
        go_ret
        exact ⟨by rw [← HR.out]; rfl, P6.out.bl⟩
      · have b1 : (E.t != 1) = true := by simpa using t1
        rw [b1, Bool.true_or] at HR
        refine wp_region_held_drew (S := fun w => (w.cell? ⟨g, 1, none⟩ = some (.pointer (some ⟨p.g, 0, none⟩)) ∧ w.cell? ⟨g7, 0, none⟩ = some (.int .i64 E.t)) ∧ w.cell? ⟨g7, 2, none⟩ = some (.int .i64 E.r)) (by kernel_rfl) ⟨⟨HXq.out.c.2.1, (P2.out.get 1 rfl).cell 0⟩, (P2.out.get 1 rfl).cell 2⟩ (fun hHeld => ?_)
        refine tk 0 ⟨some 74, .fieldAddr 92 (.tmp 7) 0, 0, "outright.go:33", #[], none⟩ (.pointer (some ⟨g7, 0, none⟩)) ?_
        simp only [Act.put, List.setIfInBounds_toArray, List.set_cons_zero, List.set_cons_succ]
        refine tk 1 ⟨some 75, .load 76 (.tmp 74), 76, "outright.go:33", #[⟨0, .data⟩], none⟩ (.int .i64 E.t) ?_ (hy := Or.inl ⟨by rfl, by intro w hSw; have hc := hSw.1.2; go_simp⟩)
        simp only [Act.put, List.setIfInBounds_toArray, List.set_cons_zero, List.set_cons_succ]
        refine tk 2 ⟨some 76, .binOp .neq 76 (.tmp 75) (.const (.int .i64 1)) 76, 4, "outright.go:33", #[⟨1, .data⟩], none⟩ (.bool true) ?_
        simp only [Act.put, List.setIfInBounds_toArray, List.set_cons_zero, List.set_cons_succ]
        refine tk 3 ⟨some 77, .move (.tmp 76), 4, "outright.go:33", #[⟨2, .data⟩], none⟩ (.bool true) ?_
        simp only [Act.put, List.setIfInBounds_toArray, List.set_cons_zero, List.set_cons_succ]
        refine tk 4 ⟨some 78, .fieldAddr 92 (.tmp 7) 2, 0, "outright.go:33", #[⟨3, .guard⟩], some (3, false)⟩ undef ?_ (hy := Or.inr ⟨by rfl, rfl⟩)
        simp only [Act.put, List.setIfInBounds_toArray, List.set_cons_zero, List.set_cons_succ]
        refine tk 5 ⟨some 79, .load 3 (.tmp 78), 3, "outright.go:33", #[⟨4, .data⟩, ⟨3, .guard⟩], some (3, false)⟩ undef ?_ (hy := Or.inr ⟨by rfl, rfl⟩)
        simp only [Act.put, List.setIfInBounds_toArray, List.set_cons_zero, List.set_cons_succ]
        refine tk 6 ⟨some 80, .move (.tmp 0), 26, "outright.go:33", #[⟨3, .guard⟩], some (3, false)⟩ undef ?_ (hy := Or.inr ⟨by rfl, rfl⟩)
        simp only [Act.put, List.setIfInBounds_toArray, List.set_cons_zero, List.set_cons_succ]
        refine tk 7 ⟨some 81, .nilCheck (.tmp 80), 0, "outright.go:33", #[⟨6, .data⟩, ⟨3, .guard⟩], some (3, false)⟩ undef ?_ (hy := Or.inr ⟨by rfl, rfl⟩)
        simp only [Act.put, List.setIfInBounds_toArray, List.set_cons_zero, List.set_cons_succ]
        refine tk 8 ⟨some 82, .fieldAddr 34 (.tmp 81) 1, 0, "outright.go:33", #[⟨7, .data⟩, ⟨3, .guard⟩], some (3, false)⟩ undef ?_ (hy := Or.inr ⟨by rfl, rfl⟩)
        simp only [Act.put, List.setIfInBounds_toArray, List.set_cons_zero, List.set_cons_succ]
        refine tk 9 ⟨some 83, .load 31 (.tmp 82), 31, "outright.go:33", #[⟨8, .data⟩, ⟨3, .guard⟩], some (3, false)⟩ undef ?_ (hy := Or.inr ⟨by rfl, rfl⟩)
        simp only [Act.put, List.setIfInBounds_toArray, List.set_cons_zero, List.set_cons_succ]
        refine tk 10 ⟨some 84, .move (.tmp 2), 3, "outright.go:33", #[⟨3, .guard⟩], some (3, false)⟩ undef ?_ (hy := Or.inr ⟨by rfl, rfl⟩)
        simp only [Act.put, List.setIfInBounds_toArray, List.set_cons_zero, List.set_cons_succ]
        refine tk 11 ⟨some 85, .call { callee := .value (.func 51), args := #[.tmp 83, .tmp 84], argTypes := #[31, 3] }, 96, "outright.go:33", #[⟨9, .data⟩, ⟨10, .data⟩, ⟨3, .chain⟩, ⟨3, .guard⟩], some (3, false)⟩ undef ?_ (hy := Or.inr ⟨by rfl, rfl⟩)
        simp only [Act.put, List.setIfInBounds_toArray, List.set_cons_zero, List.set_cons_succ]
        refine tk 12 ⟨some 86, .call { callee := .builtin .len, args := #[.tmp 85], argTypes := #[96] }, 3, "outright.go:33", #[⟨11, .data⟩, ⟨3, .guard⟩], some (3, false)⟩ undef ?_ (hy := Or.inr ⟨by rfl, rfl⟩)
        simp only [Act.put, List.setIfInBounds_toArray, List.set_cons_zero, List.set_cons_succ]
        refine tk 13 ⟨some 87, .binOp .eql 3 (.tmp 79) (.tmp 86) 3, 4, "outright.go:33", #[⟨5, .data⟩, ⟨12, .data⟩, ⟨3, .guard⟩], some (3, false)⟩ undef ?_ (hy := Or.inr ⟨by rfl, rfl⟩)
        simp only [Act.put, List.setIfInBounds_toArray, List.set_cons_zero, List.set_cons_succ]
        refine tk 14 ⟨some 88, .pick (.tmp 77) (.const (.bool true)) (.tmp 87), 4, "outright.go:33", #[⟨3, .data⟩, ⟨13, .data⟩], none⟩ (.bool true) ?_
        simp only [Act.put, List.setIfInBounds_toArray, List.set_cons_zero, List.set_cons_succ]
        refine wpAnyH_ready (rs := [15]) (by kernel_rfl) (by simp) (AllReadyH.cons (o := ⟨some 6, .assign (.tmp 88), 4, "outright.go:33", #[⟨14, .data⟩, ⟨11, .chain⟩, ⟨0, .phase⟩, ⟨1, .phase⟩, ⟨2, .phase⟩, ⟨3, .phase⟩, ⟨4, .phase⟩, ⟨5, .phase⟩, ⟨6, .phase⟩, ⟨7, .phase⟩, ⟨8, .phase⟩, ⟨9, .phase⟩, ⟨10, .phase⟩, ⟨11, .phase⟩, ⟨12, .phase⟩, ⟨13, .phase⟩, ⟨14, .phase⟩], none⟩) rfl (fun KQ hK => ?_) AllReadyH.nil)
        go_simp
        refine hK.out _ _ ⟨⟨HXq.out.c.2.1, (P2.out.get 1 rfl).cell 0⟩, (P2.out.get 1 rfl).cell 2⟩ (fun hHeld => ?_)
        clear hK KQ
        try simp only [Act.put, List.setIfInBounds_toArray, List.set_cons_zero, List.set_cons_succ]
        refine wpAnyH_done (by kernel_rfl) ?_ _
        go_wp2_with fail
        go_ret
        exact ⟨by rw [← HR.out]; rfl, P2.out.bl⟩
    rw [if_neg k4] at HR
    have n4 : (k == 4) = false := by simpa using k4
    clear k4
    by_cases k12 : k = 12
    · subst k12
      rw [if_pos rfl] at HR
      by_cases t1 : E.t = 6
      · have b1 : (E.t != 6) = false := by simpa using t1
        rw [b1, Bool.false_or] at HR
        go_wp2_with (go_at_call 50; refine (HBl.out _ HXp.out).mono ?_; rw [HR.out]; rintro e w6 ⟨rfl, hb6⟩; have P6 := hid (HP.out.on hb6); clear hb6)
        go_ret
        exact ⟨rfl, P6.out.bl⟩
      · have b1 : (E.t != 6) = true := by simpa using t1
        rw [b1, Bool.true_or] at HR
        go_wp2_with fail
        go_ret
        exact ⟨by rw [← HR.out]; rfl, HP.out.bl⟩
    rw [if_neg k12] at HR
    have n12 : (k == 12) = false := by simpa using k12
    clear k12
    go_wp2_with fail
    go_ret
    exact ⟨by rw [← HR.out]; rfl, HP.out.bl⟩
end Go.Proofs.YtildhjiddidghaaGreatDoor
namespace Go.Proofs.YtildhjiddidghaaGreatDoor
open Go.RowKit
set_option maxHeartbeats 4000000
set_option maxRecDepth 100000
theorem MS.same_me (m : MS) : m.same m = true := by simp [MS.same]
theorem untouched_l (W w : World) (g : Nat) (p : Dp) (r : Rp) (d : DS) (h : SS W w g p r d d) (p2 : Dp) (h2 : DB w p2 d) :
    Calls Tryz.prog 17 #[.pointer (some ⟨g, 0, none⟩), .pointer (some ⟨p2.g, 0, none⟩)] w fun e w' => e = .returned (.bool true) ∧ Below w.heap.size w w' := by
  have HW := hid (fun w p (hw : DB w p d) => words_any w p d hw)
  have HSm := hid (fun w f f' (hm : Mem w f d.m) (hm' : Mem w f' d.m) => same_any w f d.m hm f' d.m hm')
  have HMy := hid (fun w (hw : DB w p2 d) => memory_any w p2 d hw)
  have HX := hid h
  have HY := hid h2
  have HL := hid (DS.ws_len h.own.ok)
  have n64 := h.own.ok.n64
  have N1 : ((1 + 2 * d.m.ns : Nat) : Int) ≤ 129 := by omega
  clear h h2 n64
  simp only [ptr, MS.same_me] at HW HSm HMy
  generalize 1 + 2 * d.m.ns = N at *
  go_enter Tryz.func17, Tryz.ntmps17
  obtain ⟨x0, x1, x2⟩ := HX.out.c
  go_upto_region 2 with (go_at_call 46; refine (HW.out _ p HX.out.own).mono ?_; rintro e w1 ⟨g5, rfl, hc5, hg5, hb1⟩; have B1 := hid hb1; have C5 := hid hc5; clear hb1 hc5 hg5)
  clear x0 x1 x2
  go_upto_region 3 with (go_at_call 46; refine (HW.out _ p2 (HY.out.on B1.out)).mono ?_; rintro e w2 ⟨g6, rfl, hc6, hg6, hb2⟩; have B2 := hid (below_on B1.out hb2); have C6 := hid hc6; have C52 := hid (C5.out.on hb2); clear hb2 hc6 hg6 B1 C5)
  have B3 := hid (below_on B2.out (Below.refl _ _).drew)
  have C53 := hid (C52.out.on (Below.refl _ w2).drew)
  have C63 := hid (C6.out.on (Below.refl _ w2).drew)
  clear B2 C6 C52
  refine wp_region_held_drew (S := fun w => w.cell? ⟨g, 0, none⟩ = some (.pointer (some ⟨p.f.gm, 0, none⟩))) (by kernel_rfl) (HX.out.on B3.out).c.1 (fun hHeld => ?_)
  refine tk 0 ⟨some 15, .move (.tmp 5), 40, "outright.go:86", #[], none⟩ (.slice (some ⟨g5, 0, none⟩) N N) ?_
  simp only [Act.put, List.setIfInBounds_toArray, List.set_cons_zero, List.set_cons_succ]
  refine tk 1 ⟨some 16, .call { callee := .builtin .len, args := #[.tmp 15], argTypes := #[40] }, 3, "outright.go:86", #[⟨0, .data⟩], none⟩ (.int .i64 (N : Int)) ?_
  simp only [Act.put, List.setIfInBounds_toArray, List.set_cons_zero, List.set_cons_succ]
  refine tk 2 ⟨some 17, .move (.tmp 6), 40, "outright.go:86", #[], none⟩ (.slice (some ⟨g6, 0, none⟩) N N) ?_
  simp only [Act.put, List.setIfInBounds_toArray, List.set_cons_zero, List.set_cons_succ]
  refine tk 3 ⟨some 18, .call { callee := .builtin .len, args := #[.tmp 17], argTypes := #[40] }, 3, "outright.go:86", #[⟨2, .data⟩], none⟩ (.int .i64 (N : Int)) ?_
  simp only [Act.put, List.setIfInBounds_toArray, List.set_cons_zero, List.set_cons_succ]
  refine tk 4 ⟨some 19, .binOp .neq 3 (.tmp 16) (.tmp 18) 3, 4, "outright.go:86", #[⟨1, .data⟩, ⟨3, .data⟩], none⟩ (.bool false) ?_
  simp only [Act.put, List.setIfInBounds_toArray, List.set_cons_zero, List.set_cons_succ]
  refine tk 5 ⟨some 20, .move (.tmp 19), 4, "outright.go:86", #[⟨4, .data⟩], none⟩ (.bool false) ?_
  simp only [Act.put, List.setIfInBounds_toArray, List.set_cons_zero, List.set_cons_succ]
  refine tk 6 ⟨some 21, .move (.tmp 0), 26, "outright.go:86", #[⟨5, .guard⟩], some (5, false)⟩ (.pointer (some ⟨g, 0, none⟩)) ?_
  simp only [Act.put, List.setIfInBounds_toArray, List.set_cons_zero, List.set_cons_succ]
  refine tk 7 ⟨some 22, .nilCheck (.tmp 21), 0, "outright.go:86", #[⟨6, .data⟩, ⟨5, .guard⟩], some (5, false)⟩ (.pointer (some ⟨g, 0, none⟩)) ?_
  simp only [Act.put, List.setIfInBounds_toArray, List.set_cons_zero, List.set_cons_succ]
  refine tk 8 ⟨some 23, .fieldAddr 34 (.tmp 22) 0, 0, "outright.go:86", #[⟨7, .data⟩, ⟨5, .guard⟩], some (5, false)⟩ (.pointer (some ⟨g, 0, none⟩)) ?_
  simp only [Act.put, List.setIfInBounds_toArray, List.set_cons_zero, List.set_cons_succ]
  refine tk 9 ⟨some 24, .load 30 (.tmp 23), 30, "outright.go:86", #[⟨8, .data⟩, ⟨5, .guard⟩], some (5, false)⟩ (.pointer (some ⟨p.f.gm, 0, none⟩)) ?_ (hy := Or.inl ⟨by rfl, by intro w hSw; have hc := hSw; go_simp⟩)
  simp only [Act.put, List.setIfInBounds_toArray, List.set_cons_zero, List.set_cons_succ]
  refine tk 10 ⟨some 25, .move (.tmp 1), 31, "outright.go:86", #[⟨5, .guard⟩], some (5, false)⟩ (.pointer (some ⟨p2.g, 0, none⟩)) ?_
  simp only [Act.put, List.setIfInBounds_toArray, List.set_cons_zero, List.set_cons_succ]
  refine wpAnyH_ready (rs := [11]) (by kernel_rfl) (by simp) (AllReadyH.cons (o := ⟨some 26, .call { callee := .value (.func 53), args := #[.tmp 25], argTypes := #[31] }, 30, "outright.go:86", #[⟨10, .data⟩, ⟨5, .chain⟩, ⟨5, .guard⟩], some (5, false)⟩) rfl (fun KQ hK => ?_) AllReadyH.nil)
  go_simp
  refine (HMy.out _ (HY.out.on B3.out)).mono ?_
  rintro e wx ⟨rfl, hw⟩
  subst hw
  go_wp2_with fail
  refine hK.out _ _ (HX.out.on B3.out).c.1 (fun hHeld => ?_)
  clear hK KQ
  try simp only [Act.put, List.setIfInBounds_toArray, List.set_cons_zero, List.set_cons_succ]
  refine wpAnyH_ready (rs := [12]) (by kernel_rfl) (by simp) (AllReadyH.cons (o := ⟨some 27, .call { callee := .value (.func 52), args := #[.tmp 24, .tmp 26], argTypes := #[30, 30] }, 4, "outright.go:86", #[⟨9, .data⟩, ⟨11, .data⟩, ⟨11, .chain⟩, ⟨5, .guard⟩], some (5, false)⟩) rfl (fun KQ hK => ?_) AllReadyH.nil)
  go_simp
  refine (HSm.out _ _ _ (HX.out.on B3.out).own.mem (HY.out.on B3.out).mem).mono ?_
  rintro e w4 ⟨rfl, hb4⟩
  have B4 := hid (below_on B3.out hb4)
  have C54 := hid (C53.out.on hb4)
  have C64 := hid (C63.out.on hb4)
  clear hb4 B3 C53 C63
  go_wp2_with fail
  refine hK.out _ _ (HX.out.on B4.out).c.1 (fun hHeld => ?_)
  clear hK KQ
  try simp only [Act.put, List.setIfInBounds_toArray, List.set_cons_zero, List.set_cons_succ]
  refine tk 13 ⟨some 28, .unOp .not 4 (.tmp 27), 4, "outright.go:86", #[⟨12, .data⟩, ⟨5, .guard⟩], some (5, false)⟩ (.bool false) ?_
  simp only [Act.put, List.setIfInBounds_toArray, List.set_cons_zero, List.set_cons_succ]
  refine tk 14 ⟨some 29, .pick (.tmp 20) (.const (.bool true)) (.tmp 28), 4, "outright.go:86", #[⟨5, .data⟩, ⟨13, .data⟩], none⟩ (.bool false) ?_
  simp only [Act.put, List.setIfInBounds_toArray, List.set_cons_zero, List.set_cons_succ]
  refine wpAnyH_done (by kernel_rfl) ?_ _
  go_upto_region 6 with fail
  go_loopw [7] (fun i wr => ∃ (j : Nat), j ≤ N ∧ i = .int .i64 (j : Int) ∧ Hid (Below w.heap.size w wr) ∧ Hid (Cel wr g5 22 (u32s d.ws)) ∧ Hid (Cel wr g6 22 (u32s d.ws))) (fun i _ => N - (intOf i).toNat)
  case atStart => exact ⟨0, by omega, rfl, B4, C54, C64⟩
  case round =>
    obtain ⟨j, hj, rfl, HB, HC5, HC6⟩ := hrel
    clear B4 C54 C64
    by_cases hlt : j < N
    · have q1 : (j : Int) < (N : Int) := by omega
      have HJ := hid hlt
      obtain ⟨y, hy⟩ : ∃ y, (u32s d.ws)[j]? = some (.int .u32 y) := ⟨_, by rw [u32s, List.getElem?_map, List.getElem?_eq_getElem (by rw [HL.out]; exact hlt)]; rfl⟩
      have D1 : Hid (∀ x, Cel x g5 22 (u32s d.ws) → x.cell? ⟨g5, j, none⟩ = some (.int .u32 y)) := hid (fun x hx => by rw [hx.cell j]; exact hy)
      have D2 : Hid (∀ x, Cel x g6 22 (u32s d.ws) → x.cell? ⟨g6, j, none⟩ = some (.int .u32 y)) := hid (fun x hx => by rw [hx.cell j]; exact hy)
      clear hlt hj hy
      go_upto_region 8 with fail
      have B5 := hid (below_on HB.out (Below.refl _ _).drew)
      have C55 := hid (HC5.out.on (Below.refl _ wr).drew)
      have C65 := hid (HC6.out.on (Below.refl _ wr).drew)
      clear HB HC5 HC6
      refine wp_region_held_drew (S := fun w => w.cell? ⟨g5, j, none⟩ = some (.int .u32 y) ∧ w.cell? ⟨g6, j, none⟩ = some (.int .u32 y)) (by kernel_rfl) ⟨D1.out _ C55.out, D2.out _ C65.out⟩ (fun hHeld => ?_)
      refine tk 0 ⟨some 36, .move (.tmp 5), 40, "outright.go:90", #[], none⟩ (.slice (some ⟨g5, 0, none⟩) N N) ?_
      simp only [Act.put, List.setIfInBounds_toArray, List.set_cons_zero, List.set_cons_succ]
      refine tk 1 ⟨some 37, .move (.tmp 7), 3, "outright.go:90", #[], none⟩ (.int .i64 (j : Int)) ?_
      simp only [Act.put, List.setIfInBounds_toArray, List.set_cons_zero, List.set_cons_succ]
      refine tk 2 ⟨some 38, .indexAddr 40 (.tmp 36) (.tmp 37), 0, "outright.go:90", #[⟨0, .data⟩, ⟨1, .data⟩], none⟩ (.pointer (some ⟨g5, j, none⟩)) ?_
      simp only [Act.put, List.setIfInBounds_toArray, List.set_cons_zero, List.set_cons_succ]
      refine tk 3 ⟨some 39, .load 22 (.tmp 38), 22, "outright.go:90", #[⟨2, .data⟩], none⟩ (.int .u32 y) ?_ (hy := Or.inl ⟨by rfl, by intro w hSw; have hc := hSw.1; go_simp⟩)
      simp only [Act.put, List.setIfInBounds_toArray, List.set_cons_zero, List.set_cons_succ]
      refine tk 4 ⟨some 40, .move (.tmp 6), 40, "outright.go:90", #[], none⟩ (.slice (some ⟨g6, 0, none⟩) N N) ?_
      simp only [Act.put, List.setIfInBounds_toArray, List.set_cons_zero, List.set_cons_succ]
      refine tk 5 ⟨some 41, .move (.tmp 7), 3, "outright.go:90", #[], none⟩ (.int .i64 (j : Int)) ?_
      simp only [Act.put, List.setIfInBounds_toArray, List.set_cons_zero, List.set_cons_succ]
      refine tk 6 ⟨some 42, .indexAddr 40 (.tmp 40) (.tmp 41), 0, "outright.go:90", #[⟨4, .data⟩, ⟨5, .data⟩], none⟩ (.pointer (some ⟨g6, j, none⟩)) ?_
      simp only [Act.put, List.setIfInBounds_toArray, List.set_cons_zero, List.set_cons_succ]
      refine tk 7 ⟨some 43, .load 22 (.tmp 42), 22, "outright.go:90", #[⟨6, .data⟩], none⟩ (.int .u32 y) ?_ (hy := Or.inl ⟨by rfl, by intro w hSw; have hc := hSw.2; go_simp⟩)
      simp only [Act.put, List.setIfInBounds_toArray, List.set_cons_zero, List.set_cons_succ]
      refine tk 8 ⟨some 44, .binOp .neq 22 (.tmp 39) (.tmp 43) 22, 4, "outright.go:90", #[⟨3, .data⟩, ⟨7, .data⟩], none⟩ (.bool false) ?_
      simp only [Act.put, List.setIfInBounds_toArray, List.set_cons_zero, List.set_cons_succ]
      refine wpAnyH_done (by kernel_rfl) ?_ _
      go_wp2_with fail
      go_roundw
      case measure => have := HJ.out; simp [intOf] <;> omega
      case rel => exact ⟨j + 1, HJ.out, by simp, B5, C55, C65⟩
    · obtain rfl : j = N := by omega
      clear hlt hj
      go_wp2_with fail
      go_ret
      exact ⟨rfl, HB.out⟩
end Go.Proofs.YtildhjiddidghaaGreatDoor
namespace Go.Proofs.YtildhjiddidghaaGreatDoor
open Go.RowKit
set_option maxHeartbeats 4000000
theorem bad_spec {d : DS} {c q : Nat} (h : d.bad c = some q) : q < d.m.ns ∧ d.at12 c q = false ∧ ∀ j, j < q → d.at12 c j = true := by
  unfold DS.bad at h
  rw [List.find?_range_eq_some] at h
  obtain ⟨h1, h2, h3⟩ := h
  refine ⟨by simpa using h2, by simpa using h1, fun j hj => ?_⟩
  have := h3 j hj
  simpa using this
theorem bad_all {d : DS} {c : Nat} (h : d.bad c = none) : ∀ q, q < d.m.ns → d.at12 c q = true := fun q hq => by
  unfold DS.bad at h
  rw [List.find?_eq_none] at h
  have := h q (List.mem_range.2 hq)
  simpa using this
theorem holds_bad (d : DS) (k : Nat) (h1 : 1 ≤ k) (h2 : k ≤ 12) : d.holds (k : Int) = (d.bad k).isNone := by
  unfold DS.holds
  have e1 : decide ((1 : Int) ≤ (k : Int)) = true := by simp; omega
  have e2 : decide ((k : Int) ≤ 12) = true := by simp; omega
  rw [e1, e2, Int.toNat_natCast, Bool.and_self, Bool.true_and]
  rw [DS.fb]
  cases hb : d.bad k with
  | none => rfl
  | some q =>
    have : ((k : Int) == 0) = false := by rw [beq_eq_false_iff_ne]; omega
    simpa using this
theorem fb_gen (d : DS) : ∀ (n c : Nat), (d.fb c n = (0, 0) ∧ ∀ i, c ≤ i → i < c + n → d.bad i = none) ∨ ∃ e q, c ≤ e ∧ e < c + n ∧ d.bad e = some q ∧ d.fb c n = ((e : Int), (q : Int)) ∧ ∀ i, c ≤ i → i < e → d.bad i = none
  | 0, c => .inl ⟨rfl, fun i h1 h2 => by omega⟩
  | n + 1, c => by
    rw [DS.fb]
    cases hb : d.bad c with
    | some q => exact .inr ⟨c, q, Nat.le_refl _, by omega, hb, rfl, fun i h1 h2 => by omega⟩
    | none =>
      rcases fb_gen d n (c + 1) with ⟨h1, h2⟩ | ⟨e, q, h1, h2, h3, h4, h5⟩
      · refine .inl ⟨h1, fun i hi1 hi2 => ?_⟩
        by_cases e : i = c
        · rw [e]; exact hb
        · exact h2 i (by omega) (by omega)
      · refine .inr ⟨e, q, by omega, by omega, h3, h4, fun i hi1 hi2 => ?_⟩
        by_cases e : i = c
        · rw [e]; exact hb
        · exact h5 i (by omega) hi2
theorem pl_12 (d : DS) (q : Nat) : d.pl 1 q = d.at12 1 q ∧ d.pl 2 q = d.at12 2 q ∧ d.pl 3 q = d.at12 3 q ∧ d.pl 4 q = d.at12 4 q ∧ d.pl 12 q = d.at12 12 q := by
  refine ⟨?_, ?_, ?_, ?_, ?_⟩ <;> rfl
theorem pl_other (d : DS) (k : Int) (q : Nat) (h : k ≠ 1 ∧ k ≠ 2 ∧ k ≠ 3 ∧ k ≠ 4 ∧ k ≠ 12) : d.pl k q = true := by
  unfold DS.pl
  rw [if_neg h.1, if_neg h.2.1, if_neg h.2.2.1, if_neg h.2.2.2.1, if_neg h.2.2.2.2]
theorem pl_at {d : DS} {k q : Nat} (h : d.pl (k : Int) q = false) : d.at12 k q = false := by
  obtain ⟨a1, a2, a3, a4, a5⟩ := pl_12 d q
  by_cases k1 : k = 1
  · subst k1; rw [← a1]; exact h
  by_cases k2 : k = 2
  · subst k2; rw [← a2]; exact h
  by_cases k3 : k = 3
  · subst k3; rw [← a3]; exact h
  by_cases k4 : k = 4
  · subst k4; rw [← a4]; exact h
  by_cases k5 : k = 12
  · subst k5; rw [← a5]; exact h
  rw [pl_other d _ q (by omega)] at h
  cases h
theorem pl_holds {d : DS} {k q : Nat} (h1 : 1 ≤ k) (h2 : k ≤ 12) (hq : q < d.m.ns) (h : d.pl (k : Int) q = false) : d.holds (k : Int) = false := by
  rw [holds_bad d k h1 h2]
  cases hb : d.bad k with
  | some _ => rfl
  | none => have := pl_at h; rw [bad_all hb q hq] at this; cases this
structure FBs (d : DS) (C Q : Nat) : Prop where
  c12 : C ≤ 12
  q : Q < d.m.ns
  z : C = 0 → Q = 0
  pre : ∀ i : Nat, 1 ≤ i → i ≤ 12 → (C = 0 ∨ i < C) → d.holds (i : Int) = true
  at_ : 1 ≤ C → d.holds (C : Int) = false
  least : 1 ≤ C → ∀ q, d.pl (C : Int) q = false → Q ≤ q
  bad : (C = 1 ∨ C = 2 ∨ C = 3 ∨ C = 4 ∨ C = 12) → d.pl (C : Int) Q = false
theorem fbs (d : DS) (h0 : 0 < d.m.ns) : ∃ C Q : Nat, d.fb 1 12 = ((C : Int), (Q : Int)) ∧ FBs d C Q := by
  rcases fb_gen d 12 1 with ⟨h1, h2⟩ | ⟨c, q, h1, h2, h3, h4, h5⟩
  · refine ⟨0, 0, h1, by omega, h0, fun _ => rfl, fun i hi1 hi2 _ => ?_, fun h => by omega, fun h => by omega, fun h => by omega⟩
    rw [holds_bad d i hi1 hi2, h2 i hi1 (by omega)]; rfl
  · obtain ⟨b1, b2, b3⟩ := bad_spec h3
    refine ⟨c, q, h4, by omega, b1, fun h => by omega, fun i hi1 hi2 hc => ?_, fun _ => ?_, fun _ j hj => ?_, fun hc => ?_⟩
    · rw [holds_bad d i hi1 hi2, h5 i hi1 (by omega)]; rfl
    · rw [holds_bad d c h1 (by omega), h3]; rfl
    · have := pl_at hj
      by_cases e : q ≤ j
      · exact e
      · rw [b3 j (by omega)] at this; cases this
    · obtain ⟨a1, a2, a3, a4, a5⟩ := pl_12 d q
      rcases hc with rfl | rfl | rfl | rfl | rfl
      · rw [← b2]; exact a1
      · rw [← b2]; exact a2
      · rw [← b2]; exact a3
      · rw [← b2]; exact a4
      · rw [← b2]; exact a5
end Go.Proofs.YtildhjiddidghaaGreatDoor
