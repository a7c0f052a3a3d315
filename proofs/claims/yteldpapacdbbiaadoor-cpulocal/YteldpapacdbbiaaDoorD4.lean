/- The law's reach 19: its walk. -/
import Derived.Test.YteldpapacdbbiaaDoorD3
namespace Go.Proofs.YteldpapacdbbiaaDoor
open Go.RowKit
set_option maxHeartbeats 8000000
set_option maxRecDepth 100000
attribute [-simp] Tryd.isAgg26 Tryd.sizeOf26 Tryd.isAgg24 Tryd.isAgg28 Tryd.sizeOf28
theorem lreach_any (W : World) (hT : Tb W) (fp : Fp) (m : MS) (hM : Mem W fp m) (hU : m.U) (l : Int) (f : F) (hF : f.U) :
    Calls Tryd.prog 19 #[ptr fp.gm, .int .i64 l, f.v] W fun e W' => ∃ v, e = .returned (.agg (rcs v (stS m l f) (stT m l f).1 (stT m l f).2.1 (stT m l f).2.2).toArray) ∧ Hp W W' v (rds m l f) := by
  have HC5 := hid ((Cel.new W 26 f.cs).on (below_one (W.alloc (.cells f.cs.toArray 26)) (.cells (rcs (.slice none 0 0) false false 0 0).toArray 64)))
  have HC6 : Hid (Cel ((W.alloc (.cells f.cs.toArray 26)).alloc (.cells (rcs (.slice none 0 0) false false 0 0).toArray 64)) (W.heap.size + 1) 64 (rcs (.slice none 0 0) false false 0 0)) := hid (by
    have := Cel.new (W.alloc (.cells f.cs.toArray 26)) 64 (rcs (.slice none 0 0) false false 0 0)
    rwa [World.size_alloc] at this)
  have HB := hid (below_on (below_one W (.cells f.cs.toArray 26)) (below_one _ (.cells (rcs (.slice none 0 0) false false 0 0).toArray 64)))
  have HXs : Hid (((W.alloc (.cells f.cs.toArray 26)).alloc (.cells (rcs (.slice none 0 0) false false 0 0).toArray 64)).heap.size = W.heap.size + 2) := hid (by rw [World.size_alloc, World.size_alloc])
  have HMx := hid ((hM.on (below_one W (.cells f.cs.toArray 26))).on (below_one _ (.cells (rcs (.slice none 0 0) false false 0 0).toArray 64)))
  have HLm := hid hM.lt
  have HT := hid hT
  have HU := hid hU
  have HF := hid hF
  have HTb := hid (fun x va (hx : Mem x fp m) (h0 : 0 ≤ va) (h1 : va < 4294967296) => tables_any x fp m hx hU l va h0 h1)
  have HCo := hid (fun x va a (hx : Mem x fp m) (h0 : 0 ≤ va) (h1 : va < 4294967296) => comes_any x fp m hx hU l va a h0 h1)
  have HPk : Hid (∀ x, Mem x fp m → Calls Tryd.prog 16 #[ptr fp.gm, fr (m.trS l f.pc 2) (m.trP l f.pc 2), .int .i64 (m.trO l f.pc 2)] x fun e w' => e = .returned (.int .u32 (m.fw l f.pc)) ∧ Below x.heap.size x w') := hid (fun x hx => peek_any x fp m hx _ _ _)
  have hw : 0 ≤ m.fw l f.pc ∧ m.fw l f.pc < 4294967296 := hU.word _ _ _
  have HDe := hid (fun x (hx : Tb x) => I.decode_any x hx.f hx.t hx.z (m.fw l f.pc) hw.1 hw.2)
  have HDk := hid (@dec_ok (m.fw l f.pc))
  have HP := hid (And.intro hF.p0 hF.p1)
  clear hM hU hF hT hw
  generalize hrd : rds m l f = RD at *
  have HRd := hid hrd
  clear hrd
  unfold rds at HRd
  generalize hss : stS m l f = SS at *
  have HSs := hid hss
  clear hss
  unfold stS at HSs
  generalize htt : stT m l f = TT at *
  have HTt := hid htt
  clear htt
  unfold stT at HTt
  generalize I.decE (m.fw l f.pc) = de at *
  generalize I.dec (m.fw l f.pc) = i at *
  obtain ⟨op, cond, a, b, c, imm⟩ := i
  simp only [I.Ins.v] at HDe
  simp only [plc] at HCo
  unfold ptr fr at *
  unfold F.v
  simp only [rcs] at HC5 HC6 HB HXs HMx
  go_enter Tryd.func19, Tryd.ntmps19
  go_upto_region 1 with fail
  generalize hX : (W.alloc _).alloc _ = X at *
  clear hX
  have y15 := (HC5.out.cell 15).trans f.at15
  go_wp2_with fail
  refine (HTb.out _ f.pc HMx.out HP.out.1 HP.out.2).mono ?_
  rintro e w1 ⟨v1, rfl, ht1⟩
  obtain ⟨ao, cp, hv⟩ := ht1.hp.form
  subst hv
  have HX1 := hid ht1.below
  have HH : Hid (Hp W w1 (.slice ao (m.tbl l f.pc).length cp) (m.tbl l f.pc)) := hid (by
    have h := ht1.hp
    refine ⟨⟨h.own.1, h.own.2.imp id fun ⟨g, cap, cur, hv, hB, r⟩ => ⟨g, cap, cur, hv, by have := HB.out.size; omega, r⟩⟩, below_on HB.out h.below⟩)
  clear ht1 y15
  go_upto_region 2 with fail
  have HR : Hid (RS W (w1.alloc (.cells #[.slice ao (m.tbl l f.pc).length cp, .bool false, .bool false, .int .i64 0, .int .i64 0] 64)) W.heap.size (W.heap.size + 1) w1.heap.size fp m f (.slice ao (m.tbl l f.pc).length cp) (m.tbl l f.pc) false false 0 0) := hid ⟨(HMx.out.on HX1.out).on (below_one _ _), HLm.out, (HC5.out.on HX1.out).on (below_one _ _), (HC6.out.on HX1.out).on (below_one _ _), Cel.new w1 64 _, HH.out.on (below_one _ _), by omega, by have := HX1.out.size; have := HXs.out; omega, by have := HX1.out.size; have := HXs.out; omega⟩
  generalize hX2 : World.alloc _ _ = X2 at *
  clear hX2 HC5 HC6 HB HXs HMx HLm HX1 HH
  generalize W.heap.size + 1 = g6 at *
  generalize hg5 : W.heap.size = g5 at HR ⊢
  generalize w1.heap.size = g7 at *
  have y15 := (HR.out.c5.cell 15).trans f.at15
  go_wp2_with fail
  refine (HCo.out _ f.pc 2 HR.out.mem HP.out.1 HP.out.2).mono ?_
  rintro e w3 ⟨rfl, hb3⟩
  have HR3 := hid ((HR.out.on hb3).on (below_one w3 (.cells #[.bool (m.trS l f.pc 2), .int .i64 (m.trP l f.pc 2), .int .i64 (m.trO l f.pc 2)] 48)))
  have HC8 := hid (Cel.new w3 48 [.bool (m.trS l f.pc 2), .int .i64 (m.trP l f.pc 2), .int .i64 (m.trO l f.pc 2)])
  have HN8 : Hid (∀ b, (Value.slice ao (m.tbl l f.pc).length cp).ownBlock = some b → b < w3.heap.size) := hid (fun b hb => by
    obtain ⟨_, cur, hh⟩ := (HR.out.on hb3).hp.blk hb
    exact (Array.getElem?_eq_some_iff.1 hh).1)
  clear hb3 HR y15
  go_upto_region 3 with fail
  generalize hX3 : World.alloc _ _ = X3 at *
  clear hX3
  generalize w3.heap.size = g8 at *
  by_cases te : m.trE l f.pc 2 = 0
  · have hb : (m.trE l f.pc 2 == 0) = true := by rw [te]; rfl
    rw [hb]
    have HTe := hid te
    clear te hb
    have r0 := HC8.out.cell 0
    have r1 := HC8.out.cell 1
    have r2 := HC8.out.cell 2
    simp only [List.getElem?_cons_zero, List.getElem?_cons_succ] at r0 r1 r2
    go_upto_region 5 with fail
    have a0 := (cel5 HR3.out.c7).1
    go_upto_region 6 with (refine wpList_append_p rfl _ _ rfl _ _ rfl (HR3.out.hp.on (below_one _ _)) _ _ _ [(m.trS l f.pc 2, m.trP l f.pc 2, m.trO l f.pc 2)] rfl rfl (new3 _ _ _ _) (by have := tbl_len m l f.pc; simp; omega) ?_; intro v5 w5 hp5 hgr5; obtain ⟨ao5, cp5, hv5⟩ := hp5.form; generalize hn5 : List.length _ = n5 at hv5; clear hn5; subst hv5; have z7 := (HR3.out.on (below_one _ _)).hp.keep hgr5 (HR3.out.on (below_one _ _)).c7 (.inl (by decide)); have f7 := z7.free 0; have u7 := (cel5 z7).1;  have HR5 := hid ((HR3.out.on (below_one _ _)).grow hp5 hgr5); have hc8 := (HR3.out.on (below_one _ _)).hp.keep hgr5 (HC8.out.on (below_one _ _)) (.inr (fun e => absurd (HN8.out _ e.symm) (Nat.lt_irrefl _))); have HC8c := hid (hc8.but (ButL.setCell (G := [g7]) w5 g7 0 (.slice ao5 n5 cp5) (by simp)) (by simpa using hc8.ne z7 (by decide))); clear hc8 z7; clear hp5 hgr5)
    generalize hX5 : World.setCell _ _ _ = X5 at *
    clear hX5 f7 u7 r0 r1 r2 a0 HR3 HC8 HN8
    have r0 := HC8c.out.cell 0
    have r1 := HC8c.out.cell 1
    have r2 := HC8c.out.cell 2
    simp only [List.getElem?_cons_zero, List.getElem?_cons_succ] at r0 r1 r2
    go_wp2_with fail
    refine (HPk.out _ HR5.out.mem).mono ?_
    rintro e w6 ⟨rfl, hb6⟩
    have HR6 := hid (HR5.out.on hb6)
    clear hb6 r0 r1 r2 HC8c HR5
    go_wp2_with fail
    refine (HDe.out _ (HT.out.on HR6.out.hp.below)).mono ?_
    rintro e w7 ⟨rfl, hb7⟩
    have HR7 := hid ((HR6.out.on hb7).on (below_one w7 (.cells #[.int .i64 op, .int .i64 cond, .int .i64 a, .int .i64 b, .int .i64 c, .int .i32 imm] 57)))
    have HC10 := hid (Cel.new w7 57 [.int .i64 op, .int .i64 cond, .int .i64 a, .int .i64 b, .int .i64 c, .int .i32 imm])
    clear hb7 HR6
    go_upto_region 7 with fail
    generalize hX7 : World.alloc _ _ = X7 at *
    clear hX7
    generalize w7.heap.size = g10 at *
    have q0 := HC10.out.cell 0
    simp only [List.getElem?_cons_zero] at q0
    by_cases d0 : de = 0
    · by_cases o1 : op < 15
      · subst d0
        go_upto_region 8 with (go_at_call 10; refine (num_any _ _).mono ?_; rintro e wn ⟨rfl, rfl⟩)
        have hR := HRd.out
        have hS := HSs.out
        have hTT := HTt.out
        rw [if_pos HTe.out, if_neg (fun hh => by have := hh.2.1; (try simp only at this); omega), List.append_nil] at hR
        rw [if_neg (fun hh => by have := acc_one hh.2.2; (try simp only at this); omega)] at hTT
        rw [decide_eq_false (fun hh => by have := acc_one hh.2.2.1; (try simp only at this); omega)] at hS
        subst hR hS hTT
        clear HRd HSs HTt
        obtain ⟨a0, a1, a2, a3, a4⟩ := cel5 HR7.out.c7
        obtain ⟨b0, b1, b2, b3, b4⟩ := cel5 HR7.out.c6
        have af0 := HR7.out.c6.free 0
        have af1 := HR7.out.c6.free 1
        have af2 := HR7.out.c6.free 2
        have af3 := HR7.out.c6.free 3
        have af4 := HR7.out.c6.free 4
        go_wp2_with (go_at_call 10; refine (num_any _ _).mono ?_; rintro e wn ⟨rfl, rfl⟩)
        generalize hX9 : World.setCell _ _ _ = w9
        have HC9 := chain5 HR7.out.c6 _ _ _ _ _ rfl hX9
        have HP9 := hid (HR7.out.fin HC9.2)
        clear hX9
        obtain ⟨⟨d0, d1, d2, d3, d4⟩, _⟩ := HC9
        (refine bodyPost_ret (by simp [results, Tryd.results19, go_sem, d0, d1, d2, d3, d4]; try rfl) rfl ?_)
        exact ⟨_, rfl, HP9.out⟩
      · by_cases o2 : op > 18
        · subst d0
          go_upto_region 8 with (go_at_call 10; refine (num_any _ _).mono ?_; rintro e wn ⟨rfl, rfl⟩)
          have hR := HRd.out
          have hS := HSs.out
          have hTT := HTt.out
          rw [if_pos HTe.out, if_neg (fun hh => by have := hh.2.2; (try simp only at this); omega), List.append_nil] at hR
          rw [if_neg (fun hh => by have := acc_one hh.2.2; (try simp only at this); omega)] at hTT
          rw [decide_eq_false (fun hh => by have := acc_one hh.2.2.1; (try simp only at this); omega)] at hS
          subst hR hS hTT
          clear HRd HSs HTt
          obtain ⟨a0, a1, a2, a3, a4⟩ := cel5 HR7.out.c7
          obtain ⟨b0, b1, b2, b3, b4⟩ := cel5 HR7.out.c6
          have af0 := HR7.out.c6.free 0
          have af1 := HR7.out.c6.free 1
          have af2 := HR7.out.c6.free 2
          have af3 := HR7.out.c6.free 3
          have af4 := HR7.out.c6.free 4
          go_wp2_with (go_at_call 10; refine (num_any _ _).mono ?_; rintro e wn ⟨rfl, rfl⟩)
          generalize hX9 : World.setCell _ _ _ = w9
          have HC9 := chain5 HR7.out.c6 _ _ _ _ _ rfl hX9
          have HP9 := hid (HR7.out.fin HC9.2)
          clear hX9
          obtain ⟨⟨d0, d1, d2, d3, d4⟩, _⟩ := HC9
          (refine bodyPost_ret (by simp [results, Tryd.results19, go_sem, d0, d1, d2, d3, d4]; try rfl) rfl ?_)
          exact ⟨_, rfl, HP9.out⟩
        · subst d0
          have HIk := hid (HDk.out rfl).1
          have HAd := hid (fun W => laddress_any W f ⟨op, cond, a, b, c, imm⟩ HIk.out)
          unfold F.v at HAd
          simp only [I.Ins.v, List.toArray] at HAd
          have HVa := hid (ad_range f ⟨op, cond, a, b, c, imm⟩)
          have hR := HRd.out
          have hS := HSs.out
          have hTT := HTt.out
          rw [if_pos HTe.out, if_pos ⟨rfl, by show 15 ≤ op; omega, by show op ≤ 18; omega⟩] at hR
          generalize ad f ⟨op, cond, a, b, c, imm⟩ = va at *
          have H1 : Hid (op = 16 ∨ op = 18 → RD = (m.tbl l f.pc ++ [(m.trS l f.pc 2, m.trP l f.pc 2, m.trO l f.pc 2)]) ++ m.tbl l va ∧ SS = (m.trE l va 1 == 0) ∧ TT = (m.trS l va 1, m.trP l va 1, m.trO l va 1)) := hid (fun h => by
            have ha : acc ⟨op, cond, a, b, c, imm⟩ = 1 := by unfold acc; exact if_pos h
            rw [ha] at hR hS hTT
            rw [← hR, ← hS, ← hTT]
            have hte := HTe.out
            refine ⟨by simp, ?_, by rw [if_pos ⟨hte, rfl, rfl⟩]⟩
            rw [Bool.eq_iff_iff]; simp [hte])
          have H2 : Hid (¬ (op = 16 ∨ op = 18) → RD = (m.tbl l f.pc ++ [(m.trS l f.pc 2, m.trP l f.pc 2, m.trO l f.pc 2)]) ++ m.tbl l va ++ (if m.trE l va 0 = 0 then [(m.trS l va 0, m.trP l va 0, m.trO l va 0)] else []) ∧ SS = false ∧ TT = (false, 0, 0)) := hid (fun h => by
            have ha : acc ⟨op, cond, a, b, c, imm⟩ = 0 := by unfold acc; exact if_neg h
            rw [ha] at hR hS hTT
            rw [← hR, ← hS, ← hTT]
            refine ⟨by simp, by simp, by simp⟩)
          clear hR hS hTT HRd HSs HTt
          obtain ⟨q0, q1, q2, q3, q4, q5⟩ := cel6 (i := ⟨op, cond, a, b, c, imm⟩) HC10.out
          simp only at q0 q1 q2 q3 q4 q5
          go_upto_region 9 with (go_at_call 10; refine (num_any _ _).mono ?_; rintro e wn ⟨rfl, rfl⟩)
          go_wp2_with (refine wpList_load_f rfl _ rfl g5 f rfl HR7.out.c5 ?_)
          refine (HAd.out _).mono ?_
          rintro e w8 ⟨rfl, hb8⟩
          have HR8 := hid (HR7.out.on hb8)
          have HC8 := hid (HC10.out.on hb8)
          clear hb8 q0 q1 q2 q3 q4 q5 HR7 HC10 o1 o2
          go_upto_region 10 with fail
          have HD := hid (HR8.out.on (Below.refl _ _).drew)
          have HC10 := hid (HC8.out.on (Below.refl _ _).drew)
          clear HR8 HC8
          refine wp_region_held_drew (S := fun _ => True) (by kernel_rfl) trivial (fun hHeld => ?_)
          refine wpAnyH_take (i := 0) (oi := { dst := some 65, op := Op.fieldAddr 64 (Operand.tmp 7) 0, type := 0, pos := "outright.go:68", after := #[], guard := none }) (v := .pointer (some ⟨g7, 0, none⟩)) rfl (by kernel_rfl) (by kernel_rfl) (by kernel_rfl) (fun _ _ _ h => h) (Or.inl ⟨by rfl, by intro w hSw; go_simp⟩) (by assumption) ?_
          simp only [Act.put, List.setIfInBounds_toArray, List.set_cons_zero, List.set_cons_succ]
          refine wpAnyH_take (i := 2) (oi := { dst := some 67, op := Op.move (Operand.tmp 0), type := 29, pos := "outright.go:68", after := #[], guard := none }) (v := .pointer (some ⟨fp.gm, 0, none⟩)) rfl (by kernel_rfl) (by kernel_rfl) (by kernel_rfl) (fun _ _ _ h => h) (Or.inl ⟨by rfl, by intro w hSw; go_simp⟩) (by assumption) ?_
          simp only [Act.put, List.setIfInBounds_toArray, List.set_cons_zero, List.set_cons_succ]
          refine wpAnyH_take (i := 3) (oi := { dst := some 68, op := Op.move (Operand.tmp 1), type := 3, pos := "outright.go:68", after := #[], guard := none }) (v := .int .i64 l) rfl (by kernel_rfl) (by kernel_rfl) (by kernel_rfl) (fun _ _ _ h => h) (Or.inl ⟨by rfl, by intro w hSw; go_simp⟩) (by assumption) ?_
          simp only [Act.put, List.setIfInBounds_toArray, List.set_cons_zero, List.set_cons_succ]
          refine wpAnyH_take (i := 4) (oi := { dst := some 69, op := Op.move (Operand.tmp 12), type := 23, pos := "outright.go:68", after := #[], guard := none }) (v := .int .u32 va) rfl (by kernel_rfl) (by kernel_rfl) (by kernel_rfl) (fun _ _ _ h => h) (Or.inl ⟨by rfl, by intro w hSw; go_simp⟩) (by assumption) ?_
          simp only [Act.put, List.setIfInBounds_toArray, List.set_cons_zero, List.set_cons_succ]
          refine wpAnyH_ready (rs := [1, 5]) (by kernel_rfl) (by simp) (AllReadyH.cons (o := { dst := some 66, op := Op.load 62 (Operand.tmp 65), type := 62, pos := "outright.go:68", after := #[{ on := 0, ground := Ground.data }], guard := none }) rfl (fun KQ hK => ?_) (AllReadyH.cons (o := { dst := some 70, op := Op.call { callee := Callee.value (Operand.func 39), args := #[Operand.tmp 67, Operand.tmp 68, Operand.tmp 69], argTypes := #[29, 3, 23] }, type := 62, pos := "outright.go:68", after := #[{ on := 2, ground := Ground.data }, { on := 3, ground := Ground.data }, { on := 4, ground := Ground.data }], guard := none }) rfl (fun KQ hK => ?_) AllReadyH.nil))
          · have a0 := (cel5 HD.out.c7).1; go_simp; clear a0
            refine hK.out _ _ trivial (fun hHeld => ?_)
            clear hK KQ
            try simp only [Act.put, List.setIfInBounds_toArray, List.set_cons_zero, List.set_cons_succ]
            refine wpAnyH_ready (rs := [5]) (by kernel_rfl) (by simp) (AllReadyH.cons (o := { dst := some 70, op := Op.call { callee := Callee.value (Operand.func 39), args := #[Operand.tmp 67, Operand.tmp 68, Operand.tmp 69], argTypes := #[29, 3, 23] }, type := 62, pos := "outright.go:68", after := #[{ on := 2, ground := Ground.data }, { on := 3, ground := Ground.data }, { on := 4, ground := Ground.data }], guard := none }) rfl (fun KQ hK => ?_) AllReadyH.nil)
            go_simp
            refine (HTb.out _ va HD.out.mem HVa.out.1 HVa.out.2).mono ?_
            rintro e wt ⟨vt, rfl, htq⟩
            have HT9 := hid (HD.out.on htq.below)
            have HC9 := hid (HC10.out.on htq.below)
            have HTf : Hid ((m.tbl l va = [] ∧ vt = .slice none 0 0) ∨ ∃ g, vt = .slice (some ⟨g, 0, none⟩) (m.tbl l va).length (m.tbl l va).length ∧ Cel wt g 48 (plcs (m.tbl l va))) := hid (htq.form.imp id (fun ⟨g, h1, _, h2, _⟩ => ⟨g, h1, h2⟩))
            clear htq
            go_wp2_with fail
            refine hK.out _ _ trivial (fun hHeld => ?_)
            clear hK KQ
            try simp only [Act.put, List.setIfInBounds_toArray, List.set_cons_zero, List.set_cons_succ]
            refine wpAnyH_ready (rs := [6]) (by kernel_rfl) (by simp) (AllReadyH.cons (o := { dst := some 71, op := Op.call { callee := Callee.builtin Builtin.append, args := #[Operand.tmp 66, Operand.tmp 70], argTypes := #[62, 62] }, type := 62, pos := "outright.go:68", after := #[{ on := 1, ground := Ground.data }, { on := 5, ground := Ground.data }, { on := 5, ground := Ground.chain }], guard := none }) rfl (fun KQ hK => ?_) AllReadyH.nil)
            rw [if_pos (by rfl)]
            refine wp_append_t _ _ rfl _ _ rfl HT9.out.hp _ _ rfl HTf.out (by have := tbl_len m l f.pc; have := tbl_len m l va; simp; omega) ?_
            intro va9 wa hpa hga
            have hca := HT9.out.hp.keep hga HC9.out (.inl (by decide))
            have z7 := HT9.out.hp.keep hga HT9.out.c7 (.inl (by decide))
            have f7 := z7.free 0
            have u7 := (cel5 z7).1
            have HRa := hid (HT9.out.grow hpa hga)
            have HCa := hid (hca.but (ButL.setCell (G := [g7]) wa g7 0 va9 (by simp)) (by simpa using hca.ne z7 (by decide)))
            obtain ⟨aoa, cpa, hva9⟩ := hpa.form
            generalize hna : List.length _ = na at hva9
            subst hva9
            clear hna hpa hga hca z7
            refine hK.out _ _ trivial (fun hHeld => ?_)
            clear hK KQ
            try simp only [Act.put, List.setIfInBounds_toArray, List.set_cons_zero, List.set_cons_succ]
            refine wpAnyH_take (i := 7) (oi := { dst := some 72, op := Op.fieldAddr 64 (Operand.tmp 7) 0, type := 0, pos := "outright.go:68", after := #[{ on := 0, ground := Ground.phase }, { on := 1, ground := Ground.phase }, { on := 2, ground := Ground.phase }, { on := 3, ground := Ground.phase }, { on := 4, ground := Ground.phase }, { on := 5, ground := Ground.phase }, { on := 6, ground := Ground.phase }], guard := none }) (v := .pointer (some ⟨g7, 0, none⟩)) rfl (by kernel_rfl) (by kernel_rfl) (by kernel_rfl) (fun _ _ _ h => h) (Or.inl ⟨by rfl, by intro w hSw; go_simp⟩) (by assumption) ?_
            simp only [Act.put, List.setIfInBounds_toArray, List.set_cons_zero, List.set_cons_succ]
            refine wpAnyH_ready (rs := [8]) (by kernel_rfl) (by simp) (AllReadyH.cons (o := { dst := none, op := Op.store 62 (Operand.tmp 72) (Operand.tmp 71), type := 0, pos := "outright.go:68", after := #[{ on := 7, ground := Ground.data }, { on := 6, ground := Ground.data }, { on := 6, ground := Ground.chain }, { on := 0, ground := Ground.phase }, { on := 1, ground := Ground.phase }, { on := 2, ground := Ground.phase }, { on := 3, ground := Ground.phase }, { on := 4, ground := Ground.phase }, { on := 5, ground := Ground.phase }, { on := 6, ground := Ground.phase }], guard := none }) rfl (fun KQ hK => ?_) AllReadyH.nil)
            go_simp
            clear f7 u7
            refine hK.out _ _ trivial (fun hHeld => ?_)
            clear hK KQ
            try simp only [Act.put]
            refine wpAnyH_done (by kernel_rfl) ?_ _
            exact (‹∀ (a : Act) (w : World), Code.wp Tryd.prog _ _ a w → _› _ _ (reach_t W _ g5 g6 g7 g10 fp m HU.out f _ _ (by have := tbl_len m l f.pc; have := tbl_len m l va; simp; omega) l va HVa.out.1 HVa.out.2 ⟨op, cond, a, b, c, imm⟩ HRa.out HCa.out RD SS TT H1.out H2.out _ _ _ _ _ _ _ _ _ _ _ _ _ _ _ _ _ _ _ _ _ _ _ _ _ _ _ _ _ _ _ _ _ _ _ _ _ _ _ _ _ _ _ _ _ _ _ _ _ _ _ _ _ _ _ _ _ _ _ _ _ _ _ _ _ _ _ _ _ _ _ _ _ _ _ _ _ _ _ _ _ _ _ _ _ _ _ _ _ _ _ _ _ _ _ _ _ _ _ _))
          · go_simp
            refine (HTb.out _ va HD.out.mem HVa.out.1 HVa.out.2).mono ?_
            rintro e wt ⟨vt, rfl, htq⟩
            have HT9 := hid (HD.out.on htq.below)
            have HC9 := hid (HC10.out.on htq.below)
            have HTf : Hid ((m.tbl l va = [] ∧ vt = .slice none 0 0) ∨ ∃ g, vt = .slice (some ⟨g, 0, none⟩) (m.tbl l va).length (m.tbl l va).length ∧ Cel wt g 48 (plcs (m.tbl l va))) := hid (htq.form.imp id (fun ⟨g, h1, _, h2, _⟩ => ⟨g, h1, h2⟩))
            clear htq
            go_wp2_with fail
            refine hK.out _ _ trivial (fun hHeld => ?_)
            clear hK KQ
            try simp only [Act.put, List.setIfInBounds_toArray, List.set_cons_zero, List.set_cons_succ]
            refine wpAnyH_ready (rs := [1]) (by kernel_rfl) (by simp) (AllReadyH.cons (o := { dst := some 66, op := Op.load 62 (Operand.tmp 65), type := 62, pos := "outright.go:68", after := #[{ on := 0, ground := Ground.data }], guard := none }) rfl (fun KQ hK => ?_) AllReadyH.nil)
            have a0 := (cel5 HT9.out.c7).1; go_simp; clear a0
            refine hK.out _ _ trivial (fun hHeld => ?_)
            clear hK KQ
            try simp only [Act.put, List.setIfInBounds_toArray, List.set_cons_zero, List.set_cons_succ]
            refine wpAnyH_ready (rs := [6]) (by kernel_rfl) (by simp) (AllReadyH.cons (o := { dst := some 71, op := Op.call { callee := Callee.builtin Builtin.append, args := #[Operand.tmp 66, Operand.tmp 70], argTypes := #[62, 62] }, type := 62, pos := "outright.go:68", after := #[{ on := 1, ground := Ground.data }, { on := 5, ground := Ground.data }, { on := 5, ground := Ground.chain }], guard := none }) rfl (fun KQ hK => ?_) AllReadyH.nil)
            rw [if_pos (by rfl)]
            refine wp_append_t _ _ rfl _ _ rfl HT9.out.hp _ _ rfl HTf.out (by have := tbl_len m l f.pc; have := tbl_len m l va; simp; omega) ?_
            intro va9 wa hpa hga
            have hca := HT9.out.hp.keep hga HC9.out (.inl (by decide))
            have z7 := HT9.out.hp.keep hga HT9.out.c7 (.inl (by decide))
            have f7 := z7.free 0
            have u7 := (cel5 z7).1
            have HRa := hid (HT9.out.grow hpa hga)
            have HCa := hid (hca.but (ButL.setCell (G := [g7]) wa g7 0 va9 (by simp)) (by simpa using hca.ne z7 (by decide)))
            obtain ⟨aoa, cpa, hva9⟩ := hpa.form
            generalize hna : List.length _ = na at hva9
            subst hva9
            clear hna hpa hga hca z7
            refine hK.out _ _ trivial (fun hHeld => ?_)
            clear hK KQ
            try simp only [Act.put, List.setIfInBounds_toArray, List.set_cons_zero, List.set_cons_succ]
            refine wpAnyH_take (i := 7) (oi := { dst := some 72, op := Op.fieldAddr 64 (Operand.tmp 7) 0, type := 0, pos := "outright.go:68", after := #[{ on := 0, ground := Ground.phase }, { on := 1, ground := Ground.phase }, { on := 2, ground := Ground.phase }, { on := 3, ground := Ground.phase }, { on := 4, ground := Ground.phase }, { on := 5, ground := Ground.phase }, { on := 6, ground := Ground.phase }], guard := none }) (v := .pointer (some ⟨g7, 0, none⟩)) rfl (by kernel_rfl) (by kernel_rfl) (by kernel_rfl) (fun _ _ _ h => h) (Or.inl ⟨by rfl, by intro w hSw; go_simp⟩) (by assumption) ?_
            simp only [Act.put, List.setIfInBounds_toArray, List.set_cons_zero, List.set_cons_succ]
            refine wpAnyH_ready (rs := [8]) (by kernel_rfl) (by simp) (AllReadyH.cons (o := { dst := none, op := Op.store 62 (Operand.tmp 72) (Operand.tmp 71), type := 0, pos := "outright.go:68", after := #[{ on := 7, ground := Ground.data }, { on := 6, ground := Ground.data }, { on := 6, ground := Ground.chain }, { on := 0, ground := Ground.phase }, { on := 1, ground := Ground.phase }, { on := 2, ground := Ground.phase }, { on := 3, ground := Ground.phase }, { on := 4, ground := Ground.phase }, { on := 5, ground := Ground.phase }, { on := 6, ground := Ground.phase }], guard := none }) rfl (fun KQ hK => ?_) AllReadyH.nil)
            go_simp
            clear f7 u7
            refine hK.out _ _ trivial (fun hHeld => ?_)
            clear hK KQ
            try simp only [Act.put]
            refine wpAnyH_done (by kernel_rfl) ?_ _
            exact (‹∀ (a : Act) (w : World), Code.wp Tryd.prog _ _ a w → _› _ _ (reach_t W _ g5 g6 g7 g10 fp m HU.out f _ _ (by have := tbl_len m l f.pc; have := tbl_len m l va; simp; omega) l va HVa.out.1 HVa.out.2 ⟨op, cond, a, b, c, imm⟩ HRa.out HCa.out RD SS TT H1.out H2.out _ _ _ _ _ _ _ _ _ _ _ _ _ _ _ _ _ _ _ _ _ _ _ _ _ _ _ _ _ _ _ _ _ _ _ _ _ _ _ _ _ _ _ _ _ _ _ _ _ _ _ _ _ _ _ _ _ _ _ _ _ _ _ _ _ _ _ _ _ _ _ _ _ _ _ _ _ _ _ _ _ _ _ _ _ _ _ _ _ _ _ _ _ _ _ _ _ _ _ _))
    · go_upto_region 8 with (go_at_call 10; refine (num_any _ _).mono ?_; rintro e wn ⟨rfl, rfl⟩)
      have hR := HRd.out
      have hS := HSs.out
      have hTT := HTt.out
      rw [if_pos HTe.out, if_neg (fun hh => d0 hh.1), List.append_nil] at hR
      rw [if_neg (fun hh => d0 hh.2.1)] at hTT
      rw [decide_eq_false (fun hh => d0 hh.2.1)] at hS
      subst hR hS hTT
      clear HRd HSs HTt
      obtain ⟨a0, a1, a2, a3, a4⟩ := cel5 HR7.out.c7
      obtain ⟨b0, b1, b2, b3, b4⟩ := cel5 HR7.out.c6
      have af0 := HR7.out.c6.free 0
      have af1 := HR7.out.c6.free 1
      have af2 := HR7.out.c6.free 2
      have af3 := HR7.out.c6.free 3
      have af4 := HR7.out.c6.free 4
      go_wp2_with (go_at_call 10; refine (num_any _ _).mono ?_; rintro e wn ⟨rfl, rfl⟩)
      generalize hX9 : World.setCell _ _ _ = w9
      have HC9 := chain5 HR7.out.c6 _ _ _ _ _ rfl hX9
      have HP9 := hid (HR7.out.fin HC9.2)
      clear hX9
      obtain ⟨⟨d0, d1, d2, d3, d4⟩, _⟩ := HC9
      (refine bodyPost_ret (by simp [results, Tryd.results19, go_sem, d0, d1, d2, d3, d4]; try rfl) rfl ?_)
      exact ⟨_, rfl, HP9.out⟩
  · have hb : (m.trE l f.pc 2 == 0) = false := by simpa using te
    rw [hb]
    have hR := HRd.out
    have hS := HSs.out
    have hTT := HTt.out
    rw [if_neg te, List.append_nil] at hR
    rw [if_neg (fun hh => te hh.1)] at hTT
    rw [decide_eq_false (fun hh => te hh.1)] at hS
    subst hR hS hTT
    clear HRd HSs HTt te hb
    obtain ⟨a0, a1, a2, a3, a4⟩ := cel5 HR3.out.c7
    obtain ⟨b0, b1, b2, b3, b4⟩ := cel5 HR3.out.c6
    have af0 := HR3.out.c6.free 0
    have af1 := HR3.out.c6.free 1
    have af2 := HR3.out.c6.free 2
    have af3 := HR3.out.c6.free 3
    have af4 := HR3.out.c6.free 4
    go_wp2_with (go_at_call 10; refine (num_any _ _).mono ?_; rintro e wn ⟨rfl, rfl⟩)
    generalize hX9 : World.setCell _ _ _ = w9
    have HC9 := chain5 HR3.out.c6 _ _ _ _ _ rfl hX9
    have HP9 := hid (HR3.out.fin HC9.2)
    clear hX9
    obtain ⟨⟨d0, d1, d2, d3, d4⟩, _⟩ := HC9
    (refine bodyPost_ret (by simp [results, Tryd.results19, go_sem, d0, d1, d2, d3, d4]; try rfl) rfl ?_)
    exact ⟨_, rfl, HP9.out⟩
end Go.Proofs.YteldpapacdbbiaaDoor
