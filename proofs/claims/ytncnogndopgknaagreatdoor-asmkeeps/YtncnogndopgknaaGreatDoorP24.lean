import Derived.Test.YtncnogndopgknaaGreatDoorP23
import Derived.Test.YtncnogndopgknaaGreatDoorP01
namespace Go.Proofs.YtncnogndopgknaaGreatDoor
open Go.RowKit
def StPost (W V : World) (g gm base line : Nat) (r : (Int × Nat) ⊕ S.St) (x : Ending) (w' : World) : Prop :=
  (match r with
  | .inl f => x = .returned (bk f.1 line f.2) ∧ Below W.heap.size W w'
  | .inr st' => x = .returned .nilIface ∧ ∃ fs vw vl vf, PS W w' g gm base line st' fs vw vl vf) ∧ KT 154 V w'
namespace S
def latsK (k : Kd) (os : List Opn) (place line q : Nat) : List Lt := ((List.range q).filter fun i => decide ((os.getD i ⟨0, [], 0⟩).lab ≠ [])).map fun i => ⟨k, os, i, place, line⟩
theorem latsK_succ (k : Kd) (os : List Opn) (place line q : Nat) : latsK k os place line (q + 1) = latsK k os place line q ++ (if (os.getD q ⟨0, [], 0⟩).lab = [] then [] else [⟨k, os, q, place, line⟩]) := by
  unfold latsK
  rw [List.range_succ, List.filter_append, List.map_append]
  congr 1
  by_cases h : (os.getD q ⟨0, [], 0⟩).lab = []
  · rw [if_pos h]
    rw [List.filter_cons, if_neg (by simp only [decide_eq_true_eq]; exact fun hh => hh h)]
    rfl
  · rw [if_neg h]
    rw [List.filter_cons, if_pos (by simp only [decide_eq_true_eq]; exact h)]
    rfl
theorem latsK_all (k : Kd) (os : List Opn) (place line : Nat) : latsK k os place line os.length = lats k os place line := rfl
theorem latsK_none (k : Kd) (os : List Opn) (place line : Nat) : ∀ q, (∀ i < q, (os.getD i ⟨0, [], 0⟩).lab = []) → latsK k os place line q = []
  | 0, _ => rfl
  | q + 1, h => by rw [latsK_succ, latsK_none k os place line q (fun i hi => h i (by omega)), if_pos (h q (by omega))]; rfl
end S
theorem opsC_get : ∀ (os : List S.Opn) (q r : Nat) (h : q < os.length), r < 3 → (opsC os)[q * 3 + r]? = (opC os[q])[r]?
  | o :: os, 0, r, _, hr => by
    show (opC o ++ opsC os)[0 * 3 + r]? = _
    rw [Nat.zero_mul, Nat.zero_add, List.getElem?_append_left (by simp [opC]; omega)]
    rfl
  | o :: os, q + 1, r, h, hr => by
    show (opC o ++ opsC os)[(q + 1) * 3 + r]? = _
    rw [List.getElem?_append_right (by simp [opC]; omega)]
    have e : (q + 1) * 3 + r - (opC o).length = q * 3 + r := by simp [opC]; omega
    rw [e, opsC_get os q r (by simpa using h) hr]
    rfl
theorem S.least_le {s : List UInt8} {k : S.Kd} (h : S.kindOf s = some k) : k.least ≤ 2 := by
  unfold S.kindOf at h
  split at h
  · cases h; show (1 : Nat) ≤ 2; decide
  · split at h
    · cases h; exact Nat.le_refl _
    · split at h
      · cases h; exact Nat.zero_le _
      · cases ho : S.opOf s with
        | none => rw [ho] at h; cases h
        | some n => rw [ho] at h; cases h; show (1 : Nat) ≤ 2; decide
theorem HO.at {W wr : World} {v : Value} {os : List S.Opn} (h : HO W wr v os) {ao : Option Addr} {c : Nat} (hv : v = .slice ao os.length c) : OpsAt wr ao os := by
  rcases h.own.2 with ⟨_, h0⟩ | ⟨g, cap, cur, h1, h2, h3, h4, h5, h6, h7⟩
  · exact .inl (List.eq_nil_of_length_eq_zero h0)
  · have e : ao = some ⟨g, 0, none⟩ := by rw [hv] at h1; injection h1
    refine .inr ⟨g, 0, e, (Array.getElem?_eq_some_iff.1 h3).1, fun i hi j u hu => ?_⟩
    have hj : j < 3 := by
      rcases Nat.lt_or_ge j 3 with h | h
      · exact h
      · rw [List.getElem?_eq_none (by simp [opC]; omega)] at hu; cases hu
    have := h.own.cells (g := g) (by rw [h1]; rfl) (i * 3 + j) u (by rw [opsC_get os i j hi hj]; exact hu)
    rw [Addr.add_mid] at this
    rw [Nat.zero_add] at this ⊢
    exact this
theorem S.words_len {k : S.Kd} {os : List S.Opn} (ho : S.OsOk k os) : (S.words k os).length ≤ 2048 := by
  unfold S.words
  split
  · simp
  · split
    · simp
    · split
      · rename_i hz
        rw [List.length_replicate]
        cases os with
        | nil => exact Nat.zero_le _
        | cons o os => exact ho.zero hz o (by simp)
      · simp
theorem row_cells {w : World} {b g ol cv : Nat} {os : List S.Opn} (h : w.ownsRow b 197 3 (.slice (some ⟨g, 0, none⟩) ol cv) ol (opsC os)) (hl : os.length = ol) : ∃ cur, w.heap[g]? = some (.cells cur 197 (0, 0)) ∧ cur.toList.take (os.length * 3) = opsC os := by
  rcases h.2 with ⟨h0, _⟩ | ⟨g9, cap9, cur9, k1, k2, k3, k4, k5, k6, k7⟩
  · cases h0
  · injection k1 with k1
    injection k1 with k1
    injection k1 with k1
    subst k1
    exact ⟨cur9, k3, by rw [hl]; exact k7⟩
set_option maxRecDepth 40000 in
set_option maxHeartbeats 4000000 in
theorem layStatement_any (W V : World) (hT : TM W) (g gm base line : Nat) (st : S.St) (fs : List Fc) (vw vl vf : Value) (h : PS W V g gm base line st fs vw vl vf) (hlat : st.lat.length ≤ 900000) (name : T.Wd) (hnt : name.text.length ≤ 1000000000)
    (ao : Option Addr) (n c : Nat) (rs : List T.Wd) (hn : rs.length = n) (hn1 : n ≤ 1000000000) (hrs : ∀ w ∈ rs, w.text.length ≤ 1000000000) (hat : WdAt V ao rs) :
    Calls Tryz.prog 63 #[.pointer (some ⟨g, 0, none⟩), wdV name, .slice ao n c] V fun x w' => StPost W V g gm base line (S.stmt line st name rs) x w' := by
  obtain ⟨i0, hi, hz0, hz1, hz2⟩ := info_parts Tryz.info22
  obtain ⟨j0, hj, hy0, hy1, hy2⟩ := info_parts Tryz.info111
  obtain ⟨nt, nq, nc⟩ := name
  have HP : Hid (∀ x, Below V.heap.size V x → PS W x g gm base line st fs vw vl vf) := hid (fun x hx => h.on hx)
  have HT : Hid (∀ x, Below V.heap.size V x → TM x) := hid (fun x hx => hT.on (below_on h.below hx))
  have HA : Hid (∀ x, Below V.heap.size V x → WdAt x ao rs) := hid (fun x hx => hat.on hx)
  have HFS : Hid (∀ d ∈ fs, d.gO < V.heap.size) := hid (fun d hd => by
    obtain ⟨i, hi, rfl⟩ := List.getElem_of_mem hd
    obtain ⟨cur, h1, _⟩ := (h.clos i (by rw [← h.len]; exact hi) hi).row
    exact (Array.getElem?_eq_some_iff.1 h1).1)
  obtain ⟨aw, cw, rfl⟩ := h.vw
  have hrm := h.room
  have w1 : (st.ws.length : Int) ≤ 2048 := by omega
  have HN : Hid (rs.length = n) := hn
  have HRS : Hid (∀ w ∈ rs, w.text.length ≤ 1000000000) := hrs
  have H88 : Hid (∀ x, Below V.heap.size V x → Calls Tryz.prog 88 #[.string ⟨nt.toArray⟩] x fun y w' => KdPost (S.kindOf nt) y ∧ Below x.heap.size x w') := hid (fun x hx => kindOf_any x (HT.out x hx) nt)
  clear h hT hat hn hrs hnt
  simp only [wdV]
  unfold S.stmt
  cases hk : S.kindOf nt with
  | none =>
    rw [hk] at H88
    simp only
    cases nq with
    | true => 
      go_enter Tryz.func63, Tryz.ntmps63
      go_wp2_with (go_at_call 88; refine (H88.out _ (below_one _ _)).mono ?_; rintro e y0 ⟨⟨ka, kb, kn, kp, rfl, hkk⟩, hb0⟩; have hq1 : ∀ ob, (y0.alloc ob).cell? ⟨V.heap.size, 1, none⟩ = some (.bool true) := fun ob => (((Cel.new V 154 [Value.string ⟨nt.toArray⟩, Value.bool true, Value.int IntKind.i64 (nc : Int)]).on hb0).on (below_one _ ob)).cell 1)
      have HX : Hid (Below V.heap.size V (y0.alloc (Obj.cells #[Value.string ka, Value.string kb, Value.int IntKind.i64 kn, Value.int IntKind.i64 kp] 188)) ∧ Cel (y0.alloc (Obj.cells #[Value.string ka, Value.string kb, Value.int IntKind.i64 kn, Value.int IntKind.i64 kp] 188)) V.heap.size 154 [Value.string { data := nt.toArray }, Value.bool true, Value.int IntKind.i64 ↑nc]) := hid ⟨below_on (below_on (below_one _ _) hb0) (below_one _ _), ((Cel.new V 154 [Value.string { data := nt.toArray }, Value.bool true, Value.int IntKind.i64 ↑nc]).on hb0).on (below_one _ _)⟩
      clear hkk hb0 hq1
      generalize y0.alloc (Obj.cells #[Value.string ka, Value.string kb, Value.int IntKind.i64 kn, Value.int IntKind.i64 kp] 188) = X at *
      have HPX := hid (HP.out X HX.out.1)
      have HCX := hid HX.out.2
      have HXK : Hid (KT 154 V X) := hid (.of_below HX.out.1)
      clear HX HP
      generalize V.heap.size = gw at *
      have HGl : Hid (∀ x, Below X.heap.size X x → x.cell? ⟨g, 1, none⟩ = some (.int .i64 (line : Int))) := hid (fun x hx => (HPX.out.cel.on hx).cell 1)
      have HCl : Hid (∀ x, Below X.heap.size X x → x.cell? ⟨gw, 2, none⟩ = some (.int .i64 (nc : Int))) := hid (fun x hx => (HCX.out.on hx).cell 2)
      refine wp_region_held_drew (S := fun x => Below X.heap.size X x) (by kernel_rfl) ((Below.refl _ _).drew) (fun hHeld => ?_)
      refine tk 0 ⟨some 26, .move (.tmp 0), 68, "program.go:82", #[], none⟩ (.pointer (some ⟨g, 0, none⟩)) ?_
      simp only [Act.put, List.setIfInBounds_toArray, List.set_cons_zero, List.set_cons_succ]
      refine tk 1 ⟨some 27, .nilCheck (.tmp 26), 0, "program.go:82", #[⟨0, .data⟩], none⟩ (.pointer (some ⟨g, 0, none⟩)) ?_
      simp only [Act.put, List.setIfInBounds_toArray, List.set_cons_zero, List.set_cons_succ]
      refine tk 2 ⟨some 28, .fieldAddr 77 (.tmp 27) 1, 0, "program.go:82", #[⟨1, .data⟩], none⟩ (.pointer (some ⟨g, 1, none⟩)) ?_
      simp only [Act.put, List.setIfInBounds_toArray, List.set_cons_zero, List.set_cons_succ]
      refine tk 3 ⟨some 29, .load 3 (.tmp 28), 3, "program.go:82", #[⟨2, .data⟩], none⟩ (.int .i64 (line : Int)) ?_ (hy := Or.inl ⟨by rfl, by intro w hSw; have hcc := HGl.out w hSw; go_simp⟩)
      simp only [Act.put, List.setIfInBounds_toArray, List.set_cons_zero, List.set_cons_succ]
      refine tk 4 ⟨some 30, .fieldAddr 154 (.tmp 4) 2, 0, "program.go:82", #[], none⟩ (.pointer (some ⟨gw, 2, none⟩)) ?_
      simp only [Act.put, List.setIfInBounds_toArray, List.set_cons_zero, List.set_cons_succ]
      refine tk 5 ⟨some 31, .load 3 (.tmp 30), 3, "program.go:82", #[⟨4, .data⟩], none⟩ (.int .i64 (nc : Int)) ?_ (hy := Or.inl ⟨by rfl, by intro w hSw; have hcc := HCl.out w hSw; go_simp⟩)
      simp only [Act.put, List.setIfInBounds_toArray, List.set_cons_zero, List.set_cons_succ]
      refine wpAnyH_ready (rs := [6]) (by kernel_rfl) (by simp) (AllReadyH.cons (o := ⟨some 32, .call { callee := .value (.func 38), args := #[.const (.int .i64 60), .tmp 29, .tmp 31], argTypes := #[25, 3, 3] }, 70, "program.go:82", #[⟨3, .data⟩, ⟨5, .data⟩], none⟩) rfl (fun KQ hK => ?_) AllReadyH.nil)
      go_simp
      refine (faultAt_any _ 60 (line : Int) (nc : Int)).mono ?_
      rintro e y1 ⟨rfl, rfl⟩
      have HY1 : Hid (Below X.heap.size X X.drew) := hid (Below.refl _ _).drew
      go_wp2_with fail
      refine hK.out _ _ HY1.out (fun hHeld => ?_)
      clear hK KQ
      try simp only [Act.put, List.setIfInBounds_toArray, List.set_cons_zero, List.set_cons_succ]
      refine wpAnyH_ready (rs := [7]) (by kernel_rfl) (by simp) (AllReadyH.cons (o := ⟨some 6, .assign (.tmp 32), 70, "program.go:82", #[⟨6, .data⟩, ⟨6, .chain⟩, ⟨0, .phase⟩, ⟨1, .phase⟩, ⟨2, .phase⟩, ⟨3, .phase⟩, ⟨4, .phase⟩, ⟨5, .phase⟩, ⟨6, .phase⟩], none⟩) rfl (fun KQ hK => ?_) AllReadyH.nil)
      go_simp
      refine hK.out _ _ HY1.out (fun hHeld => ?_)
      clear hK KQ
      try simp only [Act.put, List.setIfInBounds_toArray, List.set_cons_zero, List.set_cons_succ]
      refine wpAnyH_done (by kernel_rfl) ?_ _
      clear hHeld
      go_wp2_with fail
      go_ret
      exact ⟨⟨rfl, below_on HPX.out.below HY1.out⟩, KT.trans HXK.out (.of_below HY1.out)⟩
    | false => 
      go_enter Tryz.func63, Tryz.ntmps63
      go_wp2_with (go_at_call 88; refine (H88.out _ (below_one _ _)).mono ?_; rintro e y0 ⟨⟨ka, kb, kn, kp, rfl, hkk⟩, hb0⟩; have hq1 : ∀ ob, (y0.alloc ob).cell? ⟨V.heap.size, 1, none⟩ = some (.bool false) := fun ob => (((Cel.new V 154 [Value.string ⟨nt.toArray⟩, Value.bool false, Value.int IntKind.i64 (nc : Int)]).on hb0).on (below_one _ ob)).cell 1)
      have HX : Hid (Below V.heap.size V (y0.alloc (Obj.cells #[Value.string ka, Value.string kb, Value.int IntKind.i64 kn, Value.int IntKind.i64 kp] 188)) ∧ Cel (y0.alloc (Obj.cells #[Value.string ka, Value.string kb, Value.int IntKind.i64 kn, Value.int IntKind.i64 kp] 188)) V.heap.size 154 [Value.string { data := nt.toArray }, Value.bool false, Value.int IntKind.i64 ↑nc]) := hid ⟨below_on (below_on (below_one _ _) hb0) (below_one _ _), ((Cel.new V 154 [Value.string { data := nt.toArray }, Value.bool false, Value.int IntKind.i64 ↑nc]).on hb0).on (below_one _ _)⟩
      clear hkk hb0 hq1
      generalize y0.alloc (Obj.cells #[Value.string ka, Value.string kb, Value.int IntKind.i64 kn, Value.int IntKind.i64 kp] 188) = X at *
      have HPX := hid (HP.out X HX.out.1)
      have HCX := hid HX.out.2
      have HXK : Hid (KT 154 V X) := hid (.of_below HX.out.1)
      clear HX HP
      generalize V.heap.size = gw at *
      have HGl : Hid (∀ x, Below X.heap.size X x → x.cell? ⟨g, 1, none⟩ = some (.int .i64 (line : Int))) := hid (fun x hx => (HPX.out.cel.on hx).cell 1)
      have HCl : Hid (∀ x, Below X.heap.size X x → x.cell? ⟨gw, 2, none⟩ = some (.int .i64 (nc : Int))) := hid (fun x hx => (HCX.out.on hx).cell 2)
      refine wp_region_held_drew (S := fun x => Below X.heap.size X x) (by kernel_rfl) ((Below.refl _ _).drew) (fun hHeld => ?_)
      refine tk 0 ⟨some 26, .move (.tmp 0), 68, "program.go:82", #[], none⟩ (.pointer (some ⟨g, 0, none⟩)) ?_
      simp only [Act.put, List.setIfInBounds_toArray, List.set_cons_zero, List.set_cons_succ]
      refine tk 1 ⟨some 27, .nilCheck (.tmp 26), 0, "program.go:82", #[⟨0, .data⟩], none⟩ (.pointer (some ⟨g, 0, none⟩)) ?_
      simp only [Act.put, List.setIfInBounds_toArray, List.set_cons_zero, List.set_cons_succ]
      refine tk 2 ⟨some 28, .fieldAddr 77 (.tmp 27) 1, 0, "program.go:82", #[⟨1, .data⟩], none⟩ (.pointer (some ⟨g, 1, none⟩)) ?_
      simp only [Act.put, List.setIfInBounds_toArray, List.set_cons_zero, List.set_cons_succ]
      refine tk 3 ⟨some 29, .load 3 (.tmp 28), 3, "program.go:82", #[⟨2, .data⟩], none⟩ (.int .i64 (line : Int)) ?_ (hy := Or.inl ⟨by rfl, by intro w hSw; have hcc := HGl.out w hSw; go_simp⟩)
      simp only [Act.put, List.setIfInBounds_toArray, List.set_cons_zero, List.set_cons_succ]
      refine tk 4 ⟨some 30, .fieldAddr 154 (.tmp 4) 2, 0, "program.go:82", #[], none⟩ (.pointer (some ⟨gw, 2, none⟩)) ?_
      simp only [Act.put, List.setIfInBounds_toArray, List.set_cons_zero, List.set_cons_succ]
      refine tk 5 ⟨some 31, .load 3 (.tmp 30), 3, "program.go:82", #[⟨4, .data⟩], none⟩ (.int .i64 (nc : Int)) ?_ (hy := Or.inl ⟨by rfl, by intro w hSw; have hcc := HCl.out w hSw; go_simp⟩)
      simp only [Act.put, List.setIfInBounds_toArray, List.set_cons_zero, List.set_cons_succ]
      refine wpAnyH_ready (rs := [6]) (by kernel_rfl) (by simp) (AllReadyH.cons (o := ⟨some 32, .call { callee := .value (.func 38), args := #[.const (.int .i64 60), .tmp 29, .tmp 31], argTypes := #[25, 3, 3] }, 70, "program.go:82", #[⟨3, .data⟩, ⟨5, .data⟩], none⟩) rfl (fun KQ hK => ?_) AllReadyH.nil)
      go_simp
      refine (faultAt_any _ 60 (line : Int) (nc : Int)).mono ?_
      rintro e y1 ⟨rfl, rfl⟩
      have HY1 : Hid (Below X.heap.size X X.drew) := hid (Below.refl _ _).drew
      go_wp2_with fail
      refine hK.out _ _ HY1.out (fun hHeld => ?_)
      clear hK KQ
      try simp only [Act.put, List.setIfInBounds_toArray, List.set_cons_zero, List.set_cons_succ]
      refine wpAnyH_ready (rs := [7]) (by kernel_rfl) (by simp) (AllReadyH.cons (o := ⟨some 6, .assign (.tmp 32), 70, "program.go:82", #[⟨6, .data⟩, ⟨6, .chain⟩, ⟨0, .phase⟩, ⟨1, .phase⟩, ⟨2, .phase⟩, ⟨3, .phase⟩, ⟨4, .phase⟩, ⟨5, .phase⟩, ⟨6, .phase⟩], none⟩) rfl (fun KQ hK => ?_) AllReadyH.nil)
      go_simp
      refine hK.out _ _ HY1.out (fun hHeld => ?_)
      clear hK KQ
      try simp only [Act.put, List.setIfInBounds_toArray, List.set_cons_zero, List.set_cons_succ]
      refine wpAnyH_done (by kernel_rfl) ?_ _
      clear hHeld
      go_wp2_with fail
      go_ret
      exact ⟨⟨rfl, below_on HPX.out.below HY1.out⟩, KT.trans HXK.out (.of_below HY1.out)⟩
  | some k =>
    rw [hk] at H88
    have HKO : Hid (S.KOk k) := hid (S.kindOf_ok hk)
    simp only
    cases nq with
    | true => 
      simp only [if_true]
      go_enter Tryz.func63, Tryz.ntmps63
      go_wp2_with (go_at_call 88; refine (H88.out _ (below_one _ _)).mono ?_; rintro e y0 ⟨⟨ka, kb, kn, kp, rfl, hkk⟩, hb0⟩; obtain ⟨rfl, rfl, rfl, rfl⟩ := hkk k rfl; have hq1 : ∀ ob, (y0.alloc ob).cell? ⟨V.heap.size, 1, none⟩ = some (.bool true) := fun ob => (((Cel.new V 154 [Value.string ⟨nt.toArray⟩, Value.bool true, Value.int IntKind.i64 (nc : Int)]).on hb0).on (below_one _ ob)).cell 1)
      change Code.wp Tryz.prog _ _ _ (y0.alloc (Obj.cells (kdC k).toArray 188))
      have HX : Hid (Below V.heap.size V (y0.alloc (Obj.cells (kdC k).toArray 188)) ∧ Cel (y0.alloc (Obj.cells (kdC k).toArray 188)) V.heap.size 154 [Value.string { data := nt.toArray }, Value.bool true, Value.int IntKind.i64 ↑nc]) := hid ⟨below_on (below_on (below_one _ _) hb0) (below_one _ _), ((Cel.new V 154 [Value.string { data := nt.toArray }, Value.bool true, Value.int IntKind.i64 ↑nc]).on hb0).on (below_one _ _)⟩
      clear hkk hb0 hq1
      generalize y0.alloc (Obj.cells (kdC k).toArray 188) = X at *
      have HPX := hid (HP.out X HX.out.1)
      have HCX := hid HX.out.2
      have HXK : Hid (KT 154 V X) := hid (.of_below HX.out.1)
      clear HX HP
      generalize V.heap.size = gw at *
      have HGl : Hid (∀ x, Below X.heap.size X x → x.cell? ⟨g, 1, none⟩ = some (.int .i64 (line : Int))) := hid (fun x hx => (HPX.out.cel.on hx).cell 1)
      have HCl : Hid (∀ x, Below X.heap.size X x → x.cell? ⟨gw, 2, none⟩ = some (.int .i64 (nc : Int))) := hid (fun x hx => (HCX.out.on hx).cell 2)
      refine wp_region_held_drew (S := fun x => Below X.heap.size X x) (by kernel_rfl) ((Below.refl _ _).drew) (fun hHeld => ?_)
      refine tk 0 ⟨some 26, .move (.tmp 0), 68, "program.go:82", #[], none⟩ (.pointer (some ⟨g, 0, none⟩)) ?_
      simp only [Act.put, List.setIfInBounds_toArray, List.set_cons_zero, List.set_cons_succ]
      refine tk 1 ⟨some 27, .nilCheck (.tmp 26), 0, "program.go:82", #[⟨0, .data⟩], none⟩ (.pointer (some ⟨g, 0, none⟩)) ?_
      simp only [Act.put, List.setIfInBounds_toArray, List.set_cons_zero, List.set_cons_succ]
      refine tk 2 ⟨some 28, .fieldAddr 77 (.tmp 27) 1, 0, "program.go:82", #[⟨1, .data⟩], none⟩ (.pointer (some ⟨g, 1, none⟩)) ?_
      simp only [Act.put, List.setIfInBounds_toArray, List.set_cons_zero, List.set_cons_succ]
      refine tk 3 ⟨some 29, .load 3 (.tmp 28), 3, "program.go:82", #[⟨2, .data⟩], none⟩ (.int .i64 (line : Int)) ?_ (hy := Or.inl ⟨by rfl, by intro w hSw; have hcc := HGl.out w hSw; go_simp⟩)
      simp only [Act.put, List.setIfInBounds_toArray, List.set_cons_zero, List.set_cons_succ]
      refine tk 4 ⟨some 30, .fieldAddr 154 (.tmp 4) 2, 0, "program.go:82", #[], none⟩ (.pointer (some ⟨gw, 2, none⟩)) ?_
      simp only [Act.put, List.setIfInBounds_toArray, List.set_cons_zero, List.set_cons_succ]
      refine tk 5 ⟨some 31, .load 3 (.tmp 30), 3, "program.go:82", #[⟨4, .data⟩], none⟩ (.int .i64 (nc : Int)) ?_ (hy := Or.inl ⟨by rfl, by intro w hSw; have hcc := HCl.out w hSw; go_simp⟩)
      simp only [Act.put, List.setIfInBounds_toArray, List.set_cons_zero, List.set_cons_succ]
      refine wpAnyH_ready (rs := [6]) (by kernel_rfl) (by simp) (AllReadyH.cons (o := ⟨some 32, .call { callee := .value (.func 38), args := #[.const (.int .i64 60), .tmp 29, .tmp 31], argTypes := #[25, 3, 3] }, 70, "program.go:82", #[⟨3, .data⟩, ⟨5, .data⟩], none⟩) rfl (fun KQ hK => ?_) AllReadyH.nil)
      go_simp
      refine (faultAt_any _ 60 (line : Int) (nc : Int)).mono ?_
      rintro e y1 ⟨rfl, rfl⟩
      have HY1 : Hid (Below X.heap.size X X.drew) := hid (Below.refl _ _).drew
      go_wp2_with fail
      refine hK.out _ _ HY1.out (fun hHeld => ?_)
      clear hK KQ
      try simp only [Act.put, List.setIfInBounds_toArray, List.set_cons_zero, List.set_cons_succ]
      refine wpAnyH_ready (rs := [7]) (by kernel_rfl) (by simp) (AllReadyH.cons (o := ⟨some 6, .assign (.tmp 32), 70, "program.go:82", #[⟨6, .data⟩, ⟨6, .chain⟩, ⟨0, .phase⟩, ⟨1, .phase⟩, ⟨2, .phase⟩, ⟨3, .phase⟩, ⟨4, .phase⟩, ⟨5, .phase⟩, ⟨6, .phase⟩], none⟩) rfl (fun KQ hK => ?_) AllReadyH.nil)
      go_simp
      refine hK.out _ _ HY1.out (fun hHeld => ?_)
      clear hK KQ
      try simp only [Act.put, List.setIfInBounds_toArray, List.set_cons_zero, List.set_cons_succ]
      refine wpAnyH_done (by kernel_rfl) ?_ _
      clear hHeld
      go_wp2_with fail
      go_ret
      exact ⟨⟨rfl, below_on HPX.out.below HY1.out⟩, KT.trans HXK.out (.of_below HY1.out)⟩
    | false =>
      simp only [Bool.false_eq_true, if_false]
      have hle := S.least_le hk
      have l1 : (k.least : Int) ≤ 2 := by omega
      by_cases hr1 : 2048 < st.ws.length + k.least
      · simp only [if_pos hr1]
        go_enter Tryz.func63, Tryz.ntmps63
        go_wp2_with (go_at_call 88; refine (H88.out _ (below_one _ _)).mono ?_; rintro e y0 ⟨⟨ka, kb, kn, kp, rfl, hkk⟩, hb0⟩; obtain ⟨rfl, rfl, rfl, rfl⟩ := hkk k rfl; have hq1 : ∀ ob, (y0.alloc ob).cell? ⟨V.heap.size, 1, none⟩ = some (.bool false) := fun ob => (((Cel.new V 154 [Value.string ⟨nt.toArray⟩, Value.bool false, Value.int IntKind.i64 (nc : Int)]).on hb0).on (below_one _ ob)).cell 1)
        have HX : Hid (Below V.heap.size V (y0.alloc (Obj.cells (kdC k).toArray 188)) ∧ Cel (y0.alloc (Obj.cells (kdC k).toArray 188)) V.heap.size 154 [Value.string { data := nt.toArray }, Value.bool false, Value.int IntKind.i64 ↑nc] ∧ Cel (y0.alloc (Obj.cells (kdC k).toArray 188)) y0.heap.size 188 (kdC k)) := hid ⟨below_on (below_on (below_one _ _) hb0) (below_one _ _), ((Cel.new V 154 [Value.string { data := nt.toArray }, Value.bool false, Value.int IntKind.i64 ↑nc]).on hb0).on (below_one _ _), Cel.new _ _ _⟩
        clear hkk hb0 hq1
        change Calls Tryz.prog 89 _ (y0.alloc (Obj.cells (kdC k).toArray 188)) _
        generalize y0.alloc (Obj.cells (kdC k).toArray 188) = U at *
        generalize y0.heap.size = gk at *
        generalize hgw : V.heap.size = gw at HX ⊢
        have HVU : Hid (Below V.heap.size V U) := hid (by rw [hgw]; exact HX.out.1)
        have HPU := hid (HP.out U HVU.out)
        have HCw := hid HX.out.2.1
        have HCk := hid HX.out.2.2
        clear HX hgw
        have H89 := hid (hasRoom_any U g aw st.ws.length cw k.least hrm (by omega) (HPU.out.cel.cell 2))
        rw [decide_eq_false (by omega)] at H89
        refine H89.out.mono ?_
        rintro e w' ⟨rfl, rfl⟩
        clear H89
        have HGl : Hid (∀ x, Below U.heap.size U x → x.cell? ⟨g, 1, none⟩ = some (.int .i64 (line : Int))) := hid (fun x hx => (HPU.out.cel.on hx).cell 1)
        have HCl : Hid (∀ x, Below U.heap.size U x → x.cell? ⟨gw, 2, none⟩ = some (.int .i64 (nc : Int))) := hid (fun x hx => (HCw.out.on hx).cell 2)
        go_wp2_with fail
        refine wp_region_held_drew (S := fun x => Below U.heap.size U x) (by kernel_rfl) ((Below.refl _ _).drew) (fun hHeld => ?_)
        refine tk 0 ⟨some 38, .move (.tmp 0), 68, "program.go:85", #[], none⟩ (.pointer (some ⟨g, 0, none⟩)) ?_
        simp only [Act.put, List.setIfInBounds_toArray, List.set_cons_zero, List.set_cons_succ]
        refine tk 1 ⟨some 39, .nilCheck (.tmp 38), 0, "program.go:85", #[⟨0, .data⟩], none⟩ (.pointer (some ⟨g, 0, none⟩)) ?_
        simp only [Act.put, List.setIfInBounds_toArray, List.set_cons_zero, List.set_cons_succ]
        refine tk 2 ⟨some 40, .fieldAddr 77 (.tmp 39) 1, 0, "program.go:85", #[⟨1, .data⟩], none⟩ (.pointer (some ⟨g, 1, none⟩)) ?_
        simp only [Act.put, List.setIfInBounds_toArray, List.set_cons_zero, List.set_cons_succ]
        refine tk 3 ⟨some 41, .load 3 (.tmp 40), 3, "program.go:85", #[⟨2, .data⟩], none⟩ (.int .i64 (line : Int)) ?_ (hy := Or.inl ⟨by rfl, by intro w hSw; have hcc := HGl.out w hSw; go_simp⟩)
        simp only [Act.put, List.setIfInBounds_toArray, List.set_cons_zero, List.set_cons_succ]
        refine tk 4 ⟨some 42, .fieldAddr 154 (.tmp 4) 2, 0, "program.go:85", #[], none⟩ (.pointer (some ⟨gw, 2, none⟩)) ?_
        simp only [Act.put, List.setIfInBounds_toArray, List.set_cons_zero, List.set_cons_succ]
        refine tk 5 ⟨some 43, .load 3 (.tmp 42), 3, "program.go:85", #[⟨4, .data⟩], none⟩ (.int .i64 (nc : Int)) ?_ (hy := Or.inl ⟨by rfl, by intro w hSw; have hcc := HCl.out w hSw; go_simp⟩)
        simp only [Act.put, List.setIfInBounds_toArray, List.set_cons_zero, List.set_cons_succ]
        refine wpAnyH_ready (rs := [6]) (by kernel_rfl) (by simp) (AllReadyH.cons (o := ⟨some 44, .call { callee := .value (.func 38), args := #[.const (.int .i64 66), .tmp 41, .tmp 43], argTypes := #[25, 3, 3] }, 70, "program.go:85", #[⟨3, .data⟩, ⟨5, .data⟩], none⟩) rfl (fun KQ hK => ?_) AllReadyH.nil)
        go_simp
        refine (faultAt_any _ 66 (line : Int) (nc : Int)).mono ?_
        rintro e y1 ⟨rfl, rfl⟩
        have HY1 : Hid (Below U.heap.size U U.drew) := hid (Below.refl _ _).drew
        go_wp2_with fail
        refine hK.out _ _ HY1.out (fun hHeld => ?_)
        clear hK KQ
        try simp only [Act.put, List.setIfInBounds_toArray, List.set_cons_zero, List.set_cons_succ]
        refine wpAnyH_ready (rs := [7]) (by kernel_rfl) (by simp) (AllReadyH.cons (o := ⟨some 6, .assign (.tmp 44), 70, "program.go:85", #[⟨6, .data⟩, ⟨6, .chain⟩, ⟨0, .phase⟩, ⟨1, .phase⟩, ⟨2, .phase⟩, ⟨3, .phase⟩, ⟨4, .phase⟩, ⟨5, .phase⟩, ⟨6, .phase⟩], none⟩) rfl (fun KQ hK => ?_) AllReadyH.nil)
        go_simp
        refine hK.out _ _ HY1.out (fun hHeld => ?_)
        clear hK KQ
        try simp only [Act.put, List.setIfInBounds_toArray, List.set_cons_zero, List.set_cons_succ]
        refine wpAnyH_done (by kernel_rfl) ?_ _
        clear hHeld
        go_wp2_with fail
        go_ret
        exact ⟨⟨rfl, below_on HPU.out.below HY1.out⟩, KT.trans (.of_below HVU.out) (.of_below HY1.out)⟩
      · simp only [if_neg hr1]
        have H90 : Hid (∀ x, Below V.heap.size V x → Calls Tryz.prog 90 #[.pointer (some ⟨g, 0, none⟩), kdV k, wdV ⟨nt, false, nc⟩, .slice ao n c] x fun y w' => RoPost x line (S.rdOps nc (k.shape.map (·.toNat)) rs) y w') := hid (fun x hx => readOperands_any x (HT.out x hx) g line ((HP.out x hx).cel.cell 1) k (S.shape6 HKO.out).1 (S.shape6 HKO.out).2 ⟨nt, false, nc⟩ ao n c rs HN.out hn1 HRS.out (HA.out x hx))
        simp only [kdV, kdC, wdV] at H90
        cases hrd : S.rdOps nc (k.shape.map (·.toNat)) rs with
        | inl f =>
          rw [hrd] at H90
          obtain ⟨fe, fc⟩ := f
          simp only [RoPost] at H90
          go_enter Tryz.func63, Tryz.ntmps63
          go_wp2_with (go_at_call 88; refine (H88.out _ (below_one _ _)).mono ?_; rintro e y0 ⟨⟨ka, kb, kn, kp, rfl, hkk⟩, hb0⟩; obtain ⟨rfl, rfl, rfl, rfl⟩ := hkk k rfl; have hq1 : ∀ ob, (y0.alloc ob).cell? ⟨V.heap.size, 1, none⟩ = some (.bool false) := fun ob => (((Cel.new V 154 [Value.string ⟨nt.toArray⟩, Value.bool false, Value.int IntKind.i64 (nc : Int)]).on hb0).on (below_one _ ob)).cell 1)
          have HX : Hid (Below V.heap.size V (y0.alloc (Obj.cells (kdC k).toArray 188)) ∧ Cel (y0.alloc (Obj.cells (kdC k).toArray 188)) V.heap.size 154 [Value.string { data := nt.toArray }, Value.bool false, Value.int IntKind.i64 ↑nc] ∧ Cel (y0.alloc (Obj.cells (kdC k).toArray 188)) y0.heap.size 188 (kdC k)) := hid ⟨below_on (below_on (below_one _ _) hb0) (below_one _ _), ((Cel.new V 154 [Value.string { data := nt.toArray }, Value.bool false, Value.int IntKind.i64 ↑nc]).on hb0).on (below_one _ _), Cel.new _ _ _⟩
          clear hkk hb0 hq1
          change Calls Tryz.prog 89 _ (y0.alloc (Obj.cells (kdC k).toArray 188)) _
          generalize y0.alloc (Obj.cells (kdC k).toArray 188) = U at *
          generalize y0.heap.size = gk at *
          generalize hgw : V.heap.size = gw at HX ⊢
          have HVU : Hid (Below V.heap.size V U) := hid (by rw [hgw]; exact HX.out.1)
          have HPU := hid (HP.out U HVU.out)
          have HCw := hid HX.out.2.1
          have HCk := hid HX.out.2.2
          clear HX hgw
          have H89 := hid (hasRoom_any U g aw st.ws.length cw k.least hrm (by omega) (HPU.out.cel.cell 2))
          rw [decide_eq_true (by omega)] at H89
          refine H89.out.mono ?_
          rintro e w' ⟨rfl, rfl⟩
          have k0 : U.cell? ⟨gk, 0, none⟩ = some (.string ⟨k.name.toArray⟩) := HCk.out.cell 0
          have k1 : U.cell? ⟨gk, 1, none⟩ = some (.string ⟨k.shape.toArray⟩) := HCk.out.cell 1
          have k2 : U.cell? ⟨gk, 2, none⟩ = some (.int .i64 (k.least : Int)) := HCk.out.cell 2
          have k3 : U.cell? ⟨gk, 3, none⟩ = some (.int .i64 (k.op : Int)) := HCk.out.cell 3
          have m0 : U.cell? ⟨gw, 0, none⟩ = some (.string ⟨nt.toArray⟩) := HCw.out.cell 0
          have m1 : U.cell? ⟨gw, 1, none⟩ = some (.bool false) := HCw.out.cell 1
          have m2 : U.cell? ⟨gw, 2, none⟩ = some (.int .i64 (nc : Int)) := HCw.out.cell 2
          go_wp2_with (go_at_call 90; refine (H90.out U HVU.out).mono ?_; rintro e w2 ⟨rfl, hb2⟩; simp only [bk])
          go_ret
          exact ⟨⟨rfl, below_on HPU.out.below hb2⟩, KT.trans (.of_below HVU.out) (.of_below hb2)⟩
        | inr os =>
          rw [hrd] at H90
          simp only [RoPost] at H90
          have HOS := hid (S.os_ok HKO.out hrd)
          obtain ⟨wd, hwd⟩ : ∃ wd, S.words k os = wd := ⟨_, rfl⟩
          have HWD : Hid (S.words k os = wd) := hwd
          simp only [hwd]
          have hwl : wd.length ≤ 2048 := by rw [← hwd]; exact S.words_len HOS.out.1
          have HLA := hid (S.latsK_all k os st.ws.length line)
          by_cases hr2 : 2048 < st.ws.length + wd.length
          · simp only [if_pos hr2]
            go_enter Tryz.func63, Tryz.ntmps63
            go_wp2_with (go_at_call 88; refine (H88.out _ (below_one _ _)).mono ?_; rintro e y0 ⟨⟨ka, kb, kn, kp, rfl, hkk⟩, hb0⟩; obtain ⟨rfl, rfl, rfl, rfl⟩ := hkk k rfl; have hq1 : ∀ ob, (y0.alloc ob).cell? ⟨V.heap.size, 1, none⟩ = some (.bool false) := fun ob => (((Cel.new V 154 [Value.string ⟨nt.toArray⟩, Value.bool false, Value.int IntKind.i64 (nc : Int)]).on hb0).on (below_one _ ob)).cell 1)
            have HX : Hid (Below V.heap.size V (y0.alloc (Obj.cells (kdC k).toArray 188)) ∧ Cel (y0.alloc (Obj.cells (kdC k).toArray 188)) V.heap.size 154 [Value.string { data := nt.toArray }, Value.bool false, Value.int IntKind.i64 ↑nc] ∧ Cel (y0.alloc (Obj.cells (kdC k).toArray 188)) y0.heap.size 188 (kdC k)) := hid ⟨below_on (below_on (below_one _ _) hb0) (below_one _ _), ((Cel.new V 154 [Value.string { data := nt.toArray }, Value.bool false, Value.int IntKind.i64 ↑nc]).on hb0).on (below_one _ _), Cel.new _ _ _⟩
            clear hkk hb0 hq1
            change Calls Tryz.prog 89 _ (y0.alloc (Obj.cells (kdC k).toArray 188)) _
            generalize y0.alloc (Obj.cells (kdC k).toArray 188) = U at *
            generalize y0.heap.size = gk at *
            generalize hgw : V.heap.size = gw at HX ⊢
            have HVU : Hid (Below V.heap.size V U) := hid (by rw [hgw]; exact HX.out.1)
            have HPU := hid (HP.out U HVU.out)
            have HCw := hid HX.out.2.1
            have HCk := hid HX.out.2.2
            clear HX hgw
            have H89 := hid (hasRoom_any U g aw st.ws.length cw k.least hrm (by omega) (HPU.out.cel.cell 2))
            rw [decide_eq_true (by omega)] at H89
            refine H89.out.mono ?_
            rintro e w' ⟨rfl, rfl⟩
            have k0 : U.cell? ⟨gk, 0, none⟩ = some (.string ⟨k.name.toArray⟩) := HCk.out.cell 0
            have k1 : U.cell? ⟨gk, 1, none⟩ = some (.string ⟨k.shape.toArray⟩) := HCk.out.cell 1
            have k2 : U.cell? ⟨gk, 2, none⟩ = some (.int .i64 (k.least : Int)) := HCk.out.cell 2
            have k3 : U.cell? ⟨gk, 3, none⟩ = some (.int .i64 (k.op : Int)) := HCk.out.cell 3
            have m0 : U.cell? ⟨gw, 0, none⟩ = some (.string ⟨nt.toArray⟩) := HCw.out.cell 0
            have m1 : U.cell? ⟨gw, 1, none⟩ = some (.bool false) := HCw.out.cell 1
            have m2 : U.cell? ⟨gw, 2, none⟩ = some (.int .i64 (nc : Int)) := HCw.out.cell 2
            go_wp2_with (go_at_call 90; refine (H90.out U HVU.out).mono ?_; rintro e w2 ⟨v, rfl, hO⟩; have p0 : w2.cell? ⟨gk, 0, none⟩ = some (.string ⟨k.name.toArray⟩) := (HCk.out.on hO.below).cell 0; have p1 : w2.cell? ⟨gk, 1, none⟩ = some (.string ⟨k.shape.toArray⟩) := (HCk.out.on hO.below).cell 1; have p2 : w2.cell? ⟨gk, 2, none⟩ = some (.int .i64 (k.least : Int)) := (HCk.out.on hO.below).cell 2; have p3 : w2.cell? ⟨gk, 3, none⟩ = some (.int .i64 (k.op : Int)) := (HCk.out.on hO.below).cell 3)
            have HO2 : Hid (HO U w2 v os) := hO
            clear k0 k1 k2 k3 m0 m1 m2 p0 p1 p2 p3 hO H89 H90
            obtain ⟨av, cv, rfl⟩ := own_form HO2.out.own
            have H91 : Hid (Calls Tryz.prog 91 #[kdV k, .slice av os.length cv] w2 fun x w' => (∃ g, x = .returned (.slice (some ⟨g, 0, none⟩) wd.length wd.length) ∧ w2.heap.size ≤ g ∧ Cel w' g 22 (u32s wd)) ∧ Below w2.heap.size w2 w') := hid (by rw [← HWD.out]; exact words_any6 w2 (HT.out w2 (below_on HVU.out HO2.out.below)) k HKO.out av os.length cv os rfl HOS.out.1 (HO2.out.at rfl))
            refine H91.out.mono ?_
            rintro e w3 ⟨⟨gW, rfl, hgW, hcW⟩, hb3⟩
            have HP3 := hid ((HPU.out.on HO2.out.below).on hb3)
            have HCw3 := hid ((HCw.out.on HO2.out.below).on hb3)
            have HCk3 := hid ((HCk.out.on HO2.out.below).on hb3)
            have HO3 : Hid (HO U w3 (.slice av os.length cv) os) := hid (HO2.out.on hb3)
            have HW3 : Hid (Cel w3 gW 22 (u32s wd)) := hcW
            have HU3 : Hid (Below V.heap.size V w3) := hid (below_on HVU.out HO3.out.below)
            clear hgW hcW hb3 H91 HO2
            go_wp2_with fail
            have H89b := hid (hasRoom_any w3 g aw st.ws.length cw wd.length hrm (by omega) (HP3.out.cel.cell 2))
            rw [decide_eq_false (by omega)] at H89b
            refine H89b.out.mono ?_
            rintro e w' ⟨rfl, rfl⟩
            clear H89b
            have HGl : Hid (∀ x, Below w3.heap.size w3 x → x.cell? ⟨g, 1, none⟩ = some (.int .i64 (line : Int))) := hid (fun x hx => (HP3.out.cel.on hx).cell 1)
            have HCl : Hid (∀ x, Below w3.heap.size w3 x → x.cell? ⟨gw, 2, none⟩ = some (.int .i64 (nc : Int))) := hid (fun x hx => (HCw3.out.on hx).cell 2)
            go_wp2_with fail
            refine wp_region_held_drew (S := fun x => Below w3.heap.size w3 x) (by kernel_rfl) ((Below.refl _ _).drew) (fun hHeld => ?_)
            refine tk 0 ⟨some 64, .move (.tmp 0), 68, "program.go:93", #[], none⟩ (.pointer (some ⟨g, 0, none⟩)) ?_
            simp only [Act.put, List.setIfInBounds_toArray, List.set_cons_zero, List.set_cons_succ]
            refine tk 1 ⟨some 65, .nilCheck (.tmp 64), 0, "program.go:93", #[⟨0, .data⟩], none⟩ (.pointer (some ⟨g, 0, none⟩)) ?_
            simp only [Act.put, List.setIfInBounds_toArray, List.set_cons_zero, List.set_cons_succ]
            refine tk 2 ⟨some 66, .fieldAddr 77 (.tmp 65) 1, 0, "program.go:93", #[⟨1, .data⟩], none⟩ (.pointer (some ⟨g, 1, none⟩)) ?_
            simp only [Act.put, List.setIfInBounds_toArray, List.set_cons_zero, List.set_cons_succ]
            refine tk 3 ⟨some 67, .load 3 (.tmp 66), 3, "program.go:93", #[⟨2, .data⟩], none⟩ (.int .i64 (line : Int)) ?_ (hy := Or.inl ⟨by rfl, by intro w hSw; have hcc := HGl.out w hSw; go_simp⟩)
            simp only [Act.put, List.setIfInBounds_toArray, List.set_cons_zero, List.set_cons_succ]
            refine tk 4 ⟨some 68, .fieldAddr 154 (.tmp 4) 2, 0, "program.go:93", #[], none⟩ (.pointer (some ⟨gw, 2, none⟩)) ?_
            simp only [Act.put, List.setIfInBounds_toArray, List.set_cons_zero, List.set_cons_succ]
            refine tk 5 ⟨some 69, .load 3 (.tmp 68), 3, "program.go:93", #[⟨4, .data⟩], none⟩ (.int .i64 (nc : Int)) ?_ (hy := Or.inl ⟨by rfl, by intro w hSw; have hcc := HCl.out w hSw; go_simp⟩)
            simp only [Act.put, List.setIfInBounds_toArray, List.set_cons_zero, List.set_cons_succ]
            refine wpAnyH_ready (rs := [6]) (by kernel_rfl) (by simp) (AllReadyH.cons (o := ⟨some 70, .call { callee := .value (.func 38), args := #[.const (.int .i64 66), .tmp 67, .tmp 69], argTypes := #[25, 3, 3] }, 70, "program.go:93", #[⟨3, .data⟩, ⟨5, .data⟩], none⟩) rfl (fun KQ hK => ?_) AllReadyH.nil)
            go_simp
            refine (faultAt_any _ 66 (line : Int) (nc : Int)).mono ?_
            rintro e y1 ⟨rfl, rfl⟩
            have HY1 : Hid (Below w3.heap.size w3 w3.drew) := hid (Below.refl _ _).drew
            go_wp2_with fail
            refine hK.out _ _ HY1.out (fun hHeld => ?_)
            clear hK KQ
            try simp only [Act.put, List.setIfInBounds_toArray, List.set_cons_zero, List.set_cons_succ]
            refine wpAnyH_ready (rs := [7]) (by kernel_rfl) (by simp) (AllReadyH.cons (o := ⟨some 6, .assign (.tmp 70), 70, "program.go:93", #[⟨6, .data⟩, ⟨6, .chain⟩, ⟨0, .phase⟩, ⟨1, .phase⟩, ⟨2, .phase⟩, ⟨3, .phase⟩, ⟨4, .phase⟩, ⟨5, .phase⟩, ⟨6, .phase⟩], none⟩) rfl (fun KQ hK => ?_) AllReadyH.nil)
            go_simp
            refine hK.out _ _ HY1.out (fun hHeld => ?_)
            clear hK KQ
            try simp only [Act.put, List.setIfInBounds_toArray, List.set_cons_zero, List.set_cons_succ]
            refine wpAnyH_done (by kernel_rfl) ?_ _
            clear hHeld
            go_wp2_with fail
            go_ret
            exact ⟨⟨rfl, below_on HP3.out.below HY1.out⟩, KT.trans (.of_below HU3.out) (.of_below HY1.out)⟩
          · simp only [if_neg hr2]
            go_enter Tryz.func63, Tryz.ntmps63
            go_wp2_with (go_at_call 88; refine (H88.out _ (below_one _ _)).mono ?_; rintro e y0 ⟨⟨ka, kb, kn, kp, rfl, hkk⟩, hb0⟩; obtain ⟨rfl, rfl, rfl, rfl⟩ := hkk k rfl; have hq1 : ∀ ob, (y0.alloc ob).cell? ⟨V.heap.size, 1, none⟩ = some (.bool false) := fun ob => (((Cel.new V 154 [Value.string ⟨nt.toArray⟩, Value.bool false, Value.int IntKind.i64 (nc : Int)]).on hb0).on (below_one _ ob)).cell 1)
            have HX : Hid (Below V.heap.size V (y0.alloc (Obj.cells (kdC k).toArray 188)) ∧ Cel (y0.alloc (Obj.cells (kdC k).toArray 188)) V.heap.size 154 [Value.string { data := nt.toArray }, Value.bool false, Value.int IntKind.i64 ↑nc] ∧ Cel (y0.alloc (Obj.cells (kdC k).toArray 188)) y0.heap.size 188 (kdC k)) := hid ⟨below_on (below_on (below_one _ _) hb0) (below_one _ _), ((Cel.new V 154 [Value.string { data := nt.toArray }, Value.bool false, Value.int IntKind.i64 ↑nc]).on hb0).on (below_one _ _), Cel.new _ _ _⟩
            clear hkk hb0 hq1
            change Calls Tryz.prog 89 _ (y0.alloc (Obj.cells (kdC k).toArray 188)) _
            generalize y0.alloc (Obj.cells (kdC k).toArray 188) = U at *
            generalize y0.heap.size = gk at *
            generalize hgw : V.heap.size = gw at HX ⊢
            have HVU : Hid (Below V.heap.size V U) := hid (by rw [hgw]; exact HX.out.1)
            have HPU := hid (HP.out U HVU.out)
            have HCw := hid HX.out.2.1
            have HCk := hid HX.out.2.2
            clear HX hgw
            have H89 := hid (hasRoom_any U g aw st.ws.length cw k.least hrm (by omega) (HPU.out.cel.cell 2))
            rw [decide_eq_true (by omega)] at H89
            refine H89.out.mono ?_
            rintro e w' ⟨rfl, rfl⟩
            have k0 : U.cell? ⟨gk, 0, none⟩ = some (.string ⟨k.name.toArray⟩) := HCk.out.cell 0
            have k1 : U.cell? ⟨gk, 1, none⟩ = some (.string ⟨k.shape.toArray⟩) := HCk.out.cell 1
            have k2 : U.cell? ⟨gk, 2, none⟩ = some (.int .i64 (k.least : Int)) := HCk.out.cell 2
            have k3 : U.cell? ⟨gk, 3, none⟩ = some (.int .i64 (k.op : Int)) := HCk.out.cell 3
            have m0 : U.cell? ⟨gw, 0, none⟩ = some (.string ⟨nt.toArray⟩) := HCw.out.cell 0
            have m1 : U.cell? ⟨gw, 1, none⟩ = some (.bool false) := HCw.out.cell 1
            have m2 : U.cell? ⟨gw, 2, none⟩ = some (.int .i64 (nc : Int)) := HCw.out.cell 2
            go_wp2_with (go_at_call 90; refine (H90.out U HVU.out).mono ?_; rintro e w2 ⟨v, rfl, hO⟩; have p0 : w2.cell? ⟨gk, 0, none⟩ = some (.string ⟨k.name.toArray⟩) := (HCk.out.on hO.below).cell 0; have p1 : w2.cell? ⟨gk, 1, none⟩ = some (.string ⟨k.shape.toArray⟩) := (HCk.out.on hO.below).cell 1; have p2 : w2.cell? ⟨gk, 2, none⟩ = some (.int .i64 (k.least : Int)) := (HCk.out.on hO.below).cell 2; have p3 : w2.cell? ⟨gk, 3, none⟩ = some (.int .i64 (k.op : Int)) := (HCk.out.on hO.below).cell 3)
            have HO2 : Hid (HO U w2 v os) := hO
            clear k0 k1 k2 k3 m0 m1 m2 p0 p1 p2 p3 hO H89 H90
            obtain ⟨av, cv, rfl⟩ := own_form HO2.out.own
            have H91 : Hid (Calls Tryz.prog 91 #[kdV k, .slice av os.length cv] w2 fun x w' => (∃ g, x = .returned (.slice (some ⟨g, 0, none⟩) wd.length wd.length) ∧ w2.heap.size ≤ g ∧ Cel w' g 22 (u32s wd)) ∧ Below w2.heap.size w2 w') := hid (by rw [← HWD.out]; exact words_any6 w2 (HT.out w2 (below_on HVU.out HO2.out.below)) k HKO.out av os.length cv os rfl HOS.out.1 (HO2.out.at rfl))
            refine H91.out.mono ?_
            rintro e w3 ⟨⟨gW, rfl, hgW, hcW⟩, hb3⟩
            have HP3 := hid ((HPU.out.on HO2.out.below).on hb3)
            have HCw3 := hid ((HCw.out.on HO2.out.below).on hb3)
            have HCk3 := hid ((HCk.out.on HO2.out.below).on hb3)
            have HO3 : Hid (HO U w3 (.slice av os.length cv) os) := hid (HO2.out.on hb3)
            have HW3 : Hid (Cel w3 gW 22 (u32s wd)) := hcW
            have HU3 : Hid (Below V.heap.size V w3) := hid (below_on HVU.out HO3.out.below)
            clear hgW hcW hb3 H91 HO2
            go_wp2_with fail
            have H89b := hid (hasRoom_any w3 g aw st.ws.length cw wd.length hrm (by omega) (HP3.out.cel.cell 2))
            rw [decide_eq_true (by omega)] at H89b
            refine H89b.out.mono ?_
            rintro e w' ⟨rfl, rfl⟩
            clear H89b
            have q2 : w3.cell? ⟨g, 2, none⟩ = some (.slice aw st.ws.length cw) := HP3.out.cel.cell 2
            go_wp2_with (at_builtin; refine wpList_append_u32 rfl _ _ 24 rfl i0 Tryz.underlying24 hi hz0 hz1 hz2 W.heap.size HP3.out.below.size _ st.ws rfl HP3.out.ws gW _ wd rfl HW3.out (by omega) ?_; intro v4 w4 ho4 hg4; obtain ⟨a4, c4, rfl⟩ := own_form ho4; have q4 : w4.cell? ⟨g, 2, none⟩ = some (.slice aw st.ws.length cw) := (HP3.out.cel.kt (KT.grown HP3.out.ws hg4 (by decide))).cell 2; have q5 : w4.frozen? ⟨g, 2, none⟩ = false := (HP3.out.cel.kt (KT.grown HP3.out.ws hg4 (by decide))).free 2)
            have HK4 : Hid (∀ e, e ≠ 22 → e ≠ 77 → KT e w3 (w4.setCell ⟨g, 2, none⟩ (.slice a4 (st.ws.length + wd.length) c4))) := hid (fun e h1 h2 => KT.trans (KT.grown HP3.out.ws hg4 h1) (KT.setCell (HP3.out.cel.kt (KT.grown HP3.out.ws hg4 (by decide))) h2 2 _))
            have HP4 : Hid (PS W (w4.setCell ⟨g, 2, none⟩ (.slice a4 (st.ws.length + wd.length) c4)) g gm base line { st with ws := st.ws ++ wd } fs (.slice a4 (st.ws.length + wd.length) c4) vl vf) := hid (HP3.out.more wd (by omega) ho4 hg4)
            have HC4 : Hid (Cel (w4.setCell ⟨g, 2, none⟩ (.slice a4 (st.ws.length + wd.length) c4)) gk 188 (kdC k)) := hid (HCk3.out.kt (HK4.out 188 (by decide) (by decide)))
            have HO4 : Hid ((w4.setCell ⟨g, 2, none⟩ (.slice a4 (st.ws.length + wd.length) c4)).ownsRow U.heap.size 197 3 (.slice av os.length cv) os.length (opsC os)) := hid (own_kt HO3.out.own (HK4.out 197 (by decide) (by decide)))
            have HUV : Hid (V.heap.size ≤ U.heap.size ∧ W.heap.size ≤ U.heap.size) := hid ⟨HVU.out.size, HPU.out.below.size⟩
            have HKX : Hid (KT 154 V (w4.setCell ⟨g, 2, none⟩ (.slice a4 (st.ws.length + wd.length) c4))) := hid (KT.trans (.of_below HU3.out) (HK4.out 154 (by decide) (by decide)))
            clear ho4 hg4 q2 q4 q5 HP3 HCw3 HCk3 HO3 HW3 HU3 HPU HCw HCk HVU HK4 H88 HP HT HA
            generalize w4.setCell ⟨g, 2, none⟩ (.slice a4 (st.ws.length + wd.length) c4) = X at *
            obtain ⟨ol, hol⟩ : ∃ ol, os.length = ol := ⟨_, rfl⟩
            have HOL : Hid (os.length = ol) := hol
            have o3 : (ol : Int) ≤ 3 := by have h1 := HOS.out.1.len; have h2 := (S.shape6 HKO.out).1; omega
            rw [hol] at HO4 ⊢
            rw [hol] at HLA
            clear hol
            go_loopw [13, 87] (fun _ j wr => ∃ (q : Nat) (fs' : List Fc) (vf' : Value), q ≤ ol ∧ j = .int .i64 q ∧ Hid (PS W wr g gm base line { ws := st.ws ++ wd, labs := st.labs, lat := st.lat ++ S.latsK k os st.ws.length line q } fs' (.slice a4 (st.ws.length + wd.length) c4) vl vf' ∧ Cel wr gk 188 (kdC k) ∧ wr.ownsRow U.heap.size 197 3 (.slice av ol cv) ol (opsC os) ∧ (fs' = fs ∨ ∃ i, i < q ∧ (os.getD i ⟨0, [], 0⟩).lab ≠ []) ∧ KT 154 V wr)) (fun _ j _ => ol - (intOf j).toNat)
            case atStart => exact ⟨0, fs, vf, Nat.zero_le _, rfl, hid ⟨by rw [S.latsK_none k os st.ws.length line 0 (fun i hi => by omega), List.append_nil]; exact HP4.out, HC4.out, HO4.out, .inl rfl, HKX.out⟩⟩
            case round =>
              clear HP4 HC4 HO4
              obtain ⟨q, fs', vf', hq, rfl, HQ⟩ := hrel
              by_cases hlt : q < ol
              · have c1 : (q : Int) < (ol : Int) := by omega
                have hqo : q < os.length := by rw [HOL.out]; exact hlt
                obtain ⟨gO, hgO, rfl⟩ : ∃ gO, U.heap.size ≤ gO ∧ av = some ⟨gO, 0, none⟩ := by
                  rcases HQ.out.2.2.1.2 with ⟨_, h0⟩ | ⟨g', cap, cur, h1, h2, _⟩
                  · omega
                  · injection h1 with h1
                    exact ⟨g', h2, h1⟩
                have hgd : os.getD q ⟨0, [], 0⟩ = os[q] := by rw [List.getD_eq_getElem?_getD, List.getElem?_eq_getElem hqo, Option.getD_some]
                have hlc : wr.cell? ⟨gO, q * 3 + 1, none⟩ = some (.string ⟨os[q].lab.toArray⟩) := by
                  have := HQ.out.2.2.1.cells (g := gO) rfl (q * 3 + 1) (.string ⟨os[q].lab.toArray⟩) (by rw [opsC_get os q 1 hqo (by decide)]; rfl)
                  rw [Addr.add_mid, Nat.zero_add] at this
                  exact this
                have HLS := hid (S.latsK_succ k os st.ws.length line q)
                by_cases hlb : os[q].lab = []
                · rw [hlb] at hlc
                  have HL1 : Hid (S.latsK k os st.ws.length line (q + 1) = S.latsK k os st.ws.length line q) := hid (by rw [HLS.out, hgd, if_pos hlb, List.append_nil])
                  clear hgd hlb hqo
                  go_wp2_with fail
                  go_roundw
                  case measure => simp [intOf] <;> omega
                  case rel => exact ⟨q + 1, fs', vf', by omega, by go_num, hid ⟨by rw [HL1.out]; exact HQ.out.1, HQ.out.2.1, HQ.out.2.2.1, HQ.out.2.2.2.1.imp id (fun ⟨i, a, b⟩ => ⟨i, by omega, b⟩), HQ.out.2.2.2.2⟩⟩
                · have hno : ∀ i, i < q → (os.getD i ⟨0, [], 0⟩).lab = [] := fun i hi => by
                    by_cases hh : (os.getD i ⟨0, [], 0⟩).lab = []
                    · exact hh
                    · rw [List.getD_eq_getElem?_getD, List.getElem?_eq_getElem (by omega), Option.getD_some] at hh
                      have := HOS.out.2 i q (by omega) hqo hh hlb
                      omega
                  have hl0 := S.latsK_none k os st.ws.length line q hno
                  have HL1 : Hid (S.latsK k os st.ws.length line (q + 1) = [⟨k, os, q, st.ws.length, line⟩]) := hid (by rw [HLS.out, hgd, if_neg hlb, hl0]; rfl)
                  have hfs : fs' = fs := by
                    rcases HQ.out.2.2.2.1 with h | ⟨i, hi, hh⟩
                    · exact h
                    · exact absurd (hno i hi) hh
                  subst hfs
                  rw [hl0, List.append_nil] at HQ
                  have hne : os[q].lab.isEmpty = false := by cases hx : os[q].lab with | nil => exact absurd hx hlb | cons _ _ => rfl
                  have HNE : Hid ((os.getD q ⟨0, [], 0⟩).lab ≠ []) := hid (by rw [hgd]; exact hlb)
                  have HQO : Hid (q < os.length) := hqo
                  generalize os[q].lab = lb at *
                  clear hgd hlb hno hl0 hqo
                  obtain ⟨af, cf, rfl⟩ := own_form HQ.out.1.lt
                  simp only at HQ
                  go_wp2_with fail
                  have HRk : Hid (∀ x, Cel x gk 188 (kdC k) → x.rangeAt gk 0 (kdC k)) := hid (fun x h => h.range)
                  refine wp_region_held_drew (S := fun x => Cel x gk 188 (kdC k)) (by kernel_rfl) (HQ.out.2.1.on (Below.refl _ _).drew) (fun hHeld => ?_)
                  refine tk 0 ⟨some 96, .move (.tmp 0), 68, "program.go:99", #[], none⟩ (.pointer (some ⟨g, 0, none⟩)) ?_
                  simp only [Act.put, List.setIfInBounds_toArray, List.set_cons_zero, List.set_cons_succ]
                  refine tk 1 ⟨some 97, .move (.tmp 0), 68, "program.go:99", #[], none⟩ (.pointer (some ⟨g, 0, none⟩)) ?_
                  simp only [Act.put, List.setIfInBounds_toArray, List.set_cons_zero, List.set_cons_succ]
                  refine tk 2 ⟨some 98, .nilCheck (.tmp 97), 0, "program.go:99", #[⟨1, .data⟩], none⟩ (.pointer (some ⟨g, 0, none⟩)) ?_
                  simp only [Act.put, List.setIfInBounds_toArray, List.set_cons_zero, List.set_cons_succ]
                  refine tk 3 ⟨some 99, .fieldAddr 77 (.tmp 98) 5, 0, "program.go:99", #[⟨2, .data⟩], none⟩ (.pointer (some ⟨g, 5, none⟩)) ?_
                  simp only [Act.put, List.setIfInBounds_toArray, List.set_cons_zero, List.set_cons_succ]
                  refine tk 5 ⟨some 101, .move (.tmp 0), 68, "program.go:99", #[], none⟩ (.pointer (some ⟨g, 0, none⟩)) ?_
                  simp only [Act.put, List.setIfInBounds_toArray, List.set_cons_zero, List.set_cons_succ]
                  refine tk 6 ⟨some 102, .load 188 (.tmp 7), 188, "program.go:99", #[], none⟩ (kdV k) ?_ (hy := yieldsIf_load_mid (by rfl) _ _ rfl _ _ rfl _ _ (fun w hSw => HRk.out w hSw) Tryz.underlying188 rfl size188)
                  simp only [Act.put, List.setIfInBounds_toArray, List.set_cons_zero, List.set_cons_succ]
                  refine tk 7 ⟨some 103, .move (.tmp 9), 192, "program.go:99", #[], none⟩ (.slice (some ⟨gO, 0, none⟩) ol cv) ?_
                  simp only [Act.put, List.setIfInBounds_toArray, List.set_cons_zero, List.set_cons_succ]
                  refine tk 8 ⟨some 104, .move (.tmp 13), 3, "program.go:99", #[], none⟩ (.int .i64 (q : Int)) ?_
                  simp only [Act.put, List.setIfInBounds_toArray, List.set_cons_zero, List.set_cons_succ]
                  refine tk 9 ⟨some 105, .move (.tmp 12), 3, "program.go:99", #[], none⟩ (.int .i64 (st.ws.length : Int)) ?_
                  simp only [Act.put, List.setIfInBounds_toArray, List.set_cons_zero, List.set_cons_succ]
                  have HYp : Hid (PS W wr.drew g gm base line { ws := st.ws ++ wd, labs := st.labs, lat := st.lat } fs' (.slice a4 (st.ws.length + wd.length) c4) vl (.slice af st.lat.length cf)) := hid (HQ.out.1.on (Below.refl _ _).drew)
                  have HYc : Hid (Cel wr.drew gk 188 (kdC k)) := hid (HQ.out.2.1.on (Below.refl _ _).drew)
                  have HYo : Hid (wr.drew.ownsRow U.heap.size 197 3 (.slice (some ⟨gO, 0, none⟩) ol cv) ol (opsC os)) := hid (own_below HQ.out.2.2.1 (Below.refl _ _).drew)
                  have HYk : Hid (KT 154 V wr.drew) := hid HQ.out.2.2.2.2
                  clear HQ hlc
                  generalize wr.drew = Y at *
                  refine wpAnyH_ready (rs := [4, 10]) (by kernel_rfl) (by simp) (AllReadyH.cons (o := ⟨some 100, .load 75 (.tmp 99), 75, "program.go:99", #[⟨3, .data⟩], none⟩) rfl (fun KQ hK => ?_) (AllReadyH.cons (o := ⟨some 106, .call { callee := .value (.func 92), args := #[.tmp 101, .tmp 102, .tmp 103, .tmp 104, .tmp 105], argTypes := #[68, 188, 192, 3, 3] }, 111, "program.go:99", #[⟨5, .data⟩, ⟨6, .data⟩, ⟨7, .data⟩, ⟨8, .data⟩, ⟨9, .data⟩], none⟩) rfl (fun KQ hK => ?_) AllReadyH.nil))
                  · have hcc5 : Y.cell? ⟨g, 5, none⟩ = some (.slice af st.lat.length cf) := HYp.out.cel.cell 5; go_simp; clear hcc5
                    refine hK.out _ _ HYc.out (fun hHeld => ?_)
                    clear hK KQ
                    try simp only [Act.put, List.setIfInBounds_toArray, List.set_cons_zero, List.set_cons_succ]
                    refine wpAnyH_ready (rs := [10]) (by kernel_rfl) (by simp) (AllReadyH.cons (o := ⟨some 106, .call { callee := .value (.func 92), args := #[.tmp 101, .tmp 102, .tmp 103, .tmp 104, .tmp 105], argTypes := #[68, 188, 192, 3, 3] }, 111, "program.go:99", #[⟨5, .data⟩, ⟨6, .data⟩, ⟨7, .data⟩, ⟨8, .data⟩, ⟨9, .data⟩], none⟩) rfl (fun KQ hK => ?_) AllReadyH.nil)
                    go_simp
                    refine (finish_any _ g line (HYp.out.cel.cell 1) k gO ol cv q st.ws.length).mono ?_
                    rintro e y1 ⟨d, rfl, hd1, hd2, hb1, f7, f8, f5, f11, f6, f9⟩
                    have HP1 : Hid (PS W y1 g gm base line { ws := st.ws ++ wd, labs := st.labs, lat := st.lat } fs' (.slice a4 (st.ws.length + wd.length) c4) vl (.slice af st.lat.length cf)) := hid (HYp.out.on hb1)
                    have HC1 : Hid (Cel y1 gk 188 (kdC k)) := hid (HYc.out.on hb1)
                    have HO1 : Hid (y1.ownsRow U.heap.size 197 3 (.slice (some ⟨gO, 0, none⟩) ol cv) ol (opsC os)) := hid (own_below HYo.out hb1)
                    have HK1 : Hid (KT 154 V y1) := hid (KT.trans HYk.out (.of_below hb1))
                    have HCL : Hid (ClosAt y1 g d ⟨k, os, q, st.ws.length, line⟩ ∧ d.gO = gO) := hid ⟨⟨by rw [hd1, hd2, HOL.out]; exact f7, f8, f5, f11, f6, f9, by rw [hd1]; exact row_cells HO1.out HOL.out, HQO.out, HKO.out, HOS.out.1, by show st.ws.length ≤ 2048; exact hrm⟩, hd1⟩
                    clear hb1 f7 f8 f5 f11 f6 f9 hd1 hd2
                    go_wp2_with fail
                    refine hK.out _ _ HC1.out (fun hHeld => ?_)
                    clear hK KQ
                    try simp only [Act.put, List.setIfInBounds_toArray, List.set_cons_zero, List.set_cons_succ]
                    refine wpAnyH_ready (rs := [11]) (by kernel_rfl) (by simp) (AllReadyH.cons (o := ⟨some 107, .buildSlice 75 1 #[(0, .tmp 106)], 75, "program.go:99", #[⟨10, .data⟩], none⟩) rfl (fun KQ hK => ?_) AllReadyH.nil)
                    simp only [fcV]; go_simp
                    have HPb : Hid (PS W (y1.alloc (Obj.cells #[Value.func (.func 123) #[] #[.pointer (some ⟨d.g7, 0, none⟩), .pointer (some ⟨d.g8, 0, none⟩), .pointer (some ⟨d.g5, 0, none⟩), .pointer (some ⟨d.g11, 0, none⟩), .pointer (some ⟨d.g6, 0, none⟩), .pointer (some ⟨d.g9, 0, none⟩)]] 111)) g gm base line { ws := st.ws ++ wd, labs := st.labs, lat := st.lat } fs' (.slice a4 (st.ws.length + wd.length) c4) vl (.slice af st.lat.length cf)) := hid (HP1.out.on (below_one _ _))
                    have HCb : Hid (Cel (y1.alloc (Obj.cells #[Value.func (.func 123) #[] #[.pointer (some ⟨d.g7, 0, none⟩), .pointer (some ⟨d.g8, 0, none⟩), .pointer (some ⟨d.g5, 0, none⟩), .pointer (some ⟨d.g11, 0, none⟩), .pointer (some ⟨d.g6, 0, none⟩), .pointer (some ⟨d.g9, 0, none⟩)]] 111)) gk 188 (kdC k)) := hid (HC1.out.on (below_one _ _))
                    have HOb : Hid ((y1.alloc (Obj.cells #[Value.func (.func 123) #[] #[.pointer (some ⟨d.g7, 0, none⟩), .pointer (some ⟨d.g8, 0, none⟩), .pointer (some ⟨d.g5, 0, none⟩), .pointer (some ⟨d.g11, 0, none⟩), .pointer (some ⟨d.g6, 0, none⟩), .pointer (some ⟨d.g9, 0, none⟩)]] 111)).ownsRow U.heap.size 197 3 (.slice (some ⟨gO, 0, none⟩) ol cv) ol (opsC os)) := hid (own_below HO1.out (below_one _ _))
                    have HNb : Hid ((y1.alloc (Obj.cells #[Value.func (.func 123) #[] #[.pointer (some ⟨d.g7, 0, none⟩), .pointer (some ⟨d.g8, 0, none⟩), .pointer (some ⟨d.g5, 0, none⟩), .pointer (some ⟨d.g11, 0, none⟩), .pointer (some ⟨d.g6, 0, none⟩), .pointer (some ⟨d.g9, 0, none⟩)]] 111)).cell? ⟨y1.heap.size, 0, none⟩ = some (fcV d)) := hid ((Cel.new y1 111 [fcV d]).cell 0)
                    have HLb : Hid (ClosAt (y1.alloc (Obj.cells #[Value.func (.func 123) #[] #[.pointer (some ⟨d.g7, 0, none⟩), .pointer (some ⟨d.g8, 0, none⟩), .pointer (some ⟨d.g5, 0, none⟩), .pointer (some ⟨d.g11, 0, none⟩), .pointer (some ⟨d.g6, 0, none⟩), .pointer (some ⟨d.g9, 0, none⟩)]] 111)) g d ⟨k, os, q, st.ws.length, line⟩ ∧ d.gO = gO) := hid ⟨HCL.out.1.kt (.of_below (below_one _ _)) (.of_below (below_one _ _)) (.of_below (below_one _ _)) (.of_below (below_one _ _)) (.of_below (below_one _ _)), HCL.out.2⟩
                    have HKb : Hid (KT 154 V (y1.alloc (Obj.cells #[Value.func (.func 123) #[] #[.pointer (some ⟨d.g7, 0, none⟩), .pointer (some ⟨d.g8, 0, none⟩), .pointer (some ⟨d.g5, 0, none⟩), .pointer (some ⟨d.g11, 0, none⟩), .pointer (some ⟨d.g6, 0, none⟩), .pointer (some ⟨d.g9, 0, none⟩)]] 111))) := hid (KT.trans HK1.out (.of_below (below_one _ _)))
                    refine hK.out _ _ HCb.out (fun hHeld => ?_)
                    clear hK KQ
                    try simp only [Act.put, List.setIfInBounds_toArray, List.set_cons_zero, List.set_cons_succ]
                    generalize y1.alloc (Obj.cells #[Value.func (.func 123) #[] #[.pointer (some ⟨d.g7, 0, none⟩), .pointer (some ⟨d.g8, 0, none⟩), .pointer (some ⟨d.g5, 0, none⟩), .pointer (some ⟨d.g11, 0, none⟩), .pointer (some ⟨d.g6, 0, none⟩), .pointer (some ⟨d.g9, 0, none⟩)]] 111) = wb at *
                    generalize y1.heap.size = gs at *
                    refine wpAnyH_ready (rs := [12]) (by kernel_rfl) (by simp) (AllReadyH.cons (o := ⟨some 108, .call { callee := .builtin .append, args := #[.tmp 100, .tmp 107], argTypes := #[75, 75] }, 75, "program.go:99", #[⟨4, .data⟩, ⟨11, .data⟩, ⟨10, .chain⟩], none⟩) rfl (fun KQ hK => ?_) AllReadyH.nil)
                    rw [if_pos (by rfl)]
                    refine wp_append_fn _ _ 75 rfl j0 Tryz.underlying75 hj hy0 hy1 hy2 W.heap.size HPb.out.below.size (.slice af st.lat.length cf) fs' st.lat.length rfl HPb.out.lt _ _ d rfl HNb.out (by omega) ?_
                    intro v6 w6 ho6 hg6
                    obtain ⟨a6, c6, rfl⟩ := own_form ho6
                    have HK6 : Hid (∀ e, e ≠ 111 → KT e wb w6) := hid (fun e he => KT.grown HPb.out.lt hg6 he)
                    have HC6 : Hid (Cel w6 gk 188 (kdC k)) := hid (HCb.out.kt (HK6.out 188 (by decide)))
                    have HG6 := hid (HPb.out.cel.kt (HK6.out 77 (by decide)))
                    have H66 : Hid (w6.ownsRow W.heap.size 111 1 (.slice a6 (st.lat.length + 1) c6) (st.lat.length + 1) ((fs' ++ [d]).map fcV) ∧ wb.grownBy w6 (Value.slice af st.lat.length cf).ownBlock) := hid ⟨ho6, hg6⟩
                    clear ho6 hg6
                    refine hK.out _ _ HC6.out (fun hHeld => ?_)
                    clear hK KQ
                    try simp only [Act.put, List.setIfInBounds_toArray, List.set_cons_zero, List.set_cons_succ]
                    refine tk 13 ⟨some 109, .nilCheck (.tmp 96), 0, "program.go:99", #[⟨0, .data⟩, ⟨0, .phase⟩, ⟨1, .phase⟩, ⟨2, .phase⟩, ⟨3, .phase⟩, ⟨4, .phase⟩, ⟨5, .phase⟩, ⟨6, .phase⟩, ⟨7, .phase⟩, ⟨8, .phase⟩, ⟨9, .phase⟩, ⟨10, .phase⟩, ⟨11, .phase⟩, ⟨12, .phase⟩], none⟩ (.pointer (some ⟨g, 0, none⟩)) ?_
                    simp only [Act.put, List.setIfInBounds_toArray, List.set_cons_zero, List.set_cons_succ]
                    refine tk 14 ⟨some 110, .fieldAddr 77 (.tmp 109) 5, 0, "program.go:99", #[⟨13, .data⟩, ⟨0, .phase⟩, ⟨1, .phase⟩, ⟨2, .phase⟩, ⟨3, .phase⟩, ⟨4, .phase⟩, ⟨5, .phase⟩, ⟨6, .phase⟩, ⟨7, .phase⟩, ⟨8, .phase⟩, ⟨9, .phase⟩, ⟨10, .phase⟩, ⟨11, .phase⟩, ⟨12, .phase⟩], none⟩ (.pointer (some ⟨g, 5, none⟩)) ?_
                    simp only [Act.put, List.setIfInBounds_toArray, List.set_cons_zero, List.set_cons_succ]
                    refine wpAnyH_ready (rs := [15]) (by kernel_rfl) (by simp) (AllReadyH.cons (o := ⟨none, .store 75 (.tmp 110) (.tmp 108), 0, "program.go:99", #[⟨14, .data⟩, ⟨12, .data⟩, ⟨12, .chain⟩, ⟨0, .phase⟩, ⟨1, .phase⟩, ⟨2, .phase⟩, ⟨3, .phase⟩, ⟨4, .phase⟩, ⟨5, .phase⟩, ⟨6, .phase⟩, ⟨7, .phase⟩, ⟨8, .phase⟩, ⟨9, .phase⟩, ⟨10, .phase⟩, ⟨11, .phase⟩, ⟨12, .phase⟩], none⟩) rfl (fun KQ hK => ?_) AllReadyH.nil)
                    have hcs : w6.cell? ⟨g, 5, none⟩ = some (.slice af st.lat.length cf) := HG6.out.cell 5; have hcf := HG6.out.free 5; go_simp; clear hcs hcf
                    refine hK.out _ _ (HC6.out.kt (KT.setCell HG6.out (by decide) 5 _)) (fun hHeld => ?_)
                    clear hK KQ
                    try simp only [Act.put]
                    refine wpAnyH_done (by kernel_rfl) ?_ _
                    clear hHeld
                    have HF : Hid (PS W (w6.setCell ⟨g, 5, none⟩ (.slice a6 (st.lat.length + 1) c6)) g gm base line { ws := st.ws ++ wd, labs := st.labs, lat := st.lat ++ [⟨k, os, q, st.ws.length, line⟩] } (fs' ++ [d]) (.slice a4 (st.ws.length + wd.length) c4) vl (.slice a6 (st.lat.length + 1) c6)) := hid (HPb.out.later d ⟨k, os, q, st.ws.length, line⟩ HLb.out.1 (fun hm => by obtain ⟨d', hd', e'⟩ := List.mem_map.1 hm; have h1 := HFS.out d' hd'; have h2 := HLb.out.2; have h3 := HUV.out.1; omega) (by rw [HLb.out.2]; exact Nat.le_trans HUV.out.2 hgO) H66.out.1 H66.out.2)
                    have HF2 : Hid (Cel (w6.setCell ⟨g, 5, none⟩ (.slice a6 (st.lat.length + 1) c6)) gk 188 (kdC k) ∧ (w6.setCell ⟨g, 5, none⟩ (.slice a6 (st.lat.length + 1) c6)).ownsRow U.heap.size 197 3 (.slice (some ⟨gO, 0, none⟩) ol cv) ol (opsC os)) := hid ⟨HC6.out.kt (KT.setCell HG6.out (by decide) 5 _), own_kt HOb.out (KT.trans (HK6.out 197 (by decide)) (KT.setCell HG6.out (by decide) 5 _))⟩
                    have HF3 : Hid (KT 154 V (w6.setCell ⟨g, 5, none⟩ (.slice a6 (st.lat.length + 1) c6))) := hid (KT.trans HKb.out (KT.trans (HK6.out 154 (by decide)) (KT.setCell HG6.out (by decide) 5 _)))
                    generalize w6.setCell ⟨g, 5, none⟩ (.slice a6 (st.lat.length + 1) c6) = w7 at *
                    go_wp2_with fail
                    go_roundw
                    case measure => simp [intOf] <;> omega
                    case rel => exact ⟨q + 1, _, _, by omega, by go_num, hid ⟨by rw [HL1.out]; exact HF.out, HF2.out.1, HF2.out.2, .inr ⟨q, by omega, HNE.out⟩, HF3.out⟩⟩
                  · go_simp
                    refine (finish_any _ g line (HYp.out.cel.cell 1) k gO ol cv q st.ws.length).mono ?_
                    rintro e y1 ⟨d, rfl, hd1, hd2, hb1, f7, f8, f5, f11, f6, f9⟩
                    have HP1 : Hid (PS W y1 g gm base line { ws := st.ws ++ wd, labs := st.labs, lat := st.lat } fs' (.slice a4 (st.ws.length + wd.length) c4) vl (.slice af st.lat.length cf)) := hid (HYp.out.on hb1)
                    have HC1 : Hid (Cel y1 gk 188 (kdC k)) := hid (HYc.out.on hb1)
                    have HO1 : Hid (y1.ownsRow U.heap.size 197 3 (.slice (some ⟨gO, 0, none⟩) ol cv) ol (opsC os)) := hid (own_below HYo.out hb1)
                    have HK1 : Hid (KT 154 V y1) := hid (KT.trans HYk.out (.of_below hb1))
                    have HCL : Hid (ClosAt y1 g d ⟨k, os, q, st.ws.length, line⟩ ∧ d.gO = gO) := hid ⟨⟨by rw [hd1, hd2, HOL.out]; exact f7, f8, f5, f11, f6, f9, by rw [hd1]; exact row_cells HO1.out HOL.out, HQO.out, HKO.out, HOS.out.1, by show st.ws.length ≤ 2048; exact hrm⟩, hd1⟩
                    clear hb1 f7 f8 f5 f11 f6 f9 hd1 hd2
                    go_wp2_with fail
                    refine hK.out _ _ HC1.out (fun hHeld => ?_)
                    clear hK KQ
                    try simp only [Act.put, List.setIfInBounds_toArray, List.set_cons_zero, List.set_cons_succ]
                    refine wpAnyH_ready (rs := [4, 11]) (by kernel_rfl) (by simp) (AllReadyH.cons (o := ⟨some 100, .load 75 (.tmp 99), 75, "program.go:99", #[⟨3, .data⟩], none⟩) rfl (fun KQ hK => ?_) (AllReadyH.cons (o := ⟨some 107, .buildSlice 75 1 #[(0, .tmp 106)], 75, "program.go:99", #[⟨10, .data⟩], none⟩) rfl (fun KQ hK => ?_) AllReadyH.nil))
                    · have hcc5 : y1.cell? ⟨g, 5, none⟩ = some (.slice af st.lat.length cf) := HP1.out.cel.cell 5; go_simp; clear hcc5
                      refine hK.out _ _ HC1.out (fun hHeld => ?_)
                      clear hK KQ
                      try simp only [Act.put, List.setIfInBounds_toArray, List.set_cons_zero, List.set_cons_succ]
                      refine wpAnyH_ready (rs := [11]) (by kernel_rfl) (by simp) (AllReadyH.cons (o := ⟨some 107, .buildSlice 75 1 #[(0, .tmp 106)], 75, "program.go:99", #[⟨10, .data⟩], none⟩) rfl (fun KQ hK => ?_) AllReadyH.nil)
                      simp only [fcV]; go_simp
                      have HPb : Hid (PS W (y1.alloc (Obj.cells #[Value.func (.func 123) #[] #[.pointer (some ⟨d.g7, 0, none⟩), .pointer (some ⟨d.g8, 0, none⟩), .pointer (some ⟨d.g5, 0, none⟩), .pointer (some ⟨d.g11, 0, none⟩), .pointer (some ⟨d.g6, 0, none⟩), .pointer (some ⟨d.g9, 0, none⟩)]] 111)) g gm base line { ws := st.ws ++ wd, labs := st.labs, lat := st.lat } fs' (.slice a4 (st.ws.length + wd.length) c4) vl (.slice af st.lat.length cf)) := hid (HP1.out.on (below_one _ _))
                      have HCb : Hid (Cel (y1.alloc (Obj.cells #[Value.func (.func 123) #[] #[.pointer (some ⟨d.g7, 0, none⟩), .pointer (some ⟨d.g8, 0, none⟩), .pointer (some ⟨d.g5, 0, none⟩), .pointer (some ⟨d.g11, 0, none⟩), .pointer (some ⟨d.g6, 0, none⟩), .pointer (some ⟨d.g9, 0, none⟩)]] 111)) gk 188 (kdC k)) := hid (HC1.out.on (below_one _ _))
                      have HOb : Hid ((y1.alloc (Obj.cells #[Value.func (.func 123) #[] #[.pointer (some ⟨d.g7, 0, none⟩), .pointer (some ⟨d.g8, 0, none⟩), .pointer (some ⟨d.g5, 0, none⟩), .pointer (some ⟨d.g11, 0, none⟩), .pointer (some ⟨d.g6, 0, none⟩), .pointer (some ⟨d.g9, 0, none⟩)]] 111)).ownsRow U.heap.size 197 3 (.slice (some ⟨gO, 0, none⟩) ol cv) ol (opsC os)) := hid (own_below HO1.out (below_one _ _))
                      have HNb : Hid ((y1.alloc (Obj.cells #[Value.func (.func 123) #[] #[.pointer (some ⟨d.g7, 0, none⟩), .pointer (some ⟨d.g8, 0, none⟩), .pointer (some ⟨d.g5, 0, none⟩), .pointer (some ⟨d.g11, 0, none⟩), .pointer (some ⟨d.g6, 0, none⟩), .pointer (some ⟨d.g9, 0, none⟩)]] 111)).cell? ⟨y1.heap.size, 0, none⟩ = some (fcV d)) := hid ((Cel.new y1 111 [fcV d]).cell 0)
                      have HLb : Hid (ClosAt (y1.alloc (Obj.cells #[Value.func (.func 123) #[] #[.pointer (some ⟨d.g7, 0, none⟩), .pointer (some ⟨d.g8, 0, none⟩), .pointer (some ⟨d.g5, 0, none⟩), .pointer (some ⟨d.g11, 0, none⟩), .pointer (some ⟨d.g6, 0, none⟩), .pointer (some ⟨d.g9, 0, none⟩)]] 111)) g d ⟨k, os, q, st.ws.length, line⟩ ∧ d.gO = gO) := hid ⟨HCL.out.1.kt (.of_below (below_one _ _)) (.of_below (below_one _ _)) (.of_below (below_one _ _)) (.of_below (below_one _ _)) (.of_below (below_one _ _)), HCL.out.2⟩
                      have HKb : Hid (KT 154 V (y1.alloc (Obj.cells #[Value.func (.func 123) #[] #[.pointer (some ⟨d.g7, 0, none⟩), .pointer (some ⟨d.g8, 0, none⟩), .pointer (some ⟨d.g5, 0, none⟩), .pointer (some ⟨d.g11, 0, none⟩), .pointer (some ⟨d.g6, 0, none⟩), .pointer (some ⟨d.g9, 0, none⟩)]] 111))) := hid (KT.trans HK1.out (.of_below (below_one _ _)))
                      refine hK.out _ _ HCb.out (fun hHeld => ?_)
                      clear hK KQ
                      try simp only [Act.put, List.setIfInBounds_toArray, List.set_cons_zero, List.set_cons_succ]
                      generalize y1.alloc (Obj.cells #[Value.func (.func 123) #[] #[.pointer (some ⟨d.g7, 0, none⟩), .pointer (some ⟨d.g8, 0, none⟩), .pointer (some ⟨d.g5, 0, none⟩), .pointer (some ⟨d.g11, 0, none⟩), .pointer (some ⟨d.g6, 0, none⟩), .pointer (some ⟨d.g9, 0, none⟩)]] 111) = wb at *
                      generalize y1.heap.size = gs at *
                      refine wpAnyH_ready (rs := [12]) (by kernel_rfl) (by simp) (AllReadyH.cons (o := ⟨some 108, .call { callee := .builtin .append, args := #[.tmp 100, .tmp 107], argTypes := #[75, 75] }, 75, "program.go:99", #[⟨4, .data⟩, ⟨11, .data⟩, ⟨10, .chain⟩], none⟩) rfl (fun KQ hK => ?_) AllReadyH.nil)
                      rw [if_pos (by rfl)]
                      refine wp_append_fn _ _ 75 rfl j0 Tryz.underlying75 hj hy0 hy1 hy2 W.heap.size HPb.out.below.size (.slice af st.lat.length cf) fs' st.lat.length rfl HPb.out.lt _ _ d rfl HNb.out (by omega) ?_
                      intro v6 w6 ho6 hg6
                      obtain ⟨a6, c6, rfl⟩ := own_form ho6
                      have HK6 : Hid (∀ e, e ≠ 111 → KT e wb w6) := hid (fun e he => KT.grown HPb.out.lt hg6 he)
                      have HC6 : Hid (Cel w6 gk 188 (kdC k)) := hid (HCb.out.kt (HK6.out 188 (by decide)))
                      have HG6 := hid (HPb.out.cel.kt (HK6.out 77 (by decide)))
                      have H66 : Hid (w6.ownsRow W.heap.size 111 1 (.slice a6 (st.lat.length + 1) c6) (st.lat.length + 1) ((fs' ++ [d]).map fcV) ∧ wb.grownBy w6 (Value.slice af st.lat.length cf).ownBlock) := hid ⟨ho6, hg6⟩
                      clear ho6 hg6
                      refine hK.out _ _ HC6.out (fun hHeld => ?_)
                      clear hK KQ
                      try simp only [Act.put, List.setIfInBounds_toArray, List.set_cons_zero, List.set_cons_succ]
                      refine tk 13 ⟨some 109, .nilCheck (.tmp 96), 0, "program.go:99", #[⟨0, .data⟩, ⟨0, .phase⟩, ⟨1, .phase⟩, ⟨2, .phase⟩, ⟨3, .phase⟩, ⟨4, .phase⟩, ⟨5, .phase⟩, ⟨6, .phase⟩, ⟨7, .phase⟩, ⟨8, .phase⟩, ⟨9, .phase⟩, ⟨10, .phase⟩, ⟨11, .phase⟩, ⟨12, .phase⟩], none⟩ (.pointer (some ⟨g, 0, none⟩)) ?_
                      simp only [Act.put, List.setIfInBounds_toArray, List.set_cons_zero, List.set_cons_succ]
                      refine tk 14 ⟨some 110, .fieldAddr 77 (.tmp 109) 5, 0, "program.go:99", #[⟨13, .data⟩, ⟨0, .phase⟩, ⟨1, .phase⟩, ⟨2, .phase⟩, ⟨3, .phase⟩, ⟨4, .phase⟩, ⟨5, .phase⟩, ⟨6, .phase⟩, ⟨7, .phase⟩, ⟨8, .phase⟩, ⟨9, .phase⟩, ⟨10, .phase⟩, ⟨11, .phase⟩, ⟨12, .phase⟩], none⟩ (.pointer (some ⟨g, 5, none⟩)) ?_
                      simp only [Act.put, List.setIfInBounds_toArray, List.set_cons_zero, List.set_cons_succ]
                      refine wpAnyH_ready (rs := [15]) (by kernel_rfl) (by simp) (AllReadyH.cons (o := ⟨none, .store 75 (.tmp 110) (.tmp 108), 0, "program.go:99", #[⟨14, .data⟩, ⟨12, .data⟩, ⟨12, .chain⟩, ⟨0, .phase⟩, ⟨1, .phase⟩, ⟨2, .phase⟩, ⟨3, .phase⟩, ⟨4, .phase⟩, ⟨5, .phase⟩, ⟨6, .phase⟩, ⟨7, .phase⟩, ⟨8, .phase⟩, ⟨9, .phase⟩, ⟨10, .phase⟩, ⟨11, .phase⟩, ⟨12, .phase⟩], none⟩) rfl (fun KQ hK => ?_) AllReadyH.nil)
                      have hcs : w6.cell? ⟨g, 5, none⟩ = some (.slice af st.lat.length cf) := HG6.out.cell 5; have hcf := HG6.out.free 5; go_simp; clear hcs hcf
                      refine hK.out _ _ (HC6.out.kt (KT.setCell HG6.out (by decide) 5 _)) (fun hHeld => ?_)
                      clear hK KQ
                      try simp only [Act.put]
                      refine wpAnyH_done (by kernel_rfl) ?_ _
                      clear hHeld
                      have HF : Hid (PS W (w6.setCell ⟨g, 5, none⟩ (.slice a6 (st.lat.length + 1) c6)) g gm base line { ws := st.ws ++ wd, labs := st.labs, lat := st.lat ++ [⟨k, os, q, st.ws.length, line⟩] } (fs' ++ [d]) (.slice a4 (st.ws.length + wd.length) c4) vl (.slice a6 (st.lat.length + 1) c6)) := hid (HPb.out.later d ⟨k, os, q, st.ws.length, line⟩ HLb.out.1 (fun hm => by obtain ⟨d', hd', e'⟩ := List.mem_map.1 hm; have h1 := HFS.out d' hd'; have h2 := HLb.out.2; have h3 := HUV.out.1; omega) (by rw [HLb.out.2]; exact Nat.le_trans HUV.out.2 hgO) H66.out.1 H66.out.2)
                      have HF2 : Hid (Cel (w6.setCell ⟨g, 5, none⟩ (.slice a6 (st.lat.length + 1) c6)) gk 188 (kdC k) ∧ (w6.setCell ⟨g, 5, none⟩ (.slice a6 (st.lat.length + 1) c6)).ownsRow U.heap.size 197 3 (.slice (some ⟨gO, 0, none⟩) ol cv) ol (opsC os)) := hid ⟨HC6.out.kt (KT.setCell HG6.out (by decide) 5 _), own_kt HOb.out (KT.trans (HK6.out 197 (by decide)) (KT.setCell HG6.out (by decide) 5 _))⟩
                      have HF3 : Hid (KT 154 V (w6.setCell ⟨g, 5, none⟩ (.slice a6 (st.lat.length + 1) c6))) := hid (KT.trans HKb.out (KT.trans (HK6.out 154 (by decide)) (KT.setCell HG6.out (by decide) 5 _)))
                      generalize w6.setCell ⟨g, 5, none⟩ (.slice a6 (st.lat.length + 1) c6) = w7 at *
                      go_wp2_with fail
                      go_roundw
                      case measure => simp [intOf] <;> omega
                      case rel => exact ⟨q + 1, _, _, by omega, by go_num, hid ⟨by rw [HL1.out]; exact HF.out, HF2.out.1, HF2.out.2, .inr ⟨q, by omega, HNE.out⟩, HF3.out⟩⟩
                    · simp only [fcV]; go_simp
                      have HPb : Hid (PS W (y1.alloc (Obj.cells #[Value.func (.func 123) #[] #[.pointer (some ⟨d.g7, 0, none⟩), .pointer (some ⟨d.g8, 0, none⟩), .pointer (some ⟨d.g5, 0, none⟩), .pointer (some ⟨d.g11, 0, none⟩), .pointer (some ⟨d.g6, 0, none⟩), .pointer (some ⟨d.g9, 0, none⟩)]] 111)) g gm base line { ws := st.ws ++ wd, labs := st.labs, lat := st.lat } fs' (.slice a4 (st.ws.length + wd.length) c4) vl (.slice af st.lat.length cf)) := hid (HP1.out.on (below_one _ _))
                      have HCb : Hid (Cel (y1.alloc (Obj.cells #[Value.func (.func 123) #[] #[.pointer (some ⟨d.g7, 0, none⟩), .pointer (some ⟨d.g8, 0, none⟩), .pointer (some ⟨d.g5, 0, none⟩), .pointer (some ⟨d.g11, 0, none⟩), .pointer (some ⟨d.g6, 0, none⟩), .pointer (some ⟨d.g9, 0, none⟩)]] 111)) gk 188 (kdC k)) := hid (HC1.out.on (below_one _ _))
                      have HOb : Hid ((y1.alloc (Obj.cells #[Value.func (.func 123) #[] #[.pointer (some ⟨d.g7, 0, none⟩), .pointer (some ⟨d.g8, 0, none⟩), .pointer (some ⟨d.g5, 0, none⟩), .pointer (some ⟨d.g11, 0, none⟩), .pointer (some ⟨d.g6, 0, none⟩), .pointer (some ⟨d.g9, 0, none⟩)]] 111)).ownsRow U.heap.size 197 3 (.slice (some ⟨gO, 0, none⟩) ol cv) ol (opsC os)) := hid (own_below HO1.out (below_one _ _))
                      have HNb : Hid ((y1.alloc (Obj.cells #[Value.func (.func 123) #[] #[.pointer (some ⟨d.g7, 0, none⟩), .pointer (some ⟨d.g8, 0, none⟩), .pointer (some ⟨d.g5, 0, none⟩), .pointer (some ⟨d.g11, 0, none⟩), .pointer (some ⟨d.g6, 0, none⟩), .pointer (some ⟨d.g9, 0, none⟩)]] 111)).cell? ⟨y1.heap.size, 0, none⟩ = some (fcV d)) := hid ((Cel.new y1 111 [fcV d]).cell 0)
                      have HLb : Hid (ClosAt (y1.alloc (Obj.cells #[Value.func (.func 123) #[] #[.pointer (some ⟨d.g7, 0, none⟩), .pointer (some ⟨d.g8, 0, none⟩), .pointer (some ⟨d.g5, 0, none⟩), .pointer (some ⟨d.g11, 0, none⟩), .pointer (some ⟨d.g6, 0, none⟩), .pointer (some ⟨d.g9, 0, none⟩)]] 111)) g d ⟨k, os, q, st.ws.length, line⟩ ∧ d.gO = gO) := hid ⟨HCL.out.1.kt (.of_below (below_one _ _)) (.of_below (below_one _ _)) (.of_below (below_one _ _)) (.of_below (below_one _ _)) (.of_below (below_one _ _)), HCL.out.2⟩
                      have HKb : Hid (KT 154 V (y1.alloc (Obj.cells #[Value.func (.func 123) #[] #[.pointer (some ⟨d.g7, 0, none⟩), .pointer (some ⟨d.g8, 0, none⟩), .pointer (some ⟨d.g5, 0, none⟩), .pointer (some ⟨d.g11, 0, none⟩), .pointer (some ⟨d.g6, 0, none⟩), .pointer (some ⟨d.g9, 0, none⟩)]] 111))) := hid (KT.trans HK1.out (.of_below (below_one _ _)))
                      refine hK.out _ _ HCb.out (fun hHeld => ?_)
                      clear hK KQ
                      try simp only [Act.put, List.setIfInBounds_toArray, List.set_cons_zero, List.set_cons_succ]
                      generalize y1.alloc (Obj.cells #[Value.func (.func 123) #[] #[.pointer (some ⟨d.g7, 0, none⟩), .pointer (some ⟨d.g8, 0, none⟩), .pointer (some ⟨d.g5, 0, none⟩), .pointer (some ⟨d.g11, 0, none⟩), .pointer (some ⟨d.g6, 0, none⟩), .pointer (some ⟨d.g9, 0, none⟩)]] 111) = wb at *
                      generalize y1.heap.size = gs at *
                      refine wpAnyH_ready (rs := [4]) (by kernel_rfl) (by simp) (AllReadyH.cons (o := ⟨some 100, .load 75 (.tmp 99), 75, "program.go:99", #[⟨3, .data⟩], none⟩) rfl (fun KQ hK => ?_) AllReadyH.nil)
                      have hcc5 : wb.cell? ⟨g, 5, none⟩ = some (.slice af st.lat.length cf) := HPb.out.cel.cell 5; go_simp; clear hcc5
                      refine hK.out _ _ HCb.out (fun hHeld => ?_)
                      clear hK KQ
                      try simp only [Act.put, List.setIfInBounds_toArray, List.set_cons_zero, List.set_cons_succ]
                      refine wpAnyH_ready (rs := [12]) (by kernel_rfl) (by simp) (AllReadyH.cons (o := ⟨some 108, .call { callee := .builtin .append, args := #[.tmp 100, .tmp 107], argTypes := #[75, 75] }, 75, "program.go:99", #[⟨4, .data⟩, ⟨11, .data⟩, ⟨10, .chain⟩], none⟩) rfl (fun KQ hK => ?_) AllReadyH.nil)
                      rw [if_pos (by rfl)]
                      refine wp_append_fn _ _ 75 rfl j0 Tryz.underlying75 hj hy0 hy1 hy2 W.heap.size HPb.out.below.size (.slice af st.lat.length cf) fs' st.lat.length rfl HPb.out.lt _ _ d rfl HNb.out (by omega) ?_
                      intro v6 w6 ho6 hg6
                      obtain ⟨a6, c6, rfl⟩ := own_form ho6
                      have HK6 : Hid (∀ e, e ≠ 111 → KT e wb w6) := hid (fun e he => KT.grown HPb.out.lt hg6 he)
                      have HC6 : Hid (Cel w6 gk 188 (kdC k)) := hid (HCb.out.kt (HK6.out 188 (by decide)))
                      have HG6 := hid (HPb.out.cel.kt (HK6.out 77 (by decide)))
                      have H66 : Hid (w6.ownsRow W.heap.size 111 1 (.slice a6 (st.lat.length + 1) c6) (st.lat.length + 1) ((fs' ++ [d]).map fcV) ∧ wb.grownBy w6 (Value.slice af st.lat.length cf).ownBlock) := hid ⟨ho6, hg6⟩
                      clear ho6 hg6
                      refine hK.out _ _ HC6.out (fun hHeld => ?_)
                      clear hK KQ
                      try simp only [Act.put, List.setIfInBounds_toArray, List.set_cons_zero, List.set_cons_succ]
                      refine tk 13 ⟨some 109, .nilCheck (.tmp 96), 0, "program.go:99", #[⟨0, .data⟩, ⟨0, .phase⟩, ⟨1, .phase⟩, ⟨2, .phase⟩, ⟨3, .phase⟩, ⟨4, .phase⟩, ⟨5, .phase⟩, ⟨6, .phase⟩, ⟨7, .phase⟩, ⟨8, .phase⟩, ⟨9, .phase⟩, ⟨10, .phase⟩, ⟨11, .phase⟩, ⟨12, .phase⟩], none⟩ (.pointer (some ⟨g, 0, none⟩)) ?_
                      simp only [Act.put, List.setIfInBounds_toArray, List.set_cons_zero, List.set_cons_succ]
                      refine tk 14 ⟨some 110, .fieldAddr 77 (.tmp 109) 5, 0, "program.go:99", #[⟨13, .data⟩, ⟨0, .phase⟩, ⟨1, .phase⟩, ⟨2, .phase⟩, ⟨3, .phase⟩, ⟨4, .phase⟩, ⟨5, .phase⟩, ⟨6, .phase⟩, ⟨7, .phase⟩, ⟨8, .phase⟩, ⟨9, .phase⟩, ⟨10, .phase⟩, ⟨11, .phase⟩, ⟨12, .phase⟩], none⟩ (.pointer (some ⟨g, 5, none⟩)) ?_
                      simp only [Act.put, List.setIfInBounds_toArray, List.set_cons_zero, List.set_cons_succ]
                      refine wpAnyH_ready (rs := [15]) (by kernel_rfl) (by simp) (AllReadyH.cons (o := ⟨none, .store 75 (.tmp 110) (.tmp 108), 0, "program.go:99", #[⟨14, .data⟩, ⟨12, .data⟩, ⟨12, .chain⟩, ⟨0, .phase⟩, ⟨1, .phase⟩, ⟨2, .phase⟩, ⟨3, .phase⟩, ⟨4, .phase⟩, ⟨5, .phase⟩, ⟨6, .phase⟩, ⟨7, .phase⟩, ⟨8, .phase⟩, ⟨9, .phase⟩, ⟨10, .phase⟩, ⟨11, .phase⟩, ⟨12, .phase⟩], none⟩) rfl (fun KQ hK => ?_) AllReadyH.nil)
                      have hcs : w6.cell? ⟨g, 5, none⟩ = some (.slice af st.lat.length cf) := HG6.out.cell 5; have hcf := HG6.out.free 5; go_simp; clear hcs hcf
                      refine hK.out _ _ (HC6.out.kt (KT.setCell HG6.out (by decide) 5 _)) (fun hHeld => ?_)
                      clear hK KQ
                      try simp only [Act.put]
                      refine wpAnyH_done (by kernel_rfl) ?_ _
                      clear hHeld
                      have HF : Hid (PS W (w6.setCell ⟨g, 5, none⟩ (.slice a6 (st.lat.length + 1) c6)) g gm base line { ws := st.ws ++ wd, labs := st.labs, lat := st.lat ++ [⟨k, os, q, st.ws.length, line⟩] } (fs' ++ [d]) (.slice a4 (st.ws.length + wd.length) c4) vl (.slice a6 (st.lat.length + 1) c6)) := hid (HPb.out.later d ⟨k, os, q, st.ws.length, line⟩ HLb.out.1 (fun hm => by obtain ⟨d', hd', e'⟩ := List.mem_map.1 hm; have h1 := HFS.out d' hd'; have h2 := HLb.out.2; have h3 := HUV.out.1; omega) (by rw [HLb.out.2]; exact Nat.le_trans HUV.out.2 hgO) H66.out.1 H66.out.2)
                      have HF2 : Hid (Cel (w6.setCell ⟨g, 5, none⟩ (.slice a6 (st.lat.length + 1) c6)) gk 188 (kdC k) ∧ (w6.setCell ⟨g, 5, none⟩ (.slice a6 (st.lat.length + 1) c6)).ownsRow U.heap.size 197 3 (.slice (some ⟨gO, 0, none⟩) ol cv) ol (opsC os)) := hid ⟨HC6.out.kt (KT.setCell HG6.out (by decide) 5 _), own_kt HOb.out (KT.trans (HK6.out 197 (by decide)) (KT.setCell HG6.out (by decide) 5 _))⟩
                      have HF3 : Hid (KT 154 V (w6.setCell ⟨g, 5, none⟩ (.slice a6 (st.lat.length + 1) c6))) := hid (KT.trans HKb.out (KT.trans (HK6.out 154 (by decide)) (KT.setCell HG6.out (by decide) 5 _)))
                      generalize w6.setCell ⟨g, 5, none⟩ (.slice a6 (st.lat.length + 1) c6) = w7 at *
                      go_wp2_with fail
                      go_roundw
                      case measure => simp [intOf] <;> omega
                      case rel => exact ⟨q + 1, _, _, by omega, by go_num, hid ⟨by rw [HL1.out]; exact HF.out, HF2.out.1, HF2.out.2, .inr ⟨q, by omega, HNE.out⟩, HF3.out⟩⟩
              · have hqe : q = ol := by omega
                subst hqe
                go_wp2_with fail
                go_ret
                exact ⟨⟨rfl, fs', _, _, _, by rw [← HLA.out]; exact HQ.out.1⟩, HQ.out.2.2.2.2⟩
end Go.Proofs.YtncnogndopgknaaGreatDoor
