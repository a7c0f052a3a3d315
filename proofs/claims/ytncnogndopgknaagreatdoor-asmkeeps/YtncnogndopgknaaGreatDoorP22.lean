import Derived.Test.YtncnogndopgknaaGreatDoorP21
import Derived.Test.YtncnogndopgknaaGreatDoorP01
namespace Go.Proofs.YtncnogndopgknaaGreatDoor
open Go.RowKit
theorem Tryz.info43 : (Tryz.prog.info? 43).map (fun i => (i.zero, i.size, i.bytes)) = some (some (.agg #[.string ⟨#[]⟩, .int .i64 0]), 2, 24) := by kernel_rfl
theorem labsC_append (a b : List (List UInt8 × Nat)) : labsC (a ++ b) = labsC a ++ labsC b := by simp [labsC]
theorem wp_append_labs {P : Program} {w : World} {o : Oper} {a : Act} {K : Act → World → Prop} {Q : Exit → Act → World → Prop} (s x : Operand) (t : TypeId)
    (ho : o.op = .call { callee := .builtin .append, args := #[s, x], argTypes := #[t, t] }) (i : TypeInfo) (ht : P.underlying t = some (.slice 43)) (hi : P.info? 43 = some i) (hz : i.zero = some (.agg #[.string ⟨#[]⟩, .int .i64 0])) (hsize : i.size = 2) (hby : i.bytes = 24)
    (B : Nat) (hB : B ≤ w.heap.size) (v : Value) (l : List (List UInt8 × Nat)) (hs : a.eval s = v) (H : w.ownsRow B 43 2 v l.length (labsC l)) (ad : Addr) (c : Nat) (m : List UInt8 × Nat) (hx : a.eval x = .slice (some ad) 1 c) (hc : ∀ j u, (labC m)[j]? = some u → w.cell? (ad.add j) = some u) (h63 : l.length ≤ 1000000000)
    (h : ∀ v' w', w'.ownsRow B 43 2 v' (l.length + 1) (labsC (l ++ [m])) → w.grownBy w' v.ownBlock → K (a.put o.dst v') w') : o.wp P a w K Q := by
  obtain ⟨v', w', hr, h1, h2, _⟩ := run_append_own (P := P) w B t o.type 43 i _ 2 24 ht hi hz hsize hby rfl (by decide) v l.length _ H ad 1 c (labC m) rfl hc (by simp [labC, Value.oneCell']) (by unfold maxLen; omega) (by omega) hB
  unfold Oper.wp execOp
  simp only [ho, resolve, invoke, builtin, Sem.run_bind, Sem.run_pure, Result.andThen_ok, List.map_toArray, List.map_cons, List.map_nil, hs, hx, hr]
  exact h _ _ (by rw [labsC_append]; simpa [labsC] using h1) h2
theorem PS.label {W w w1 w2 w3 : World} {g gm base line : Nat} {st : S.St} {fs : List Fc} {vw vl vf vl' : Value} (h : PS W w g gm base line st fs vw vl vf) (x : List UInt8 × Nat) (hx : x.2 ≤ 2048) (hm1 : MapIs w1 gm (st.labs ++ [x])) (ht : w.mapTurned w1 gm) (hb2 : Below w1.heap.size w1 w2)
    (ho3 : w3.ownsRow W.heap.size 43 2 vl' (st.labs.length + 1) (labsC (st.labs ++ [x]))) (hg3 : w2.grownBy w3 vl.ownBlock) : PS W (w3.setCell ⟨g, 3, none⟩ vl') g gm base line { st with labs := st.labs ++ [x] } fs vw vl' vf := by
  have own2 : w2.ownsRow W.heap.size 43 2 vl st.labs.length (labsC st.labs) := own_kt h.lb (KT.trans (KT.turned ht) (KT.of_below hb2))
  have kt : ∀ e, e ≠ 43 → KT e w w3 := fun e he => KT.trans (KT.trans (KT.turned ht) (KT.of_below hb2)) (KT.grown own2 hg3 he)
  have cel3 : Cel w3 g 77 (psC base line vw vl gm vf) := h.cel.kt (kt 77 (by decide))
  have kt2 : ∀ e, e ≠ 43 → e ≠ 77 → KT e w (w3.setCell ⟨g, 3, none⟩ vl') := fun e he he2 => KT.trans (kt e he) (KT.setCell cel3 he2 3 _)
  have b1 : Below W.heap.size W w1 := h.below.grown ht.grown h.below.size (fun g' hg' => by injection hg' with hg'; rw [← hg']; exact h.hm)
  have b3 : Below W.heap.size W w3 := (below_on b1 hb2).grown hg3 (below_on b1 hb2).size (fun g' hg' => (own2.lt g' hg').1)
  refine ⟨b3.setCell (p := ⟨g, 3, none⟩) h.hg _, h.hg, h.hm, cel3.setCell 3 _, own_kt h.ws (kt2 22 (by decide) (by decide)), ?_, own_kt h.lt (kt2 111 (by decide) (by decide)), map_setCell (map_grown (map_on hm1 hb2) own2 hg3) cel3 3 _, h.len, fun i a b => (h.clos i a b).kt (kt2 _ (by decide) (by decide)) (kt2 _ (by decide) (by decide)) (kt2 _ (by decide) (by decide)) (kt2 _ (by decide) (by decide)) (kt2 _ (by decide) (by decide)), h.nodup, h.rows, h.room, fun y hy => ?_⟩
  · show (w3.setCell ⟨g, 3, none⟩ vl').ownsRow W.heap.size 43 2 vl' (st.labs ++ [x]).length (labsC (st.labs ++ [x]))
    rw [List.length_append]
    exact own_kt ho3 (KT.setCell cel3 (by decide) 3 _)
  · rcases List.mem_append.1 hy with hy | hy
    · exact h.places y hy
    · rw [List.mem_singleton.1 hy]; exact hx
def DefPost (W V : World) (g gm base line : Nat) (st : S.St) (fs : List Fc) (w : T.Wd) (x : Ending) (w' : World) : Prop :=
  if T.name (Lib.trimSuffix w.text [58]) = true then
    (if S.has st.labs (Lib.trimSuffix w.text [58]) then x = .returned (bk 63 line w.col) ∧ Below W.heap.size W w'
     else x = .returned .nilIface ∧ KT 154 V w' ∧ ∃ vw vl vf, PS W w' g gm base line { st with labs := st.labs ++ [(Lib.trimSuffix w.text [58], st.ws.length)] } fs vw vl vf)
  else x = .returned (bk 60 line w.col) ∧ Below W.heap.size W w'
theorem cells_new2 (W : World) (e : TypeId) (C : Array Value) (L : List Value) (hC : C = L.toArray) : ∀ j u, L[j]? = some u → (W.alloc (.cells C e)).cell? ((⟨W.heap.size, 0, none⟩ : Addr).add j) = some u := by
  intro j u hu
  subst hC
  rw [Addr.add_mid, World.cell?_alloc_new, Nat.zero_add]
  simpa using hu
set_option maxRecDepth 40000 in
set_option maxHeartbeats 4000000 in
theorem define_any (W V : World) (g gm base line : Nat) (st : S.St) (fs : List Fc) (vw vl vf : Value) (h : PS W V g gm base line st fs vw vl vf) (hl : st.labs.length ≤ 1000000) (w : T.Wd) (hw : w.text.length ≤ 1000000000) :
    Calls Tryz.prog 62 #[.pointer (some ⟨g, 0, none⟩), wdV w] V fun x w' => DefPost W V g gm base line st fs w x w' := by
  obtain ⟨i0, hi, hz0, hz1, hz2⟩ := info_parts Tryz.info43
  obtain ⟨tx, q, col⟩ := w
  obtain ⟨nm, hnm⟩ : ∃ nm, Lib.trimSuffix tx [58] = nm := ⟨_, rfl⟩
  have hnl : nm.length ≤ 1000000000 := by
    rw [← hnm]
    have hw' : tx.length ≤ 1000000000 := hw
    unfold Lib.trimSuffix
    split
    · rw [List.length_take]; omega
    · exact hw'
  have H86 : Hid (∀ x, Calls Tryz.prog 86 #[.string ⟨tx.toArray⟩, .string ⟨#[58]⟩] x fun e w' => e = .returned (.string ⟨nm.toArray⟩) ∧ w' = x) := hid (fun x => by
    have := Tryz.strings_TrimSuffix ⟨tx.toArray⟩ ⟨#[58]⟩ x (by simp [ByteArray.size] at hw ⊢; omega)
    have e0 : (⟨tx.toArray⟩ : ByteArray).data.toList = tx := rfl
    have e1 : (⟨#[58]⟩ : ByteArray).data.toList = [58] := rfl
    rw [e0, e1, hnm] at this
    exact this)
  have H87 : Hid (∀ x, Calls Tryz.prog 87 #[.string ⟨nm.toArray⟩] x fun e w' => e = .returned (.int .i64 (if T.name nm then 0 else 42)) ∧ x = w') := hid (fun x => name_any x ⟨nm.toArray⟩ (by simpa [ByteArray.size] using hnl))
  unfold DefPost
  simp only [hnm]
  have HP : Hid (∀ x, Below V.heap.size V x → PS W x g gm base line st fs vw vl vf) := hid (fun x hx => h.on hx)
  obtain ⟨aw, cw, rfl⟩ := h.vw
  clear h hnm hw
  simp only [wdV]
  cases hn : T.name nm with
  | false =>
    rw [hn] at H87
    simp only [Bool.false_eq_true, if_false] at H87 ⊢
    go_enter Tryz.func62, Tryz.ntmps62
    go_wp2_with (first | (go_at_call 86; refine (H86.out _).mono ?_; rintro e w' ⟨rfl, rfl⟩) | (go_at_call 87; refine (H87.out _).mono ?_; rintro e w' ⟨rfl, rfl⟩))
    have HX : Hid (Below V.heap.size V (V.alloc (Obj.cells #[Value.string { data := tx.toArray }, Value.bool q, Value.int IntKind.i64 ↑col] 154)) ∧ Cel (V.alloc (Obj.cells #[Value.string { data := tx.toArray }, Value.bool q, Value.int IntKind.i64 ↑col] 154)) V.heap.size 154 [Value.string { data := tx.toArray }, Value.bool q, Value.int IntKind.i64 ↑col]) := hid ⟨below_one _ _, Cel.new _ _ _⟩
    generalize V.alloc (Obj.cells #[Value.string { data := tx.toArray }, Value.bool q, Value.int IntKind.i64 ↑col] 154) = X at *
    have HPX := hid (HP.out X HX.out.1)
    have HCX : Hid (Cel X V.heap.size 154 [Value.string { data := tx.toArray }, Value.bool q, Value.int IntKind.i64 ↑col]) := hid HX.out.2
    clear HX HP
    generalize V.heap.size = gw at *
    have HGl : Hid (∀ x, Below X.heap.size X x → x.cell? ⟨g, 1, none⟩ = some (.int .i64 (line : Int))) := hid (fun x hx => (HPX.out.cel.on hx).cell 1)
    have HCl : Hid (∀ x, Below X.heap.size X x → x.cell? ⟨gw, 2, none⟩ = some (.int .i64 (col : Int))) := hid (fun x hx => (HCX.out.on hx).cell 2)
    refine wp_region_held_drew (S := fun x => Below X.heap.size X x) (by kernel_rfl) ((Below.refl _ _).drew) (fun hHeld => ?_)
    refine tk 0 ⟨some 14, .move (.tmp 0), 68, "program.go:68", #[], none⟩ (.pointer (some ⟨g, 0, none⟩)) ?_
    simp only [Act.put, List.setIfInBounds_toArray, List.set_cons_zero, List.set_cons_succ]
    refine tk 1 ⟨some 15, .nilCheck (.tmp 14), 0, "program.go:68", #[⟨0, .data⟩], none⟩ (.pointer (some ⟨g, 0, none⟩)) ?_
    simp only [Act.put, List.setIfInBounds_toArray, List.set_cons_zero, List.set_cons_succ]
    refine tk 2 ⟨some 16, .fieldAddr 77 (.tmp 15) 1, 0, "program.go:68", #[⟨1, .data⟩], none⟩ (.pointer (some ⟨g, 1, none⟩)) ?_
    simp only [Act.put, List.setIfInBounds_toArray, List.set_cons_zero, List.set_cons_succ]
    refine tk 3 ⟨some 17, .load 3 (.tmp 16), 3, "program.go:68", #[⟨2, .data⟩], none⟩ (.int .i64 (line : Int)) ?_ (hy := Or.inl ⟨by rfl, by intro w hSw; have hcc := HGl.out w hSw; go_simp⟩)
    simp only [Act.put, List.setIfInBounds_toArray, List.set_cons_zero, List.set_cons_succ]
    refine tk 4 ⟨some 18, .fieldAddr 154 (.tmp 3) 2, 0, "program.go:68", #[], none⟩ (.pointer (some ⟨gw, 2, none⟩)) ?_
    simp only [Act.put, List.setIfInBounds_toArray, List.set_cons_zero, List.set_cons_succ]
    refine tk 5 ⟨some 19, .load 3 (.tmp 18), 3, "program.go:68", #[⟨4, .data⟩], none⟩ (.int .i64 (col : Int)) ?_ (hy := Or.inl ⟨by rfl, by intro w hSw; have hcc := HCl.out w hSw; go_simp⟩)
    simp only [Act.put, List.setIfInBounds_toArray, List.set_cons_zero, List.set_cons_succ]
    refine wpAnyH_ready (rs := [6]) (by kernel_rfl) (by simp) (AllReadyH.cons (o := ⟨some 20, .call { callee := .value (.func 38), args := #[.const (.int .i64 60), .tmp 17, .tmp 19], argTypes := #[25, 3, 3] }, 70, "program.go:68", #[⟨3, .data⟩, ⟨5, .data⟩], none⟩) rfl (fun KQ hK => ?_) AllReadyH.nil)
    go_simp
    refine (faultAt_any _ 60 (line : Int) (col : Int)).mono ?_
    rintro e y1 ⟨rfl, rfl⟩
    have HY1 : Hid (Below X.heap.size X X.drew) := hid (Below.refl _ _).drew
    go_wp2_with fail
    refine hK.out _ _ HY1.out (fun hHeld => ?_)
    clear hK KQ
    try simp only [Act.put, List.setIfInBounds_toArray, List.set_cons_zero, List.set_cons_succ]
    refine wpAnyH_ready (rs := [7]) (by kernel_rfl) (by simp) (AllReadyH.cons (o := ⟨some 4, .assign (.tmp 20), 70, "program.go:68", #[⟨6, .data⟩, ⟨6, .chain⟩, ⟨0, .phase⟩, ⟨1, .phase⟩, ⟨2, .phase⟩, ⟨3, .phase⟩, ⟨4, .phase⟩, ⟨5, .phase⟩, ⟨6, .phase⟩], none⟩) rfl (fun KQ hK => ?_) AllReadyH.nil)
    go_simp
    refine hK.out _ _ HY1.out (fun hHeld => ?_)
    clear hK KQ
    try simp only [Act.put, List.setIfInBounds_toArray, List.set_cons_zero, List.set_cons_succ]
    refine wpAnyH_done (by kernel_rfl) ?_ _
    clear hHeld
    go_wp2_with fail
    go_ret
    exact ⟨rfl, below_on HPX.out.below HY1.out⟩
  | true =>
    rw [hn] at H87
    simp only [if_true] at H87 ⊢
    have d4 : (V.alloc (Obj.cells #[Value.string { data := tx.toArray }, Value.bool q, Value.int IntKind.i64 ↑col] 154)).cell? ⟨g, 4, none⟩ = some (.map (some gm)) := (HP.out _ (below_one V (Obj.cells #[Value.string { data := tx.toArray }, Value.bool q, Value.int IntKind.i64 ↑col] 154))).cel.cell 4
    obtain ⟨lv, hlk, hlv⟩ := (HP.out _ (below_one V (Obj.cells #[Value.string { data := tx.toArray }, Value.bool q, Value.int IntKind.i64 ↑col] 154))).map.look nm hnl
    clear hlv
    cases hh : S.has st.labs nm with
    | true =>
      simp only [if_true]
      rw [hh] at hlk
      go_enter Tryz.func62, Tryz.ntmps62
      go_wp2_with (first | (go_at_call 86; refine (H86.out _).mono ?_; rintro e w' ⟨rfl, rfl⟩) | (go_at_call 87; refine (H87.out _).mono ?_; rintro e w' ⟨rfl, rfl⟩))
      clear d4 hlk
      have HX : Hid (Below V.heap.size V (V.alloc (Obj.cells #[Value.string { data := tx.toArray }, Value.bool q, Value.int IntKind.i64 ↑col] 154)) ∧ Cel (V.alloc (Obj.cells #[Value.string { data := tx.toArray }, Value.bool q, Value.int IntKind.i64 ↑col] 154)) V.heap.size 154 [Value.string { data := tx.toArray }, Value.bool q, Value.int IntKind.i64 ↑col]) := hid ⟨below_one _ _, Cel.new _ _ _⟩
      generalize V.alloc (Obj.cells #[Value.string { data := tx.toArray }, Value.bool q, Value.int IntKind.i64 ↑col] 154) = X at *
      have HPX := hid (HP.out X HX.out.1)
      have HCX : Hid (Cel X V.heap.size 154 [Value.string { data := tx.toArray }, Value.bool q, Value.int IntKind.i64 ↑col]) := hid HX.out.2
      clear HX HP
      generalize V.heap.size = gw at *
      have HGl : Hid (∀ x, Below X.heap.size X x → x.cell? ⟨g, 1, none⟩ = some (.int .i64 (line : Int))) := hid (fun x hx => (HPX.out.cel.on hx).cell 1)
      have HCl : Hid (∀ x, Below X.heap.size X x → x.cell? ⟨gw, 2, none⟩ = some (.int .i64 (col : Int))) := hid (fun x hx => (HCX.out.on hx).cell 2)
      refine wp_region_held_drew (S := fun x => Below X.heap.size X x) (by kernel_rfl) ((Below.refl _ _).drew) (fun hHeld => ?_)
      refine tk 0 ⟨some 31, .move (.tmp 0), 68, "program.go:71", #[], none⟩ (.pointer (some ⟨g, 0, none⟩)) ?_
      simp only [Act.put, List.setIfInBounds_toArray, List.set_cons_zero, List.set_cons_succ]
      refine tk 1 ⟨some 32, .nilCheck (.tmp 31), 0, "program.go:71", #[⟨0, .data⟩], none⟩ (.pointer (some ⟨g, 0, none⟩)) ?_
      simp only [Act.put, List.setIfInBounds_toArray, List.set_cons_zero, List.set_cons_succ]
      refine tk 2 ⟨some 33, .fieldAddr 77 (.tmp 32) 1, 0, "program.go:71", #[⟨1, .data⟩], none⟩ (.pointer (some ⟨g, 1, none⟩)) ?_
      simp only [Act.put, List.setIfInBounds_toArray, List.set_cons_zero, List.set_cons_succ]
      refine tk 3 ⟨some 34, .load 3 (.tmp 33), 3, "program.go:71", #[⟨2, .data⟩], none⟩ (.int .i64 (line : Int)) ?_ (hy := Or.inl ⟨by rfl, by intro w hSw; have hcc := HGl.out w hSw; go_simp⟩)
      simp only [Act.put, List.setIfInBounds_toArray, List.set_cons_zero, List.set_cons_succ]
      refine tk 4 ⟨some 35, .fieldAddr 154 (.tmp 3) 2, 0, "program.go:71", #[], none⟩ (.pointer (some ⟨gw, 2, none⟩)) ?_
      simp only [Act.put, List.setIfInBounds_toArray, List.set_cons_zero, List.set_cons_succ]
      refine tk 5 ⟨some 36, .load 3 (.tmp 35), 3, "program.go:71", #[⟨4, .data⟩], none⟩ (.int .i64 (col : Int)) ?_ (hy := Or.inl ⟨by rfl, by intro w hSw; have hcc := HCl.out w hSw; go_simp⟩)
      simp only [Act.put, List.setIfInBounds_toArray, List.set_cons_zero, List.set_cons_succ]
      refine wpAnyH_ready (rs := [6]) (by kernel_rfl) (by simp) (AllReadyH.cons (o := ⟨some 37, .call { callee := .value (.func 38), args := #[.const (.int .i64 63), .tmp 34, .tmp 36], argTypes := #[25, 3, 3] }, 70, "program.go:71", #[⟨3, .data⟩, ⟨5, .data⟩], none⟩) rfl (fun KQ hK => ?_) AllReadyH.nil)
      go_simp
      refine (faultAt_any _ 63 (line : Int) (col : Int)).mono ?_
      rintro e y1 ⟨rfl, rfl⟩
      have HY1 : Hid (Below X.heap.size X X.drew) := hid (Below.refl _ _).drew
      go_wp2_with fail
      refine hK.out _ _ HY1.out (fun hHeld => ?_)
      clear hK KQ
      try simp only [Act.put, List.setIfInBounds_toArray, List.set_cons_zero, List.set_cons_succ]
      refine wpAnyH_ready (rs := [7]) (by kernel_rfl) (by simp) (AllReadyH.cons (o := ⟨some 4, .assign (.tmp 37), 70, "program.go:71", #[⟨6, .data⟩, ⟨6, .chain⟩, ⟨0, .phase⟩, ⟨1, .phase⟩, ⟨2, .phase⟩, ⟨3, .phase⟩, ⟨4, .phase⟩, ⟨5, .phase⟩, ⟨6, .phase⟩], none⟩) rfl (fun KQ hK => ?_) AllReadyH.nil)
      go_simp
      refine hK.out _ _ HY1.out (fun hHeld => ?_)
      clear hK KQ
      try simp only [Act.put, List.setIfInBounds_toArray, List.set_cons_zero, List.set_cons_succ]
      refine wpAnyH_done (by kernel_rfl) ?_ _
      clear hHeld
      go_wp2_with fail
      go_ret
      exact ⟨rfl, below_on HPX.out.below HY1.out⟩
    | false =>
      simp only [Bool.false_eq_true, if_false]
      rw [hh] at hlk
      go_enter Tryz.func62, Tryz.ntmps62
      go_wp2_with (first | (go_at_call 86; refine (H86.out _).mono ?_; rintro e w' ⟨rfl, rfl⟩) | (go_at_call 87; refine (H87.out _).mono ?_; rintro e w' ⟨rfl, rfl⟩))
      clear d4 hlk
      have HX : Hid (Below V.heap.size V (V.alloc (Obj.cells #[Value.string { data := tx.toArray }, Value.bool q, Value.int IntKind.i64 ↑col] 154)) ∧ Cel (V.alloc (Obj.cells #[Value.string { data := tx.toArray }, Value.bool q, Value.int IntKind.i64 ↑col] 154)) V.heap.size 154 [Value.string { data := tx.toArray }, Value.bool q, Value.int IntKind.i64 ↑col]) := hid ⟨below_one _ _, Cel.new _ _ _⟩
      generalize V.alloc (Obj.cells #[Value.string { data := tx.toArray }, Value.bool q, Value.int IntKind.i64 ↑col] 154) = X at *
      have HPX := hid (HP.out X HX.out.1)
      have HCX : Hid (Cel X V.heap.size 154 [Value.string { data := tx.toArray }, Value.bool q, Value.int IntKind.i64 ↑col]) := hid HX.out.2
      have HXK : Hid (KT 154 V X) := hid (.of_below HX.out.1)
      clear HX HP
      generalize V.heap.size = gw at *
      have HHS : Hid (S.has st.labs nm = false) := hh
      have hrm := HPX.out.room
      have n1 : (st.ws.length : Int) ≤ 2048 := by omega
      obtain ⟨w1, hrun, hmap1, hturn⟩ := (map_on HPX.out.map (Below.refl _ X).drew).store (by omega) nm hnl hh st.ws.length hrm
      have HC2 : Hid (∀ x, Cel x g 77 (psC base line (.slice aw st.ws.length cw) vl gm vf) → x.cell? ⟨g, 2, none⟩ = some (.slice aw st.ws.length cw)) := hid (fun x hx => hx.cell 2)
      have HC4 : Hid (∀ x, Cel x g 77 (psC base line (.slice aw st.ws.length cw) vl gm vf) → x.cell? ⟨g, 4, none⟩ = some (.map (some gm))) := hid (fun x hx => hx.cell 4)
      have HM1 : Hid (MapIs w1 gm (st.labs ++ [(nm, st.ws.length)]) ∧ X.drew.mapTurned w1 gm) := hid ⟨hmap1, hturn⟩
      have HCD : Hid (Cel X.drew g 77 (psC base line (.slice aw st.ws.length cw) vl gm vf)) := hid HPX.out.cel
      have HC1 : Hid (Cel w1 g 77 (psC base line (.slice aw st.ws.length cw) vl gm vf)) := hid (HCD.out.kt (KT.turned hturn))
      clear hmap1 hturn hh hrm
      refine wp_region_held_drew (S := fun x => Cel x g 77 (psC base line (.slice aw st.ws.length cw) vl gm vf)) (by kernel_rfl) HCD.out (fun hHeld => ?_)
      refine tk 0 ⟨some 38, .move (.tmp 0), 68, "program.go:73", #[], none⟩ (.pointer (some ⟨g, 0, none⟩)) ?_
      simp only [Act.put, List.setIfInBounds_toArray, List.set_cons_zero, List.set_cons_succ]
      refine tk 1 ⟨some 39, .nilCheck (.tmp 38), 0, "program.go:73", #[⟨0, .data⟩], none⟩ (.pointer (some ⟨g, 0, none⟩)) ?_
      simp only [Act.put, List.setIfInBounds_toArray, List.set_cons_zero, List.set_cons_succ]
      refine tk 2 ⟨some 40, .fieldAddr 77 (.tmp 39) 4, 0, "program.go:73", #[⟨1, .data⟩], none⟩ (.pointer (some ⟨g, 4, none⟩)) ?_
      simp only [Act.put, List.setIfInBounds_toArray, List.set_cons_zero, List.set_cons_succ]
      refine tk 3 ⟨some 41, .load 74 (.tmp 40), 74, "program.go:73", #[⟨2, .data⟩], none⟩ (.map (some gm)) ?_ (hy := Or.inl ⟨by rfl, by intro w hSw; have hcc := HC4.out w hSw; go_simp⟩)
      simp only [Act.put, List.setIfInBounds_toArray, List.set_cons_zero, List.set_cons_succ]
      refine tk 4 ⟨some 42, .move (.tmp 5), 9, "program.go:73", #[], none⟩ (.string ⟨nm.toArray⟩) ?_
      simp only [Act.put, List.setIfInBounds_toArray, List.set_cons_zero, List.set_cons_succ]
      refine tk 5 ⟨some 43, .move (.tmp 0), 68, "program.go:73", #[], none⟩ (.pointer (some ⟨g, 0, none⟩)) ?_
      simp only [Act.put, List.setIfInBounds_toArray, List.set_cons_zero, List.set_cons_succ]
      refine tk 6 ⟨some 44, .nilCheck (.tmp 43), 0, "program.go:73", #[⟨5, .data⟩], none⟩ (.pointer (some ⟨g, 0, none⟩)) ?_
      simp only [Act.put, List.setIfInBounds_toArray, List.set_cons_zero, List.set_cons_succ]
      refine tk 7 ⟨some 45, .fieldAddr 77 (.tmp 44) 2, 0, "program.go:73", #[⟨6, .data⟩], none⟩ (.pointer (some ⟨g, 2, none⟩)) ?_
      simp only [Act.put, List.setIfInBounds_toArray, List.set_cons_zero, List.set_cons_succ]
      refine tk 8 ⟨some 46, .load 24 (.tmp 45), 24, "program.go:73", #[⟨7, .data⟩], none⟩ (.slice aw st.ws.length cw) ?_ (hy := Or.inl ⟨by rfl, by intro w hSw; have hcc := HC2.out w hSw; go_simp⟩)
      simp only [Act.put, List.setIfInBounds_toArray, List.set_cons_zero, List.set_cons_succ]
      refine tk 9 ⟨some 47, .call { callee := .builtin .len, args := #[.tmp 46], argTypes := #[24] }, 3, "program.go:73", #[⟨8, .data⟩], none⟩ (.int .i64 (st.ws.length : Int)) ?_
      simp only [Act.put, List.setIfInBounds_toArray, List.set_cons_zero, List.set_cons_succ]
      refine wpAnyH_ready (rs := [10]) (by kernel_rfl) (by simp) (AllReadyH.cons (o := ⟨none, .mapUpdate 74 (.tmp 41) (.tmp 42) (.tmp 47), 0, "program.go:73", #[⟨3, .data⟩, ⟨4, .data⟩, ⟨9, .data⟩, ⟨0, .phase⟩, ⟨1, .phase⟩, ⟨2, .phase⟩, ⟨3, .phase⟩, ⟨4, .phase⟩, ⟨5, .phase⟩, ⟨6, .phase⟩, ⟨7, .phase⟩, ⟨8, .phase⟩, ⟨9, .phase⟩], none⟩) rfl (fun KQ hK => ?_) AllReadyH.nil)
      rw [if_pos (by rfl)]
      refine wp_mapUpdate 74 _ _ _ rfl _ _ _ rfl rfl rfl hrun ?_
      refine hK.out _ _ HC1.out (fun hHeld => ?_)
      clear hK KQ
      try simp only [Act.put]
      refine wpAnyH_done (by kernel_rfl) ?_ _
      clear hHeld hrun
      go_wp2_with fail
      have HCY : Hid (Cel w1.drew g 77 (psC base line (.slice aw st.ws.length cw) vl gm vf)) := hid HC1.out
      have HOY : Hid (w1.drew.ownsRow W.heap.size 43 2 vl st.labs.length (labsC st.labs)) := hid (show w1.ownsRow W.heap.size 43 2 vl st.labs.length (labsC st.labs) from own_kt (HPX.out.on (Below.refl _ _).drew).lb (KT.turned HM1.out.2))
      have HBY : Hid (Below w1.heap.size w1 w1.drew ∧ Below W.heap.size W w1.drew) := hid ⟨(Below.refl _ _).drew, ((HPX.out.on (Below.refl _ _).drew).below.grown HM1.out.2.grown (HPX.out.on (Below.refl _ _).drew).below.size (fun g' hg' => by injection hg' with hg'; rw [← hg']; exact HPX.out.hm)).drew⟩
      refine wp_region_held_drew (S := fun x => x.cell? ⟨g, 2, none⟩ = some (.slice aw st.ws.length cw)) (by kernel_rfl) (HC2.out _ HCY.out) (fun hHeld => ?_)
      refine tk 0 ⟨some 48, .move (.tmp 0), 68, "program.go:74", #[], none⟩ (.pointer (some ⟨g, 0, none⟩)) ?_
      simp only [Act.put, List.setIfInBounds_toArray, List.set_cons_zero, List.set_cons_succ]
      refine tk 1 ⟨some 49, .move (.tmp 0), 68, "program.go:74", #[], none⟩ (.pointer (some ⟨g, 0, none⟩)) ?_
      simp only [Act.put, List.setIfInBounds_toArray, List.set_cons_zero, List.set_cons_succ]
      refine tk 2 ⟨some 50, .nilCheck (.tmp 49), 0, "program.go:74", #[⟨1, .data⟩], none⟩ (.pointer (some ⟨g, 0, none⟩)) ?_
      simp only [Act.put, List.setIfInBounds_toArray, List.set_cons_zero, List.set_cons_succ]
      refine tk 3 ⟨some 51, .fieldAddr 77 (.tmp 50) 3, 0, "program.go:74", #[⟨2, .data⟩], none⟩ (.pointer (some ⟨g, 3, none⟩)) ?_
      simp only [Act.put, List.setIfInBounds_toArray, List.set_cons_zero, List.set_cons_succ]
      refine tk 5 ⟨some 53, .move (.tmp 5), 9, "program.go:74", #[], none⟩ (.string ⟨nm.toArray⟩) ?_
      simp only [Act.put, List.setIfInBounds_toArray, List.set_cons_zero, List.set_cons_succ]
      refine tk 6 ⟨some 54, .move (.tmp 0), 68, "program.go:74", #[], none⟩ (.pointer (some ⟨g, 0, none⟩)) ?_
      simp only [Act.put, List.setIfInBounds_toArray, List.set_cons_zero, List.set_cons_succ]
      refine tk 7 ⟨some 55, .nilCheck (.tmp 54), 0, "program.go:74", #[⟨6, .data⟩], none⟩ (.pointer (some ⟨g, 0, none⟩)) ?_
      simp only [Act.put, List.setIfInBounds_toArray, List.set_cons_zero, List.set_cons_succ]
      refine tk 8 ⟨some 56, .fieldAddr 77 (.tmp 55) 2, 0, "program.go:74", #[⟨7, .data⟩], none⟩ (.pointer (some ⟨g, 2, none⟩)) ?_
      simp only [Act.put, List.setIfInBounds_toArray, List.set_cons_zero, List.set_cons_succ]
      refine tk 9 ⟨some 57, .load 24 (.tmp 56), 24, "program.go:74", #[⟨8, .data⟩], none⟩ (.slice aw st.ws.length cw) ?_
      simp only [Act.put, List.setIfInBounds_toArray, List.set_cons_zero, List.set_cons_succ]
      refine tk 10 ⟨some 58, .call { callee := .builtin .len, args := #[.tmp 57], argTypes := #[24] }, 3, "program.go:74", #[⟨9, .data⟩], none⟩ (.int .i64 (st.ws.length : Int)) ?_
      simp only [Act.put, List.setIfInBounds_toArray, List.set_cons_zero, List.set_cons_succ]
      refine tk 11 ⟨some 59, .build 43 #[(0, .tmp 53), (1, .tmp 58)], 43, "program.go:74", #[⟨5, .data⟩, ⟨10, .data⟩], none⟩ (.agg #[.string ⟨nm.toArray⟩, .int .i64 (st.ws.length : Int)]) ?_
      simp only [Act.put, List.setIfInBounds_toArray, List.set_cons_zero, List.set_cons_succ]
      generalize w1.drew = Y at *
      refine wpAnyH_ready (rs := [4, 12]) (by kernel_rfl) (by simp) (AllReadyH.cons (o := ⟨some 52, .load 39 (.tmp 51), 39, "program.go:74", #[⟨3, .data⟩], none⟩) rfl (fun KQ hK => ?_) (AllReadyH.cons (o := ⟨some 60, .buildSlice 39 1 #[(0, .tmp 59)], 39, "program.go:74", #[⟨11, .data⟩], none⟩) rfl (fun KQ hK => ?_) AllReadyH.nil))
      · have hcc3 : Y.cell? ⟨g, 3, none⟩ = some vl := HCY.out.cell 3; go_simp; clear hcc3
        refine hK.out _ _ (HC2.out _ HCY.out) (fun hHeld => ?_)
        clear hK KQ
        try simp only [Act.put, List.setIfInBounds_toArray, List.set_cons_zero, List.set_cons_succ]
        refine wpAnyH_ready (rs := [12]) (by kernel_rfl) (by simp) (AllReadyH.cons (o := ⟨some 60, .buildSlice 39 1 #[(0, .tmp 59)], 39, "program.go:74", #[⟨11, .data⟩], none⟩) rfl (fun KQ hK => ?_) AllReadyH.nil)
        go_simp
        have HCb : Hid (Cel (Y.alloc (Obj.cells #[Value.string ⟨nm.toArray⟩, Value.int .i64 (st.ws.length : Int)] 43)) g 77 (psC base line (.slice aw st.ws.length cw) vl gm vf)) := hid (HCY.out.on (below_one _ _))
        have HOb : Hid ((Y.alloc (Obj.cells #[Value.string ⟨nm.toArray⟩, Value.int .i64 (st.ws.length : Int)] 43)).ownsRow W.heap.size 43 2 vl st.labs.length (labsC st.labs)) := hid (own_below HOY.out (below_one _ _))
        have HNb : Hid (∀ j u, (labC (nm, st.ws.length))[j]? = some u → (Y.alloc (Obj.cells #[Value.string ⟨nm.toArray⟩, Value.int .i64 (st.ws.length : Int)] 43)).cell? ((⟨Y.heap.size, 0, none⟩ : Addr).add j) = some u) := hid (cells_new2 _ _ _ _ rfl)
        have HBb : Hid (Below w1.heap.size w1 (Y.alloc (Obj.cells #[Value.string ⟨nm.toArray⟩, Value.int .i64 (st.ws.length : Int)] 43)) ∧ Below W.heap.size W (Y.alloc (Obj.cells #[Value.string ⟨nm.toArray⟩, Value.int .i64 (st.ws.length : Int)] 43))) := hid ⟨below_on HBY.out.1 (below_one _ _), below_on HBY.out.2 (below_one _ _)⟩
        refine hK.out _ _ (HC2.out _ HCb.out) (fun hHeld => ?_)
        clear hK KQ
        try simp only [Act.put, List.setIfInBounds_toArray, List.set_cons_zero, List.set_cons_succ]
        generalize Y.alloc (Obj.cells #[Value.string ⟨nm.toArray⟩, Value.int .i64 (st.ws.length : Int)] 43) = wb at *
        generalize Y.heap.size = gs at *
        refine wpAnyH_ready (rs := [13]) (by kernel_rfl) (by simp) (AllReadyH.cons (o := ⟨some 61, .call { callee := .builtin .append, args := #[.tmp 52, .tmp 60], argTypes := #[39, 39] }, 39, "program.go:74", #[⟨4, .data⟩, ⟨12, .data⟩], none⟩) rfl (fun KQ hK => ?_) AllReadyH.nil)
        rw [if_pos (by rfl)]
        refine wp_append_labs _ _ 39 rfl i0 Tryz.underlying39 hi hz0 hz1 hz2 W.heap.size HBb.out.2.size vl st.labs rfl HOb.out _ _ (nm, st.ws.length) rfl HNb.out (by omega) ?_
        intro v6 w6 ho6 hg6
        obtain ⟨a6, c6, rfl⟩ := own_form ho6
        have HC6 : Hid (Cel w6 g 77 (psC base line (.slice aw st.ws.length cw) vl gm vf)) := hid (HCb.out.kt (KT.grown HOb.out hg6 (by decide)))
        have H66 : Hid (w6.ownsRow W.heap.size 43 2 (.slice a6 (st.labs.length + 1) c6) (st.labs.length + 1) (labsC (st.labs ++ [(nm, st.ws.length)])) ∧ wb.grownBy w6 vl.ownBlock) := hid ⟨ho6, hg6⟩
        clear ho6 hg6
        refine hK.out _ _ (HC2.out _ HC6.out) (fun hHeld => ?_)
        clear hK KQ
        try simp only [Act.put, List.setIfInBounds_toArray, List.set_cons_zero, List.set_cons_succ]
        refine tk 14 ⟨some 62, .nilCheck (.tmp 48), 0, "program.go:74", #[⟨0, .data⟩, ⟨0, .phase⟩, ⟨1, .phase⟩, ⟨2, .phase⟩, ⟨3, .phase⟩, ⟨4, .phase⟩, ⟨5, .phase⟩, ⟨6, .phase⟩, ⟨7, .phase⟩, ⟨8, .phase⟩, ⟨9, .phase⟩, ⟨10, .phase⟩, ⟨11, .phase⟩, ⟨12, .phase⟩, ⟨13, .phase⟩], none⟩ (.pointer (some ⟨g, 0, none⟩)) ?_
        simp only [Act.put, List.setIfInBounds_toArray, List.set_cons_zero, List.set_cons_succ]
        refine tk 15 ⟨some 63, .fieldAddr 77 (.tmp 62) 3, 0, "program.go:74", #[⟨14, .data⟩, ⟨0, .phase⟩, ⟨1, .phase⟩, ⟨2, .phase⟩, ⟨3, .phase⟩, ⟨4, .phase⟩, ⟨5, .phase⟩, ⟨6, .phase⟩, ⟨7, .phase⟩, ⟨8, .phase⟩, ⟨9, .phase⟩, ⟨10, .phase⟩, ⟨11, .phase⟩, ⟨12, .phase⟩, ⟨13, .phase⟩], none⟩ (.pointer (some ⟨g, 3, none⟩)) ?_
        simp only [Act.put, List.setIfInBounds_toArray, List.set_cons_zero, List.set_cons_succ]
        refine wpAnyH_ready (rs := [16]) (by kernel_rfl) (by simp) (AllReadyH.cons (o := ⟨none, .store 39 (.tmp 63) (.tmp 61), 0, "program.go:74", #[⟨15, .data⟩, ⟨13, .data⟩, ⟨13, .chain⟩, ⟨0, .phase⟩, ⟨1, .phase⟩, ⟨2, .phase⟩, ⟨3, .phase⟩, ⟨4, .phase⟩, ⟨5, .phase⟩, ⟨6, .phase⟩, ⟨7, .phase⟩, ⟨8, .phase⟩, ⟨9, .phase⟩, ⟨10, .phase⟩, ⟨11, .phase⟩, ⟨12, .phase⟩, ⟨13, .phase⟩], none⟩) rfl (fun KQ hK => ?_) AllReadyH.nil)
        have hcs : w6.cell? ⟨g, 3, none⟩ = some vl := HC6.out.cell 3; have hcf := HC6.out.free 3; go_simp; clear hcs hcf
        refine hK.out _ _ ((HC6.out.setCell 3 (.slice a6 (st.labs.length + 1) c6)).cell 2) (fun hHeld => ?_)
        clear hK KQ
        try simp only [Act.put]
        refine wpAnyH_done (by kernel_rfl) ?_ _
        clear hHeld
        have HF : Hid (PS W (w6.setCell ⟨g, 3, none⟩ (.slice a6 (st.labs.length + 1) c6)) g gm base line { st with labs := st.labs ++ [(nm, st.ws.length)] } fs (.slice aw st.ws.length cw) (.slice a6 (st.labs.length + 1) c6) vf) := hid ((HPX.out.on (Below.refl _ _).drew).label (w1 := w1) (w2 := wb) (nm, st.ws.length) HPX.out.room HM1.out.1 HM1.out.2 HBb.out.1 H66.out.1 H66.out.2)
        have HFK : Hid (KT 154 V (w6.setCell ⟨g, 3, none⟩ (.slice a6 (st.labs.length + 1) c6))) := hid (KT.trans HXK.out (KT.trans (show KT 154 X w1 from KT.turned (w := X.drew) HM1.out.2) (KT.trans (.of_below HBb.out.1) (KT.trans (KT.grown HOb.out H66.out.2 (by decide)) (KT.setCell HC6.out (by decide) 3 _)))))
        generalize w6.setCell ⟨g, 3, none⟩ (.slice a6 (st.labs.length + 1) c6) = w7 at *
        go_wp2_with fail
        go_ret
        exact ⟨rfl, HFK.out, _, _, _, HF.out⟩
      · go_simp
        have HCb : Hid (Cel (Y.alloc (Obj.cells #[Value.string ⟨nm.toArray⟩, Value.int .i64 (st.ws.length : Int)] 43)) g 77 (psC base line (.slice aw st.ws.length cw) vl gm vf)) := hid (HCY.out.on (below_one _ _))
        have HOb : Hid ((Y.alloc (Obj.cells #[Value.string ⟨nm.toArray⟩, Value.int .i64 (st.ws.length : Int)] 43)).ownsRow W.heap.size 43 2 vl st.labs.length (labsC st.labs)) := hid (own_below HOY.out (below_one _ _))
        have HNb : Hid (∀ j u, (labC (nm, st.ws.length))[j]? = some u → (Y.alloc (Obj.cells #[Value.string ⟨nm.toArray⟩, Value.int .i64 (st.ws.length : Int)] 43)).cell? ((⟨Y.heap.size, 0, none⟩ : Addr).add j) = some u) := hid (cells_new2 _ _ _ _ rfl)
        have HBb : Hid (Below w1.heap.size w1 (Y.alloc (Obj.cells #[Value.string ⟨nm.toArray⟩, Value.int .i64 (st.ws.length : Int)] 43)) ∧ Below W.heap.size W (Y.alloc (Obj.cells #[Value.string ⟨nm.toArray⟩, Value.int .i64 (st.ws.length : Int)] 43))) := hid ⟨below_on HBY.out.1 (below_one _ _), below_on HBY.out.2 (below_one _ _)⟩
        refine hK.out _ _ (HC2.out _ HCb.out) (fun hHeld => ?_)
        clear hK KQ
        try simp only [Act.put, List.setIfInBounds_toArray, List.set_cons_zero, List.set_cons_succ]
        generalize Y.alloc (Obj.cells #[Value.string ⟨nm.toArray⟩, Value.int .i64 (st.ws.length : Int)] 43) = wb at *
        generalize Y.heap.size = gs at *
        refine wpAnyH_ready (rs := [4]) (by kernel_rfl) (by simp) (AllReadyH.cons (o := ⟨some 52, .load 39 (.tmp 51), 39, "program.go:74", #[⟨3, .data⟩], none⟩) rfl (fun KQ hK => ?_) AllReadyH.nil)
        have hcc3 : wb.cell? ⟨g, 3, none⟩ = some vl := HCb.out.cell 3; go_simp; clear hcc3
        refine hK.out _ _ (HC2.out _ HCb.out) (fun hHeld => ?_)
        clear hK KQ
        try simp only [Act.put, List.setIfInBounds_toArray, List.set_cons_zero, List.set_cons_succ]
        refine wpAnyH_ready (rs := [13]) (by kernel_rfl) (by simp) (AllReadyH.cons (o := ⟨some 61, .call { callee := .builtin .append, args := #[.tmp 52, .tmp 60], argTypes := #[39, 39] }, 39, "program.go:74", #[⟨4, .data⟩, ⟨12, .data⟩], none⟩) rfl (fun KQ hK => ?_) AllReadyH.nil)
        rw [if_pos (by rfl)]
        refine wp_append_labs _ _ 39 rfl i0 Tryz.underlying39 hi hz0 hz1 hz2 W.heap.size HBb.out.2.size vl st.labs rfl HOb.out _ _ (nm, st.ws.length) rfl HNb.out (by omega) ?_
        intro v6 w6 ho6 hg6
        obtain ⟨a6, c6, rfl⟩ := own_form ho6
        have HC6 : Hid (Cel w6 g 77 (psC base line (.slice aw st.ws.length cw) vl gm vf)) := hid (HCb.out.kt (KT.grown HOb.out hg6 (by decide)))
        have H66 : Hid (w6.ownsRow W.heap.size 43 2 (.slice a6 (st.labs.length + 1) c6) (st.labs.length + 1) (labsC (st.labs ++ [(nm, st.ws.length)])) ∧ wb.grownBy w6 vl.ownBlock) := hid ⟨ho6, hg6⟩
        clear ho6 hg6
        refine hK.out _ _ (HC2.out _ HC6.out) (fun hHeld => ?_)
        clear hK KQ
        try simp only [Act.put, List.setIfInBounds_toArray, List.set_cons_zero, List.set_cons_succ]
        refine tk 14 ⟨some 62, .nilCheck (.tmp 48), 0, "program.go:74", #[⟨0, .data⟩, ⟨0, .phase⟩, ⟨1, .phase⟩, ⟨2, .phase⟩, ⟨3, .phase⟩, ⟨4, .phase⟩, ⟨5, .phase⟩, ⟨6, .phase⟩, ⟨7, .phase⟩, ⟨8, .phase⟩, ⟨9, .phase⟩, ⟨10, .phase⟩, ⟨11, .phase⟩, ⟨12, .phase⟩, ⟨13, .phase⟩], none⟩ (.pointer (some ⟨g, 0, none⟩)) ?_
        simp only [Act.put, List.setIfInBounds_toArray, List.set_cons_zero, List.set_cons_succ]
        refine tk 15 ⟨some 63, .fieldAddr 77 (.tmp 62) 3, 0, "program.go:74", #[⟨14, .data⟩, ⟨0, .phase⟩, ⟨1, .phase⟩, ⟨2, .phase⟩, ⟨3, .phase⟩, ⟨4, .phase⟩, ⟨5, .phase⟩, ⟨6, .phase⟩, ⟨7, .phase⟩, ⟨8, .phase⟩, ⟨9, .phase⟩, ⟨10, .phase⟩, ⟨11, .phase⟩, ⟨12, .phase⟩, ⟨13, .phase⟩], none⟩ (.pointer (some ⟨g, 3, none⟩)) ?_
        simp only [Act.put, List.setIfInBounds_toArray, List.set_cons_zero, List.set_cons_succ]
        refine wpAnyH_ready (rs := [16]) (by kernel_rfl) (by simp) (AllReadyH.cons (o := ⟨none, .store 39 (.tmp 63) (.tmp 61), 0, "program.go:74", #[⟨15, .data⟩, ⟨13, .data⟩, ⟨13, .chain⟩, ⟨0, .phase⟩, ⟨1, .phase⟩, ⟨2, .phase⟩, ⟨3, .phase⟩, ⟨4, .phase⟩, ⟨5, .phase⟩, ⟨6, .phase⟩, ⟨7, .phase⟩, ⟨8, .phase⟩, ⟨9, .phase⟩, ⟨10, .phase⟩, ⟨11, .phase⟩, ⟨12, .phase⟩, ⟨13, .phase⟩], none⟩) rfl (fun KQ hK => ?_) AllReadyH.nil)
        have hcs : w6.cell? ⟨g, 3, none⟩ = some vl := HC6.out.cell 3; have hcf := HC6.out.free 3; go_simp; clear hcs hcf
        refine hK.out _ _ ((HC6.out.setCell 3 (.slice a6 (st.labs.length + 1) c6)).cell 2) (fun hHeld => ?_)
        clear hK KQ
        try simp only [Act.put]
        refine wpAnyH_done (by kernel_rfl) ?_ _
        clear hHeld
        have HF : Hid (PS W (w6.setCell ⟨g, 3, none⟩ (.slice a6 (st.labs.length + 1) c6)) g gm base line { st with labs := st.labs ++ [(nm, st.ws.length)] } fs (.slice aw st.ws.length cw) (.slice a6 (st.labs.length + 1) c6) vf) := hid ((HPX.out.on (Below.refl _ _).drew).label (w1 := w1) (w2 := wb) (nm, st.ws.length) HPX.out.room HM1.out.1 HM1.out.2 HBb.out.1 H66.out.1 H66.out.2)
        have HFK : Hid (KT 154 V (w6.setCell ⟨g, 3, none⟩ (.slice a6 (st.labs.length + 1) c6))) := hid (KT.trans HXK.out (KT.trans (show KT 154 X w1 from KT.turned (w := X.drew) HM1.out.2) (KT.trans (.of_below HBb.out.1) (KT.trans (KT.grown HOb.out H66.out.2 (by decide)) (KT.setCell HC6.out (by decide) 3 _)))))
        generalize w6.setCell ⟨g, 3, none⟩ (.slice a6 (st.labs.length + 1) c6) = w7 at *
        go_wp2_with fail
        go_ret
        exact ⟨rfl, HFK.out, _, _, _, HF.out⟩
end Go.Proofs.YtncnogndopgknaaGreatDoor
namespace Go.Proofs.YtncnogndopgknaaGreatDoor
open Go.RowKit
theorem alloc_size (W : World) (o : Obj) : (W.alloc o).heap.size = W.heap.size + 1 := by simp
theorem six_new (W : World) (c1 c2 c3 c4 c5 c6 : List Value) (t1 t2 t3 t4 t5 t6 : TypeId) :
    Cel ((((((W.alloc (.cells c1.toArray t1)).alloc (.cells c2.toArray t2)).alloc (.cells c3.toArray t3)).alloc (.cells c4.toArray t4)).alloc (.cells c5.toArray t5)).alloc (.cells c6.toArray t6)) W.heap.size t1 c1 ∧
    Cel ((((((W.alloc (.cells c1.toArray t1)).alloc (.cells c2.toArray t2)).alloc (.cells c3.toArray t3)).alloc (.cells c4.toArray t4)).alloc (.cells c5.toArray t5)).alloc (.cells c6.toArray t6)) (W.heap.size + 1) t2 c2 ∧
    Cel ((((((W.alloc (.cells c1.toArray t1)).alloc (.cells c2.toArray t2)).alloc (.cells c3.toArray t3)).alloc (.cells c4.toArray t4)).alloc (.cells c5.toArray t5)).alloc (.cells c6.toArray t6)) (W.heap.size + 1 + 1) t3 c3 ∧
    Cel ((((((W.alloc (.cells c1.toArray t1)).alloc (.cells c2.toArray t2)).alloc (.cells c3.toArray t3)).alloc (.cells c4.toArray t4)).alloc (.cells c5.toArray t5)).alloc (.cells c6.toArray t6)) (W.heap.size + 1 + 1 + 1) t4 c4 ∧
    Cel ((((((W.alloc (.cells c1.toArray t1)).alloc (.cells c2.toArray t2)).alloc (.cells c3.toArray t3)).alloc (.cells c4.toArray t4)).alloc (.cells c5.toArray t5)).alloc (.cells c6.toArray t6)) (W.heap.size + 1 + 1 + 1 + 1) t5 c5 ∧
    Cel ((((((W.alloc (.cells c1.toArray t1)).alloc (.cells c2.toArray t2)).alloc (.cells c3.toArray t3)).alloc (.cells c4.toArray t4)).alloc (.cells c5.toArray t5)).alloc (.cells c6.toArray t6)) (W.heap.size + 1 + 1 + 1 + 1 + 1) t6 c6 ∧
    Below W.heap.size W ((((((W.alloc (.cells c1.toArray t1)).alloc (.cells c2.toArray t2)).alloc (.cells c3.toArray t3)).alloc (.cells c4.toArray t4)).alloc (.cells c5.toArray t5)).alloc (.cells c6.toArray t6)) := by
  have s1 := alloc_size W (.cells c1.toArray t1)
  have e1 := Cel.new W t1 c1
  have b1 := below_one W (.cells c1.toArray t1)
  generalize W.alloc (.cells c1.toArray t1) = W1 at *
  have s2 := alloc_size W1 (.cells c2.toArray t2)
  have e2 := Cel.new W1 t2 c2
  have f1 := e1.on (below_one W1 (.cells c2.toArray t2))
  have b2 := below_on b1 (below_one W1 (.cells c2.toArray t2))
  rw [s1] at s2 e2
  generalize W1.alloc (.cells c2.toArray t2) = W2 at *
  have s3 := alloc_size W2 (.cells c3.toArray t3)
  have e3 := Cel.new W2 t3 c3
  have g1 := f1.on (below_one W2 (.cells c3.toArray t3))
  have g2 := e2.on (below_one W2 (.cells c3.toArray t3))
  have b3 := below_on b2 (below_one W2 (.cells c3.toArray t3))
  rw [s2] at s3 e3
  generalize W2.alloc (.cells c3.toArray t3) = W3 at *
  have s4 := alloc_size W3 (.cells c4.toArray t4)
  have e4 := Cel.new W3 t4 c4
  have h1 := g1.on (below_one W3 (.cells c4.toArray t4))
  have h2 := g2.on (below_one W3 (.cells c4.toArray t4))
  have h3 := e3.on (below_one W3 (.cells c4.toArray t4))
  have b4 := below_on b3 (below_one W3 (.cells c4.toArray t4))
  rw [s3] at s4 e4
  generalize W3.alloc (.cells c4.toArray t4) = W4 at *
  have s5 := alloc_size W4 (.cells c5.toArray t5)
  have e5 := Cel.new W4 t5 c5
  have i1 := h1.on (below_one W4 (.cells c5.toArray t5))
  have i2 := h2.on (below_one W4 (.cells c5.toArray t5))
  have i3 := h3.on (below_one W4 (.cells c5.toArray t5))
  have i4 := e4.on (below_one W4 (.cells c5.toArray t5))
  have b5 := below_on b4 (below_one W4 (.cells c5.toArray t5))
  rw [s4] at s5 e5
  generalize W4.alloc (.cells c5.toArray t5) = W5 at *
  have e6 := Cel.new W5 t6 c6
  rw [s5] at e6
  have bb := below_one W5 (.cells c6.toArray t6)
  exact ⟨i1.on bb, i2.on bb, i3.on bb, i4.on bb, e5.on bb, e6, below_on b5 bb⟩
theorem finish_any (W : World) (g : Nat) (line : Nat) (hgl : W.cell? ⟨g, 1, none⟩ = some (.int .i64 (line : Int))) (k : S.Kd) (gO n cap at' place : Nat) :
    Calls Tryz.prog 92 #[.pointer (some ⟨g, 0, none⟩), kdV k, .slice (some ⟨gO, 0, none⟩) n cap, .int .i64 (at' : Int), .int .i64 (place : Int)] W fun x w' => ∃ d : Fc, x = .returned (fcV d) ∧ d.gO = gO ∧ d.cap = cap ∧ Below W.heap.size W w' ∧
      Cel w' d.g7 192 [.slice (some ⟨gO, 0, none⟩) n cap] ∧ Cel w' d.g8 3 [.int .i64 (at' : Int)] ∧ Cel w' d.g5 68 [.pointer (some ⟨g, 0, none⟩)] ∧ Cel w' d.g11 3 [.int .i64 (line : Int)] ∧ Cel w' d.g6 188 (kdC k) ∧ Cel w' d.g9 3 [.int .i64 (place : Int)] := by
  have hglt : g < W.heap.size := by
    rcases Nat.lt_or_ge g W.heap.size with h | h
    · exact h
    · simp [World.cell?, Array.getElem?_eq_none h] at hgl
  have HG : Hid (∀ x, Below W.heap.size W x → x.cell? ⟨g, 1, none⟩ = some (.int .i64 (line : Int))) := hid (fun x hx => by rw [hx.cell (p := ⟨g, 1, none⟩) hglt]; exact hgl)
  have h5 : ∀ o1 o2 o3 o4 o5, (((((W.alloc o1).alloc o2).alloc o3).alloc o4).alloc o5).cell? ⟨g, 1, none⟩ = some (.int .i64 (line : Int)) := fun o1 o2 o3 o4 o5 => HG.out _ (below_on (below_on (below_on (below_on (below_one _ _) (below_one _ _)) (below_one _ _)) (below_one _ _)) (below_one _ _))
  have HS := hid (six_new W [.pointer (some ⟨g, 0, none⟩)] (kdC k) [.slice (some ⟨gO, 0, none⟩) n cap] [.int .i64 (at' : Int)] [.int .i64 (place : Int)] [.int .i64 (line : Int)] 68 188 192 3 3 3)
  have hmf := hmf
  simp only [kdV]
  clear hgl hglt HG
  go_enter Tryz.func92, Tryz.ntmps92
  go_wp2_with fail
  go_ret
  exact ⟨⟨W.heap.size + 1 + 1, W.heap.size + 1 + 1 + 1, W.heap.size, W.heap.size + 1 + 1 + 1 + 1 + 1, W.heap.size + 1, W.heap.size + 1 + 1 + 1 + 1, gO, cap⟩, rfl, rfl, rfl, HS.out.2.2.2.2.2.2, HS.out.2.2.1, HS.out.2.2.2.1, HS.out.1, HS.out.2.2.2.2.2.1, HS.out.2.1, HS.out.2.2.2.2.1⟩
end Go.Proofs.YtncnogndopgknaaGreatDoor
