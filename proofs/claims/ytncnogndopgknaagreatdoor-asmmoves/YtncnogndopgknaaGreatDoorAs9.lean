/- asm's define (62). -/
import Derived.Test.YtncnogndopgknaaGreatDoorAs8
namespace Go.Proofs.YtncnogndopgknaaGreatDoor
open Go.RowKit
theorem Tryz.info43 : (Tryz.prog.info? 43).map (fun i => (i.zero, i.size, i.bytes)) = some (some (.agg #[.string ⟨#[]⟩, .int .i64 0]), 2, 24) := by kernel_rfl
theorem labsC_append (a b : List (List UInt8 × Nat)) : labsC (a ++ b) = labsC a ++ labsC b := by simp [labsC]
theorem wp_append_labs {P : Program} {w : World} {o : Oper} {a : Act} {K : Act → World → Prop} {Q : Exit → Act → World → Prop} (s x : Operand) (t : TypeId)
    (ho : o.op = .call { callee := .builtin .append, args := #[s, x], argTypes := #[t, t] }) (i : TypeInfo) (ht : P.underlying t = some (.slice 43)) (hi : P.info? 43 = some i) (hz : i.zero = some (.agg #[.string ⟨#[]⟩, .int .i64 0])) (hsize : i.size = 2) (hby : i.bytes = 24)
    (B : Nat) (hB : B ≤ w.heap.size) (v : Value) (l : List (List UInt8 × Nat)) (hs : a.eval s = v) (H : w.ownsRow B 43 2 v l.length (labsC l)) (ad : Addr) (c : Nat) (m : List UInt8 × Nat) (hx : a.eval x = .slice (some ad) 1 c) (hc : ∀ j u, (labC m)[j]? = some u → w.cell? (ad.add j) = some u) (h63 : l.length ≤ 1000000000)
    (h : ∀ v' w', w'.ownsRow B 43 2 v' (l.length + 1) (labsC (l ++ [m])) → w.grownBy w' v.ownBlock → K (a.put o.dst v') w') : o.wp P a w K Q := by
  obtain ⟨v', w', hr, h1, h2, _⟩ := run_append_own (P := P) w B t o.type 43 i _ 2 24 ht hi hz hsize hby rfl (by decide) v l.length _ H ad 1 c (labC m) rfl hc (by simp [labC, Value.oneCell']) (by unfold maxLen; omega) (by omega) hB
  unfold Oper.wp execOp
  simp only [ho, resolve, invoke, builtin, Sem.run_bind, Sem.run_pure, Result.andThen_ok, List.map_toArray, List.map_cons, List.map_nil, hs, hx, hr]
  exact h _ _ (by rw [labsC_append]; simpa [labsC] using h1) h2
theorem PS.label {W w w1 w2 w3 : World} {g gm base line : Nat} {st : S.St} {fs : List Fc} {vw vl vf vl' : Value} (h : PS W w g gm base line st fs vw vl vf) (x : List UInt8 × Nat) (hx : x.2 ≤ 2048) (hm1 : MapIs w1 gm (st.labs ++ [x])) (ht : w.mapTurned w1 gm) (hb2 : Below w1.heap.size w1 w2)
    (ho3 : w3.ownsRow W.heap.size 43 2 vl' (st.labs.length + 1) (labsC (st.labs ++ [x]))) (hg3 : w2.grownBy w3 vl.ownBlock) : PS W (w3.setCell ⟨g, 3, none⟩ vl') g gm base line { st with labs := st.labs ++ [x] } fs vw vl' vf := by
  have own2 : w2.ownsRow W.heap.size 43 2 vl st.labs.length (labsC st.labs) := own_kt h.lb (KT.trans (KT.turned ht) (KT.of_below hb2))
  have kt : ∀ e, e ≠ 43 → KT e w w3 := fun e he => KT.trans (KT.trans (KT.turned ht) (KT.of_below hb2)) (KT.grown own2 hg3 he)
  have cel3 : Cel w3 g 77 (psC base line vw vl gm vf) := h.cel.kt (kt 77 (by decide))
  have kt2 : ∀ e, e ≠ 43 → e ≠ 77 → KT e w (w3.setCell ⟨g, 3, none⟩ vl') := fun e he he2 => KT.trans (kt e he) (KT.setCell cel3 he2 3 _)
  have b1 : Below W.heap.size W w1 := h.below.grown ht.grown h.below.size (fun g' hg' => by injection hg' with hg'; rw [← hg']; exact h.hm)
  have b3 : Below W.heap.size W w3 := (below_on b1 hb2).grown hg3 (below_on b1 hb2).size (fun g' hg' => (own2.lt g' hg').1)
  refine ⟨b3.setCell (p := ⟨g, 3, none⟩) h.hg _, h.hg, h.hm, cel3.setCell 3 _, own_kt h.ws (kt2 22 (by decide) (by decide)), ?_, own_kt h.lt (kt2 111 (by decide) (by decide)), map_setCell (map_grown (map_on hm1 hb2) own2 hg3) cel3 3 _, h.len, fun i a b => (h.clos i a b).kt (kt2 _ (by decide) (by decide)) (kt2 _ (by decide) (by decide)) (kt2 _ (by decide) (by decide)) (kt2 _ (by decide) (by decide)) (kt2 _ (by decide) (by decide)), h.nodup, h.rows, h.room, fun y hy => ?_⟩
  · show (w3.setCell ⟨g, 3, none⟩ vl').ownsRow W.heap.size 43 2 vl' (st.labs ++ [x]).length (labsC (st.labs ++ [x]))
    rw [List.length_append]
    exact own_kt ho3 (KT.setCell cel3 (by decide) 3 _)
  · rcases List.mem_append.1 hy with hy | hy
    · exact h.places y hy
    · rw [List.mem_singleton.1 hy]; exact hx
/-- What define answers. -/
def DefPost (W V : World) (g gm base line : Nat) (st : S.St) (fs : List Fc) (w : T.Wd) (x : Ending) (w' : World) : Prop :=
  if T.name (Lib.trimSuffix w.text [58]) = true then
    (if S.has st.labs (Lib.trimSuffix w.text [58]) then x = .returned (bk 63 line w.col) ∧ Below W.heap.size W w'
     else x = .returned .nilIface ∧ KT 154 V w' ∧ ∃ vw vl vf, PS W w' g gm base line { st with labs := st.labs ++ [(Lib.trimSuffix w.text [58], st.ws.length)] } fs vw vl vf)
  else x = .returned (bk 60 line w.col) ∧ Below W.heap.size W w'
theorem cells_new2 (W : World) (e : TypeId) (C : Array Value) (L : List Value) (hC : C = L.toArray) : ∀ j u, L[j]? = some u → (W.alloc (.cells C e)).cell? ((⟨W.heap.size, 0, none⟩ : Addr).add j) = some u := by
  intro j u hu
  subst hC
  rw [Addr.add_mid, World.cell?_alloc_new, Nat.zero_add]
  simpa using hu
set_option maxRecDepth 40000 in
set_option maxHeartbeats 4000000 in
theorem define_any (W V : World) (g gm base line : Nat) (st : S.St) (fs : List Fc) (vw vl vf : Value) (h : PS W V g gm base line st fs vw vl vf) (hl : st.labs.length ≤ 1000000) (w : T.Wd) (hw : w.text.length ≤ 1000000000) :
    Calls Tryz.prog 62 #[.pointer (some ⟨g, 0, none⟩), wdV w] V fun x w' => DefPost W V g gm base line st fs w x w' := by
  obtain ⟨i0, hi, hz0, hz1, hz2⟩ := info_parts Tryz.info43
  obtain ⟨tx, q, col⟩ := w
  obtain ⟨nm, hnm⟩ : ∃ nm, Lib.trimSuffix tx [58] = nm := ⟨_, rfl⟩
  have hnl : nm.length ≤ 1000000000 := by
    rw [← hnm]
    have hw' : tx.length ≤ 1000000000 := hw
    unfold Lib.trimSuffix
    split
    · rw [List.length_take]; omega
    · exact hw'
  have H86 : Hid (∀ x, Calls Tryz.prog 86 #[.string ⟨tx.toArray⟩, .string ⟨#[58]⟩] x fun e w' => e = .returned (.string ⟨nm.toArray⟩) ∧ w' = x) := hid (fun x => by
    have := Tryz.strings_TrimSuffix ⟨tx.toArray⟩ ⟨#[58]⟩ x (by simp [ByteArray.size] at hw ⊢; omega)
    have e0 : (⟨tx.toArray⟩ : ByteArray).data.toList = tx := rfl
    have e1 : (⟨#[58]⟩ : ByteArray).data.toList = [58] := rfl
    rw [e0, e1, hnm] at this
    exact this)
  have H87 : Hid (∀ x, Calls Tryz.prog 87 #[.string ⟨nm.toArray⟩] x fun e w' => e = .returned (.int .i64 (if T.name nm then 0 else 42)) ∧ x = w') := hid (fun x => name_any x ⟨nm.toArray⟩ (by simpa [ByteArray.size] using hnl))
  unfold DefPost
  simp only [hnm]
  have HP : Hid (∀ x, Below V.heap.size V x → PS W x g gm base line st fs vw vl vf) := hid (fun x hx => h.on hx)
  obtain ⟨aw, cw, rfl⟩ := h.vw
  clear h hnm hw
  simp only [wdV]
  cases hn : T.name nm with
  | false =>
    rw [hn] at H87
    simp only [Bool.false_eq_true, if_false] at H87 ⊢
    go_enter Tryz.func62, Tryz.ntmps62
    go_wp2_with (first | (go_at_call 86; refine (H86.out _).mono ?_; rintro e w' ⟨rfl, rfl⟩) | (go_at_call 87; refine (H87.out _).mono ?_; rintro e w' ⟨rfl, rfl⟩))
    have HX : Hid (Below V.heap.size V (V.alloc (Obj.cells #[Value.string { data := tx.toArray }, Value.bool q, Value.int IntKind.i64 ↑col] 154)) ∧ Cel (V.alloc (Obj.cells #[Value.string { data := tx.toArray }, Value.bool q, Value.int IntKind.i64 ↑col] 154)) V.heap.size 154 [Value.string { data := tx.toArray }, Value.bool q, Value.int IntKind.i64 ↑col]) := hid ⟨below_one _ _, Cel.new _ _ _⟩
    generalize V.alloc (Obj.cells #[Value.string { data := tx.toArray }, Value.bool q, Value.int IntKind.i64 ↑col] 154) = X at *
    have HPX := hid (HP.out X HX.out.1)
    have HCX : Hid (Cel X V.heap.size 154 [Value.string { data := tx.toArray }, Value.bool q, Value.int IntKind.i64 ↑col]) := hid HX.out.2
    clear HX HP
    generalize V.heap.size = gw at *
    have HGl : Hid (∀ x, Below X.heap.size X x → x.cell? ⟨g, 1, none⟩ = some (.int .i64 (line : Int))) := hid (fun x hx => (HPX.out.cel.on hx).cell 1)
    have HCl : Hid (∀ x, Below X.heap.size X x → x.cell? ⟨gw, 2, none⟩ = some (.int .i64 (col : Int))) := hid (fun x hx => (HCX.out.on hx).cell 2)
    refine wp_region_held_drew (S := fun x => Below X.heap.size X x) (by kernel_rfl) ((Below.refl _ _).drew) (fun hHeld => ?_)
    refine wpAnyH_take (i := 0) (oi := { dst := some 14, op := Op.move (Operand.tmp 0), type := 68, pos := "program.go:68", after := #[], guard := none }) (v := .pointer (some ⟨g, 0, none⟩)) rfl (by kernel_rfl) (by kernel_rfl) (by kernel_rfl) (fun _ _ _ h => h) (Or.inl ⟨by rfl, by intro w hSw; go_simp⟩) (by assumption) ?_
    simp only [Act.put, List.setIfInBounds_toArray, List.set_cons_zero, List.set_cons_succ]
    refine wpAnyH_take (i := 1) (oi := { dst := some 15, op := Op.nilCheck (Operand.tmp 14), type := 0, pos := "program.go:68", after := #[{ on := 0, ground := Ground.data }], guard := none }) (v := .pointer (some ⟨g, 0, none⟩)) rfl (by kernel_rfl) (by kernel_rfl) (by kernel_rfl) (fun _ _ _ h => h) (Or.inl ⟨by rfl, by intro w hSw; go_simp⟩) (by assumption) ?_
    simp only [Act.put, List.setIfInBounds_toArray, List.set_cons_zero, List.set_cons_succ]
    refine wpAnyH_take (i := 2) (oi := { dst := some 16, op := Op.fieldAddr 77 (Operand.tmp 15) 1, type := 0, pos := "program.go:68", after := #[{ on := 1, ground := Ground.data }], guard := none }) (v := .pointer (some ⟨g, 1, none⟩)) rfl (by kernel_rfl) (by kernel_rfl) (by kernel_rfl) (fun _ _ _ h => h) (Or.inl ⟨by rfl, by intro w hSw; go_simp⟩) (by assumption) ?_
    simp only [Act.put, List.setIfInBounds_toArray, List.set_cons_zero, List.set_cons_succ]
    refine wpAnyH_take (i := 3) (oi := { dst := some 17, op := Op.load 3 (Operand.tmp 16), type := 3, pos := "program.go:68", after := #[{ on := 2, ground := Ground.data }], guard := none }) (v := .int .i64 (line : Int)) rfl (by kernel_rfl) (by kernel_rfl) (by kernel_rfl) (fun _ _ _ h => h) (Or.inl ⟨by rfl, by intro w hSw; have hcc := HGl.out w hSw; go_simp⟩) (by assumption) ?_
    simp only [Act.put, List.setIfInBounds_toArray, List.set_cons_zero, List.set_cons_succ]
    refine wpAnyH_take (i := 4) (oi := { dst := some 18, op := Op.fieldAddr 154 (Operand.tmp 3) 2, type := 0, pos := "program.go:68", after := #[], guard := none }) (v := .pointer (some ⟨gw, 2, none⟩)) rfl (by kernel_rfl) (by kernel_rfl) (by kernel_rfl) (fun _ _ _ h => h) (Or.inl ⟨by rfl, by intro w hSw; go_simp⟩) (by assumption) ?_
    simp only [Act.put, List.setIfInBounds_toArray, List.set_cons_zero, List.set_cons_succ]
    refine wpAnyH_take (i := 5) (oi := { dst := some 19, op := Op.load 3 (Operand.tmp 18), type := 3, pos := "program.go:68", after := #[{ on := 4, ground := Ground.data }], guard := none }) (v := .int .i64 (col : Int)) rfl (by kernel_rfl) (by kernel_rfl) (by kernel_rfl) (fun _ _ _ h => h) (Or.inl ⟨by rfl, by intro w hSw; have hcc := HCl.out w hSw; go_simp⟩) (by assumption) ?_
    simp only [Act.put, List.setIfInBounds_toArray, List.set_cons_zero, List.set_cons_succ]
    refine wpAnyH_ready (rs := [6]) (by kernel_rfl) (by simp) (AllReadyH.cons (o := { dst := some 20, op := Op.call { callee := Callee.value (Operand.func 38), args := #[Operand.const (Value.int IntKind.i64 60), Operand.tmp 17, Operand.tmp 19], argTypes := #[25, 3, 3] }, type := 70, pos := "program.go:68", after := #[{ on := 3, ground := Ground.data }, { on := 5, ground := Ground.data }], guard := none }) rfl (fun KQ hK => ?_) AllReadyH.nil)
    go_simp
    refine (faultAt_any _ 60 (line : Int) (col : Int)).mono ?_
    rintro e y1 ⟨rfl, rfl⟩
    have HY1 : Hid (Below X.heap.size X X.drew) := hid (Below.refl _ _).drew
    go_wp2_with fail
    refine hK.out _ _ HY1.out (fun hHeld => ?_)
    clear hK KQ
    try simp only [Act.put, List.setIfInBounds_toArray, List.set_cons_zero, List.set_cons_succ]
    refine wpAnyH_ready (rs := [7]) (by kernel_rfl) (by simp) (AllReadyH.cons (o := { dst := some 4, op := Op.assign (Operand.tmp 20), type := 70, pos := "program.go:68", after := #[{ on := 6, ground := Ground.data }, { on := 6, ground := Ground.chain }, { on := 0, ground := Ground.phase }, { on := 1, ground := Ground.phase }, { on := 2, ground := Ground.phase }, { on := 3, ground := Ground.phase }, { on := 4, ground := Ground.phase }, { on := 5, ground := Ground.phase }, { on := 6, ground := Ground.phase }], guard := none }) rfl (fun KQ hK => ?_) AllReadyH.nil)
    go_simp
    refine hK.out _ _ HY1.out (fun hHeld => ?_)
    clear hK KQ
    try simp only [Act.put, List.setIfInBounds_toArray, List.set_cons_zero, List.set_cons_succ]
    refine wpAnyH_done (by kernel_rfl) ?_ _
    clear hHeld
    go_wp2_with fail
    go_ret
    exact ⟨rfl, below_on HPX.out.below HY1.out⟩
  | true =>
    rw [hn] at H87
    simp only [if_true] at H87 ⊢
    have d4 : (V.alloc (Obj.cells #[Value.string { data := tx.toArray }, Value.bool q, Value.int IntKind.i64 ↑col] 154)).cell? ⟨g, 4, none⟩ = some (.map (some gm)) := (HP.out _ (below_one V (Obj.cells #[Value.string { data := tx.toArray }, Value.bool q, Value.int IntKind.i64 ↑col] 154))).cel.cell 4
    obtain ⟨lv, hlk, hlv⟩ := (HP.out _ (below_one V (Obj.cells #[Value.string { data := tx.toArray }, Value.bool q, Value.int IntKind.i64 ↑col] 154))).map.look nm hnl
    clear hlv
    cases hh : S.has st.labs nm with
    | true =>
      simp only [if_true]
      rw [hh] at hlk
      go_enter Tryz.func62, Tryz.ntmps62
      go_wp2_with (first | (go_at_call 86; refine (H86.out _).mono ?_; rintro e w' ⟨rfl, rfl⟩) | (go_at_call 87; refine (H87.out _).mono ?_; rintro e w' ⟨rfl, rfl⟩))
      clear d4 hlk
      have HX : Hid (Below V.heap.size V (V.alloc (Obj.cells #[Value.string { data := tx.toArray }, Value.bool q, Value.int IntKind.i64 ↑col] 154)) ∧ Cel (V.alloc (Obj.cells #[Value.string { data := tx.toArray }, Value.bool q, Value.int IntKind.i64 ↑col] 154)) V.heap.size 154 [Value.string { data := tx.toArray }, Value.bool q, Value.int IntKind.i64 ↑col]) := hid ⟨below_one _ _, Cel.new _ _ _⟩
      generalize V.alloc (Obj.cells #[Value.string { data := tx.toArray }, Value.bool q, Value.int IntKind.i64 ↑col] 154) = X at *
      have HPX := hid (HP.out X HX.out.1)
      have HCX : Hid (Cel X V.heap.size 154 [Value.string { data := tx.toArray }, Value.bool q, Value.int IntKind.i64 ↑col]) := hid HX.out.2
      clear HX HP
      generalize V.heap.size = gw at *
      have HGl : Hid (∀ x, Below X.heap.size X x → x.cell? ⟨g, 1, none⟩ = some (.int .i64 (line : Int))) := hid (fun x hx => (HPX.out.cel.on hx).cell 1)
      have HCl : Hid (∀ x, Below X.heap.size X x → x.cell? ⟨gw, 2, none⟩ = some (.int .i64 (col : Int))) := hid (fun x hx => (HCX.out.on hx).cell 2)
      refine wp_region_held_drew (S := fun x => Below X.heap.size X x) (by kernel_rfl) ((Below.refl _ _).drew) (fun hHeld => ?_)
      refine wpAnyH_take (i := 0) (oi := { dst := some 31, op := Op.move (Operand.tmp 0), type := 68, pos := "program.go:71", after := #[], guard := none }) (v := .pointer (some ⟨g, 0, none⟩)) rfl (by kernel_rfl) (by kernel_rfl) (by kernel_rfl) (fun _ _ _ h => h) (Or.inl ⟨by rfl, by intro w hSw; go_simp⟩) (by assumption) ?_
      simp only [Act.put, List.setIfInBounds_toArray, List.set_cons_zero, List.set_cons_succ]
      refine wpAnyH_take (i := 1) (oi := { dst := some 32, op := Op.nilCheck (Operand.tmp 31), type := 0, pos := "program.go:71", after := #[{ on := 0, ground := Ground.data }], guard := none }) (v := .pointer (some ⟨g, 0, none⟩)) rfl (by kernel_rfl) (by kernel_rfl) (by kernel_rfl) (fun _ _ _ h => h) (Or.inl ⟨by rfl, by intro w hSw; go_simp⟩) (by assumption) ?_
      simp only [Act.put, List.setIfInBounds_toArray, List.set_cons_zero, List.set_cons_succ]
      refine wpAnyH_take (i := 2) (oi := { dst := some 33, op := Op.fieldAddr 77 (Operand.tmp 32) 1, type := 0, pos := "program.go:71", after := #[{ on := 1, ground := Ground.data }], guard := none }) (v := .pointer (some ⟨g, 1, none⟩)) rfl (by kernel_rfl) (by kernel_rfl) (by kernel_rfl) (fun _ _ _ h => h) (Or.inl ⟨by rfl, by intro w hSw; go_simp⟩) (by assumption) ?_
      simp only [Act.put, List.setIfInBounds_toArray, List.set_cons_zero, List.set_cons_succ]
      refine wpAnyH_take (i := 3) (oi := { dst := some 34, op := Op.load 3 (Operand.tmp 33), type := 3, pos := "program.go:71", after := #[{ on := 2, ground := Ground.data }], guard := none }) (v := .int .i64 (line : Int)) rfl (by kernel_rfl) (by kernel_rfl) (by kernel_rfl) (fun _ _ _ h => h) (Or.inl ⟨by rfl, by intro w hSw; have hcc := HGl.out w hSw; go_simp⟩) (by assumption) ?_
      simp only [Act.put, List.setIfInBounds_toArray, List.set_cons_zero, List.set_cons_succ]
      refine wpAnyH_take (i := 4) (oi := { dst := some 35, op := Op.fieldAddr 154 (Operand.tmp 3) 2, type := 0, pos := "program.go:71", after := #[], guard := none }) (v := .pointer (some ⟨gw, 2, none⟩)) rfl (by kernel_rfl) (by kernel_rfl) (by kernel_rfl) (fun _ _ _ h => h) (Or.inl ⟨by rfl, by intro w hSw; go_simp⟩) (by assumption) ?_
      simp only [Act.put, List.setIfInBounds_toArray, List.set_cons_zero, List.set_cons_succ]
      refine wpAnyH_take (i := 5) (oi := { dst := some 36, op := Op.load 3 (Operand.tmp 35), type := 3, pos := "program.go:71", after := #[{ on := 4, ground := Ground.data }], guard := none }) (v := .int .i64 (col : Int)) rfl (by kernel_rfl) (by kernel_rfl) (by kernel_rfl) (fun _ _ _ h => h) (Or.inl ⟨by rfl, by intro w hSw; have hcc := HCl.out w hSw; go_simp⟩) (by assumption) ?_
      simp only [Act.put, List.setIfInBounds_toArray, List.set_cons_zero, List.set_cons_succ]
      refine wpAnyH_ready (rs := [6]) (by kernel_rfl) (by simp) (AllReadyH.cons (o := { dst := some 37, op := Op.call { callee := Callee.value (Operand.func 38), args := #[Operand.const (Value.int IntKind.i64 63), Operand.tmp 34, Operand.tmp 36], argTypes := #[25, 3, 3] }, type := 70, pos := "program.go:71", after := #[{ on := 3, ground := Ground.data }, { on := 5, ground := Ground.data }], guard := none }) rfl (fun KQ hK => ?_) AllReadyH.nil)
      go_simp
      refine (faultAt_any _ 63 (line : Int) (col : Int)).mono ?_
      rintro e y1 ⟨rfl, rfl⟩
      have HY1 : Hid (Below X.heap.size X X.drew) := hid (Below.refl _ _).drew
      go_wp2_with fail
      refine hK.out _ _ HY1.out (fun hHeld => ?_)
      clear hK KQ
      try simp only [Act.put, List.setIfInBounds_toArray, List.set_cons_zero, List.set_cons_succ]
      refine wpAnyH_ready (rs := [7]) (by kernel_rfl) (by simp) (AllReadyH.cons (o := { dst := some 4, op := Op.assign (Operand.tmp 37), type := 70, pos := "program.go:71", after := #[{ on := 6, ground := Ground.data }, { on := 6, ground := Ground.chain }, { on := 0, ground := Ground.phase }, { on := 1, ground := Ground.phase }, { on := 2, ground := Ground.phase }, { on := 3, ground := Ground.phase }, { on := 4, ground := Ground.phase }, { on := 5, ground := Ground.phase }, { on := 6, ground := Ground.phase }], guard := none }) rfl (fun KQ hK => ?_) AllReadyH.nil)
      go_simp
      refine hK.out _ _ HY1.out (fun hHeld => ?_)
      clear hK KQ
      try simp only [Act.put, List.setIfInBounds_toArray, List.set_cons_zero, List.set_cons_succ]
      refine wpAnyH_done (by kernel_rfl) ?_ _
      clear hHeld
      go_wp2_with fail
      go_ret
      exact ⟨rfl, below_on HPX.out.below HY1.out⟩
    | false =>
      simp only [Bool.false_eq_true, if_false]
      rw [hh] at hlk
      go_enter Tryz.func62, Tryz.ntmps62
      go_wp2_with (first | (go_at_call 86; refine (H86.out _).mono ?_; rintro e w' ⟨rfl, rfl⟩) | (go_at_call 87; refine (H87.out _).mono ?_; rintro e w' ⟨rfl, rfl⟩))
      clear d4 hlk
      have HX : Hid (Below V.heap.size V (V.alloc (Obj.cells #[Value.string { data := tx.toArray }, Value.bool q, Value.int IntKind.i64 ↑col] 154)) ∧ Cel (V.alloc (Obj.cells #[Value.string { data := tx.toArray }, Value.bool q, Value.int IntKind.i64 ↑col] 154)) V.heap.size 154 [Value.string { data := tx.toArray }, Value.bool q, Value.int IntKind.i64 ↑col]) := hid ⟨below_one _ _, Cel.new _ _ _⟩
      generalize V.alloc (Obj.cells #[Value.string { data := tx.toArray }, Value.bool q, Value.int IntKind.i64 ↑col] 154) = X at *
      have HPX := hid (HP.out X HX.out.1)
      have HCX : Hid (Cel X V.heap.size 154 [Value.string { data := tx.toArray }, Value.bool q, Value.int IntKind.i64 ↑col]) := hid HX.out.2
      have HXK : Hid (KT 154 V X) := hid (.of_below HX.out.1)
      clear HX HP
      generalize V.heap.size = gw at *
      have HHS : Hid (S.has st.labs nm = false) := hh
      have hrm := HPX.out.room
      have n1 : (st.ws.length : Int) ≤ 2048 := by omega
      obtain ⟨w1, hrun, hmap1, hturn⟩ := (map_on HPX.out.map (Below.refl _ X).drew).store (by omega) nm hnl hh st.ws.length hrm
      have HC2 : Hid (∀ x, Cel x g 77 (psC base line (.slice aw st.ws.length cw) vl gm vf) → x.cell? ⟨g, 2, none⟩ = some (.slice aw st.ws.length cw)) := hid (fun x hx => hx.cell 2)
      have HC4 : Hid (∀ x, Cel x g 77 (psC base line (.slice aw st.ws.length cw) vl gm vf) → x.cell? ⟨g, 4, none⟩ = some (.map (some gm))) := hid (fun x hx => hx.cell 4)
      have HM1 : Hid (MapIs w1 gm (st.labs ++ [(nm, st.ws.length)]) ∧ X.drew.mapTurned w1 gm) := hid ⟨hmap1, hturn⟩
      have HCD : Hid (Cel X.drew g 77 (psC base line (.slice aw st.ws.length cw) vl gm vf)) := hid HPX.out.cel
      have HC1 : Hid (Cel w1 g 77 (psC base line (.slice aw st.ws.length cw) vl gm vf)) := hid (HCD.out.kt (KT.turned hturn))
      clear hmap1 hturn hh hrm
      refine wp_region_held_drew (S := fun x => Cel x g 77 (psC base line (.slice aw st.ws.length cw) vl gm vf)) (by kernel_rfl) HCD.out (fun hHeld => ?_)
      refine wpAnyH_take (i := 0) (oi := { dst := some 38, op := Op.move (Operand.tmp 0), type := 68, pos := "program.go:73", after := #[], guard := none }) (v := .pointer (some ⟨g, 0, none⟩)) rfl (by kernel_rfl) (by kernel_rfl) (by kernel_rfl) (fun _ _ _ h => h) (Or.inl ⟨by rfl, by intro w hSw; go_simp⟩) (by assumption) ?_
      simp only [Act.put, List.setIfInBounds_toArray, List.set_cons_zero, List.set_cons_succ]
      refine wpAnyH_take (i := 1) (oi := { dst := some 39, op := Op.nilCheck (Operand.tmp 38), type := 0, pos := "program.go:73", after := #[{ on := 0, ground := Ground.data }], guard := none }) (v := .pointer (some ⟨g, 0, none⟩)) rfl (by kernel_rfl) (by kernel_rfl) (by kernel_rfl) (fun _ _ _ h => h) (Or.inl ⟨by rfl, by intro w hSw; go_simp⟩) (by assumption) ?_
      simp only [Act.put, List.setIfInBounds_toArray, List.set_cons_zero, List.set_cons_succ]
      refine wpAnyH_take (i := 2) (oi := { dst := some 40, op := Op.fieldAddr 77 (Operand.tmp 39) 4, type := 0, pos := "program.go:73", after := #[{ on := 1, ground := Ground.data }], guard := none }) (v := .pointer (some ⟨g, 4, none⟩)) rfl (by kernel_rfl) (by kernel_rfl) (by kernel_rfl) (fun _ _ _ h => h) (Or.inl ⟨by rfl, by intro w hSw; go_simp⟩) (by assumption) ?_
      simp only [Act.put, List.setIfInBounds_toArray, List.set_cons_zero, List.set_cons_succ]
      refine wpAnyH_take (i := 3) (oi := { dst := some 41, op := Op.load 74 (Operand.tmp 40), type := 74, pos := "program.go:73", after := #[{ on := 2, ground := Ground.data }], guard := none }) (v := .map (some gm)) rfl (by kernel_rfl) (by kernel_rfl) (by kernel_rfl) (fun _ _ _ h => h) (Or.inl ⟨by rfl, by intro w hSw; have hcc := HC4.out w hSw; go_simp⟩) (by assumption) ?_
      simp only [Act.put, List.setIfInBounds_toArray, List.set_cons_zero, List.set_cons_succ]
      refine wpAnyH_take (i := 4) (oi := { dst := some 42, op := Op.move (Operand.tmp 5), type := 9, pos := "program.go:73", after := #[], guard := none }) (v := .string ⟨nm.toArray⟩) rfl (by kernel_rfl) (by kernel_rfl) (by kernel_rfl) (fun _ _ _ h => h) (Or.inl ⟨by rfl, by intro w hSw; go_simp⟩) (by assumption) ?_
      simp only [Act.put, List.setIfInBounds_toArray, List.set_cons_zero, List.set_cons_succ]
      refine wpAnyH_take (i := 5) (oi := { dst := some 43, op := Op.move (Operand.tmp 0), type := 68, pos := "program.go:73", after := #[], guard := none }) (v := .pointer (some ⟨g, 0, none⟩)) rfl (by kernel_rfl) (by kernel_rfl) (by kernel_rfl) (fun _ _ _ h => h) (Or.inl ⟨by rfl, by intro w hSw; go_simp⟩) (by assumption) ?_
      simp only [Act.put, List.setIfInBounds_toArray, List.set_cons_zero, List.set_cons_succ]
      refine wpAnyH_take (i := 6) (oi := { dst := some 44, op := Op.nilCheck (Operand.tmp 43), type := 0, pos := "program.go:73", after := #[{ on := 5, ground := Ground.data }], guard := none }) (v := .pointer (some ⟨g, 0, none⟩)) rfl (by kernel_rfl) (by kernel_rfl) (by kernel_rfl) (fun _ _ _ h => h) (Or.inl ⟨by rfl, by intro w hSw; go_simp⟩) (by assumption) ?_
      simp only [Act.put, List.setIfInBounds_toArray, List.set_cons_zero, List.set_cons_succ]
      refine wpAnyH_take (i := 7) (oi := { dst := some 45, op := Op.fieldAddr 77 (Operand.tmp 44) 2, type := 0, pos := "program.go:73", after := #[{ on := 6, ground := Ground.data }], guard := none }) (v := .pointer (some ⟨g, 2, none⟩)) rfl (by kernel_rfl) (by kernel_rfl) (by kernel_rfl) (fun _ _ _ h => h) (Or.inl ⟨by rfl, by intro w hSw; go_simp⟩) (by assumption) ?_
      simp only [Act.put, List.setIfInBounds_toArray, List.set_cons_zero, List.set_cons_succ]
      refine wpAnyH_take (i := 8) (oi := { dst := some 46, op := Op.load 24 (Operand.tmp 45), type := 24, pos := "program.go:73", after := #[{ on := 7, ground := Ground.data }], guard := none }) (v := .slice aw st.ws.length cw) rfl (by kernel_rfl) (by kernel_rfl) (by kernel_rfl) (fun _ _ _ h => h) (Or.inl ⟨by rfl, by intro w hSw; have hcc := HC2.out w hSw; go_simp⟩) (by assumption) ?_
      simp only [Act.put, List.setIfInBounds_toArray, List.set_cons_zero, List.set_cons_succ]
      refine wpAnyH_take (i := 9) (oi := { dst := some 47, op := Op.call { callee := Callee.builtin Builtin.len, args := #[Operand.tmp 46], argTypes := #[24] }, type := 3, pos := "program.go:73", after := #[{ on := 8, ground := Ground.data }], guard := none }) (v := .int .i64 (st.ws.length : Int)) rfl (by kernel_rfl) (by kernel_rfl) (by kernel_rfl) (fun _ _ _ h => h) (Or.inl ⟨by rfl, by intro w hSw; go_simp⟩) (by assumption) ?_
      simp only [Act.put, List.setIfInBounds_toArray, List.set_cons_zero, List.set_cons_succ]
      refine wpAnyH_ready (rs := [10]) (by kernel_rfl) (by simp) (AllReadyH.cons (o := { dst := none, op := Op.mapUpdate 74 (Operand.tmp 41) (Operand.tmp 42) (Operand.tmp 47), type := 0, pos := "program.go:73", after := #[{ on := 3, ground := Ground.data }, { on := 4, ground := Ground.data }, { on := 9, ground := Ground.data }, { on := 0, ground := Ground.phase }, { on := 1, ground := Ground.phase }, { on := 2, ground := Ground.phase }, { on := 3, ground := Ground.phase }, { on := 4, ground := Ground.phase }, { on := 5, ground := Ground.phase }, { on := 6, ground := Ground.phase }, { on := 7, ground := Ground.phase }, { on := 8, ground := Ground.phase }, { on := 9, ground := Ground.phase }], guard := none }) rfl (fun KQ hK => ?_) AllReadyH.nil)
      rw [if_pos (by rfl)]
      refine wp_mapUpdate 74 _ _ _ rfl _ _ _ rfl rfl rfl hrun ?_
      refine hK.out _ _ HC1.out (fun hHeld => ?_)
      clear hK KQ
      try simp only [Act.put]
      refine wpAnyH_done (by kernel_rfl) ?_ _
      clear hHeld hrun
      go_wp2_with fail
      have HCY : Hid (Cel w1.drew g 77 (psC base line (.slice aw st.ws.length cw) vl gm vf)) := hid HC1.out
      have HOY : Hid (w1.drew.ownsRow W.heap.size 43 2 vl st.labs.length (labsC st.labs)) := hid (show w1.ownsRow W.heap.size 43 2 vl st.labs.length (labsC st.labs) from own_kt (HPX.out.on (Below.refl _ _).drew).lb (KT.turned HM1.out.2))
      have HBY : Hid (Below w1.heap.size w1 w1.drew ∧ Below W.heap.size W w1.drew) := hid ⟨(Below.refl _ _).drew, ((HPX.out.on (Below.refl _ _).drew).below.grown HM1.out.2.grown (HPX.out.on (Below.refl _ _).drew).below.size (fun g' hg' => by injection hg' with hg'; rw [← hg']; exact HPX.out.hm)).drew⟩
      refine wp_region_held_drew (S := fun x => x.cell? ⟨g, 2, none⟩ = some (.slice aw st.ws.length cw)) (by kernel_rfl) (HC2.out _ HCY.out) (fun hHeld => ?_)
      refine wpAnyH_take (i := 0) (oi := { dst := some 48, op := Op.move (Operand.tmp 0), type := 68, pos := "program.go:74", after := #[], guard := none }) (v := .pointer (some ⟨g, 0, none⟩)) rfl (by kernel_rfl) (by kernel_rfl) (by kernel_rfl) (fun _ _ _ h => h) (Or.inl ⟨by rfl, by intro w hSw; go_simp⟩) (by assumption) ?_
      simp only [Act.put, List.setIfInBounds_toArray, List.set_cons_zero, List.set_cons_succ]
      refine wpAnyH_take (i := 1) (oi := { dst := some 49, op := Op.move (Operand.tmp 0), type := 68, pos := "program.go:74", after := #[], guard := none }) (v := .pointer (some ⟨g, 0, none⟩)) rfl (by kernel_rfl) (by kernel_rfl) (by kernel_rfl) (fun _ _ _ h => h) (Or.inl ⟨by rfl, by intro w hSw; go_simp⟩) (by assumption) ?_
      simp only [Act.put, List.setIfInBounds_toArray, List.set_cons_zero, List.set_cons_succ]
      refine wpAnyH_take (i := 2) (oi := { dst := some 50, op := Op.nilCheck (Operand.tmp 49), type := 0, pos := "program.go:74", after := #[{ on := 1, ground := Ground.data }], guard := none }) (v := .pointer (some ⟨g, 0, none⟩)) rfl (by kernel_rfl) (by kernel_rfl) (by kernel_rfl) (fun _ _ _ h => h) (Or.inl ⟨by rfl, by intro w hSw; go_simp⟩) (by assumption) ?_
      simp only [Act.put, List.setIfInBounds_toArray, List.set_cons_zero, List.set_cons_succ]
      refine wpAnyH_take (i := 3) (oi := { dst := some 51, op := Op.fieldAddr 77 (Operand.tmp 50) 3, type := 0, pos := "program.go:74", after := #[{ on := 2, ground := Ground.data }], guard := none }) (v := .pointer (some ⟨g, 3, none⟩)) rfl (by kernel_rfl) (by kernel_rfl) (by kernel_rfl) (fun _ _ _ h => h) (Or.inl ⟨by rfl, by intro w hSw; go_simp⟩) (by assumption) ?_
      simp only [Act.put, List.setIfInBounds_toArray, List.set_cons_zero, List.set_cons_succ]
      refine wpAnyH_take (i := 5) (oi := { dst := some 53, op := Op.move (Operand.tmp 5), type := 9, pos := "program.go:74", after := #[], guard := none }) (v := .string ⟨nm.toArray⟩) rfl (by kernel_rfl) (by kernel_rfl) (by kernel_rfl) (fun _ _ _ h => h) (Or.inl ⟨by rfl, by intro w hSw; go_simp⟩) (by assumption) ?_
      simp only [Act.put, List.setIfInBounds_toArray, List.set_cons_zero, List.set_cons_succ]
      refine wpAnyH_take (i := 6) (oi := { dst := some 54, op := Op.move (Operand.tmp 0), type := 68, pos := "program.go:74", after := #[], guard := none }) (v := .pointer (some ⟨g, 0, none⟩)) rfl (by kernel_rfl) (by kernel_rfl) (by kernel_rfl) (fun _ _ _ h => h) (Or.inl ⟨by rfl, by intro w hSw; go_simp⟩) (by assumption) ?_
      simp only [Act.put, List.setIfInBounds_toArray, List.set_cons_zero, List.set_cons_succ]
      refine wpAnyH_take (i := 7) (oi := { dst := some 55, op := Op.nilCheck (Operand.tmp 54), type := 0, pos := "program.go:74", after := #[{ on := 6, ground := Ground.data }], guard := none }) (v := .pointer (some ⟨g, 0, none⟩)) rfl (by kernel_rfl) (by kernel_rfl) (by kernel_rfl) (fun _ _ _ h => h) (Or.inl ⟨by rfl, by intro w hSw; go_simp⟩) (by assumption) ?_
      simp only [Act.put, List.setIfInBounds_toArray, List.set_cons_zero, List.set_cons_succ]
      refine wpAnyH_take (i := 8) (oi := { dst := some 56, op := Op.fieldAddr 77 (Operand.tmp 55) 2, type := 0, pos := "program.go:74", after := #[{ on := 7, ground := Ground.data }], guard := none }) (v := .pointer (some ⟨g, 2, none⟩)) rfl (by kernel_rfl) (by kernel_rfl) (by kernel_rfl) (fun _ _ _ h => h) (Or.inl ⟨by rfl, by intro w hSw; go_simp⟩) (by assumption) ?_
      simp only [Act.put, List.setIfInBounds_toArray, List.set_cons_zero, List.set_cons_succ]
      refine wpAnyH_take (i := 9) (oi := { dst := some 57, op := Op.load 24 (Operand.tmp 56), type := 24, pos := "program.go:74", after := #[{ on := 8, ground := Ground.data }], guard := none }) (v := .slice aw st.ws.length cw) rfl (by kernel_rfl) (by kernel_rfl) (by kernel_rfl) (fun _ _ _ h => h) (Or.inl ⟨by rfl, by intro w hSw; go_simp⟩) (by assumption) ?_
      simp only [Act.put, List.setIfInBounds_toArray, List.set_cons_zero, List.set_cons_succ]
      refine wpAnyH_take (i := 10) (oi := { dst := some 58, op := Op.call { callee := Callee.builtin Builtin.len, args := #[Operand.tmp 57], argTypes := #[24] }, type := 3, pos := "program.go:74", after := #[{ on := 9, ground := Ground.data }], guard := none }) (v := .int .i64 (st.ws.length : Int)) rfl (by kernel_rfl) (by kernel_rfl) (by kernel_rfl) (fun _ _ _ h => h) (Or.inl ⟨by rfl, by intro w hSw; go_simp⟩) (by assumption) ?_
      simp only [Act.put, List.setIfInBounds_toArray, List.set_cons_zero, List.set_cons_succ]
      refine wpAnyH_take (i := 11) (oi := { dst := some 59, op := Op.build 43 #[(0, Operand.tmp 53), (1, Operand.tmp 58)], type := 43, pos := "program.go:74", after := #[{ on := 5, ground := Ground.data }, { on := 10, ground := Ground.data }], guard := none }) (v := .agg #[.string ⟨nm.toArray⟩, .int .i64 (st.ws.length : Int)]) rfl (by kernel_rfl) (by kernel_rfl) (by kernel_rfl) (fun _ _ _ h => h) (Or.inl ⟨by rfl, by intro w hSw; go_simp⟩) (by assumption) ?_
      simp only [Act.put, List.setIfInBounds_toArray, List.set_cons_zero, List.set_cons_succ]
      generalize w1.drew = Y at *
      refine wpAnyH_ready (rs := [4, 12]) (by kernel_rfl) (by simp) (AllReadyH.cons (o := { dst := some 52, op := Op.load 39 (Operand.tmp 51), type := 39, pos := "program.go:74", after := #[{ on := 3, ground := Ground.data }], guard := none }) rfl (fun KQ hK => ?_) (AllReadyH.cons (o := { dst := some 60, op := Op.buildSlice 39 1 #[(0, Operand.tmp 59)], type := 39, pos := "program.go:74", after := #[{ on := 11, ground := Ground.data }], guard := none }) rfl (fun KQ hK => ?_) AllReadyH.nil))
      · have hcc3 : Y.cell? ⟨g, 3, none⟩ = some vl := HCY.out.cell 3; go_simp; clear hcc3
        refine hK.out _ _ (HC2.out _ HCY.out) (fun hHeld => ?_)
        clear hK KQ
        try simp only [Act.put, List.setIfInBounds_toArray, List.set_cons_zero, List.set_cons_succ]
        refine wpAnyH_ready (rs := [12]) (by kernel_rfl) (by simp) (AllReadyH.cons (o := { dst := some 60, op := Op.buildSlice 39 1 #[(0, Operand.tmp 59)], type := 39, pos := "program.go:74", after := #[{ on := 11, ground := Ground.data }], guard := none }) rfl (fun KQ hK => ?_) AllReadyH.nil)
        go_simp
        have HCb : Hid (Cel (Y.alloc (Obj.cells #[Value.string ⟨nm.toArray⟩, Value.int .i64 (st.ws.length : Int)] 43)) g 77 (psC base line (.slice aw st.ws.length cw) vl gm vf)) := hid (HCY.out.on (below_one _ _))
        have HOb : Hid ((Y.alloc (Obj.cells #[Value.string ⟨nm.toArray⟩, Value.int .i64 (st.ws.length : Int)] 43)).ownsRow W.heap.size 43 2 vl st.labs.length (labsC st.labs)) := hid (own_below HOY.out (below_one _ _))
        have HNb : Hid (∀ j u, (labC (nm, st.ws.length))[j]? = some u → (Y.alloc (Obj.cells #[Value.string ⟨nm.toArray⟩, Value.int .i64 (st.ws.length : Int)] 43)).cell? ((⟨Y.heap.size, 0, none⟩ : Addr).add j) = some u) := hid (cells_new2 _ _ _ _ rfl)
        have HBb : Hid (Below w1.heap.size w1 (Y.alloc (Obj.cells #[Value.string ⟨nm.toArray⟩, Value.int .i64 (st.ws.length : Int)] 43)) ∧ Below W.heap.size W (Y.alloc (Obj.cells #[Value.string ⟨nm.toArray⟩, Value.int .i64 (st.ws.length : Int)] 43))) := hid ⟨below_on HBY.out.1 (below_one _ _), below_on HBY.out.2 (below_one _ _)⟩
        refine hK.out _ _ (HC2.out _ HCb.out) (fun hHeld => ?_)
        clear hK KQ
        try simp only [Act.put, List.setIfInBounds_toArray, List.set_cons_zero, List.set_cons_succ]
        generalize Y.alloc (Obj.cells #[Value.string ⟨nm.toArray⟩, Value.int .i64 (st.ws.length : Int)] 43) = wb at *
        generalize Y.heap.size = gs at *
        refine wpAnyH_ready (rs := [13]) (by kernel_rfl) (by simp) (AllReadyH.cons (o := { dst := some 61, op := Op.call { callee := Callee.builtin Builtin.append, args := #[Operand.tmp 52, Operand.tmp 60], argTypes := #[39, 39] }, type := 39, pos := "program.go:74", after := #[{ on := 4, ground := Ground.data }, { on := 12, ground := Ground.data }], guard := none }) rfl (fun KQ hK => ?_) AllReadyH.nil)
        rw [if_pos (by rfl)]
        refine wp_append_labs _ _ 39 rfl i0 Tryz.underlying39 hi hz0 hz1 hz2 W.heap.size HBb.out.2.size vl st.labs rfl HOb.out _ _ (nm, st.ws.length) rfl HNb.out (by omega) ?_
        intro v6 w6 ho6 hg6
        obtain ⟨a6, c6, rfl⟩ := own_form ho6
        have HC6 : Hid (Cel w6 g 77 (psC base line (.slice aw st.ws.length cw) vl gm vf)) := hid (HCb.out.kt (KT.grown HOb.out hg6 (by decide)))
        have H66 : Hid (w6.ownsRow W.heap.size 43 2 (.slice a6 (st.labs.length + 1) c6) (st.labs.length + 1) (labsC (st.labs ++ [(nm, st.ws.length)])) ∧ wb.grownBy w6 vl.ownBlock) := hid ⟨ho6, hg6⟩
        clear ho6 hg6
        refine hK.out _ _ (HC2.out _ HC6.out) (fun hHeld => ?_)
        clear hK KQ
        try simp only [Act.put, List.setIfInBounds_toArray, List.set_cons_zero, List.set_cons_succ]
        refine wpAnyH_take (i := 14) (oi := { dst := some 62, op := Op.nilCheck (Operand.tmp 48), type := 0, pos := "program.go:74", after := #[{ on := 0, ground := Ground.data }, { on := 0, ground := Ground.phase }, { on := 1, ground := Ground.phase }, { on := 2, ground := Ground.phase }, { on := 3, ground := Ground.phase }, { on := 4, ground := Ground.phase }, { on := 5, ground := Ground.phase }, { on := 6, ground := Ground.phase }, { on := 7, ground := Ground.phase }, { on := 8, ground := Ground.phase }, { on := 9, ground := Ground.phase }, { on := 10, ground := Ground.phase }, { on := 11, ground := Ground.phase }, { on := 12, ground := Ground.phase }, { on := 13, ground := Ground.phase }], guard := none }) (v := .pointer (some ⟨g, 0, none⟩)) rfl (by kernel_rfl) (by kernel_rfl) (by kernel_rfl) (fun _ _ _ h => h) (Or.inl ⟨by rfl, by intro w hSw; go_simp⟩) (by assumption) ?_
        simp only [Act.put, List.setIfInBounds_toArray, List.set_cons_zero, List.set_cons_succ]
        refine wpAnyH_take (i := 15) (oi := { dst := some 63, op := Op.fieldAddr 77 (Operand.tmp 62) 3, type := 0, pos := "program.go:74", after := #[{ on := 14, ground := Ground.data }, { on := 0, ground := Ground.phase }, { on := 1, ground := Ground.phase }, { on := 2, ground := Ground.phase }, { on := 3, ground := Ground.phase }, { on := 4, ground := Ground.phase }, { on := 5, ground := Ground.phase }, { on := 6, ground := Ground.phase }, { on := 7, ground := Ground.phase }, { on := 8, ground := Ground.phase }, { on := 9, ground := Ground.phase }, { on := 10, ground := Ground.phase }, { on := 11, ground := Ground.phase }, { on := 12, ground := Ground.phase }, { on := 13, ground := Ground.phase }], guard := none }) (v := .pointer (some ⟨g, 3, none⟩)) rfl (by kernel_rfl) (by kernel_rfl) (by kernel_rfl) (fun _ _ _ h => h) (Or.inl ⟨by rfl, by intro w hSw; go_simp⟩) (by assumption) ?_
        simp only [Act.put, List.setIfInBounds_toArray, List.set_cons_zero, List.set_cons_succ]
        refine wpAnyH_ready (rs := [16]) (by kernel_rfl) (by simp) (AllReadyH.cons (o := { dst := none, op := Op.store 39 (Operand.tmp 63) (Operand.tmp 61), type := 0, pos := "program.go:74", after := #[{ on := 15, ground := Ground.data }, { on := 13, ground := Ground.data }, { on := 13, ground := Ground.chain }, { on := 0, ground := Ground.phase }, { on := 1, ground := Ground.phase }, { on := 2, ground := Ground.phase }, { on := 3, ground := Ground.phase }, { on := 4, ground := Ground.phase }, { on := 5, ground := Ground.phase }, { on := 6, ground := Ground.phase }, { on := 7, ground := Ground.phase }, { on := 8, ground := Ground.phase }, { on := 9, ground := Ground.phase }, { on := 10, ground := Ground.phase }, { on := 11, ground := Ground.phase }, { on := 12, ground := Ground.phase }, { on := 13, ground := Ground.phase }], guard := none }) rfl (fun KQ hK => ?_) AllReadyH.nil)
        have hcs : w6.cell? ⟨g, 3, none⟩ = some vl := HC6.out.cell 3; have hcf := HC6.out.free 3; go_simp; clear hcs hcf
        refine hK.out _ _ ((HC6.out.setCell 3 (.slice a6 (st.labs.length + 1) c6)).cell 2) (fun hHeld => ?_)
        clear hK KQ
        try simp only [Act.put]
        refine wpAnyH_done (by kernel_rfl) ?_ _
        clear hHeld
        have HF : Hid (PS W (w6.setCell ⟨g, 3, none⟩ (.slice a6 (st.labs.length + 1) c6)) g gm base line { st with labs := st.labs ++ [(nm, st.ws.length)] } fs (.slice aw st.ws.length cw) (.slice a6 (st.labs.length + 1) c6) vf) := hid ((HPX.out.on (Below.refl _ _).drew).label (w1 := w1) (w2 := wb) (nm, st.ws.length) HPX.out.room HM1.out.1 HM1.out.2 HBb.out.1 H66.out.1 H66.out.2)
        have HFK : Hid (KT 154 V (w6.setCell ⟨g, 3, none⟩ (.slice a6 (st.labs.length + 1) c6))) := hid (KT.trans HXK.out (KT.trans (show KT 154 X w1 from KT.turned (w := X.drew) HM1.out.2) (KT.trans (.of_below HBb.out.1) (KT.trans (KT.grown HOb.out H66.out.2 (by decide)) (KT.setCell HC6.out (by decide) 3 _)))))
        generalize w6.setCell ⟨g, 3, none⟩ (.slice a6 (st.labs.length + 1) c6) = w7 at *
        go_wp2_with fail
        go_ret
        exact ⟨rfl, HFK.out, _, _, _, HF.out⟩
      · go_simp
        have HCb : Hid (Cel (Y.alloc (Obj.cells #[Value.string ⟨nm.toArray⟩, Value.int .i64 (st.ws.length : Int)] 43)) g 77 (psC base line (.slice aw st.ws.length cw) vl gm vf)) := hid (HCY.out.on (below_one _ _))
        have HOb : Hid ((Y.alloc (Obj.cells #[Value.string ⟨nm.toArray⟩, Value.int .i64 (st.ws.length : Int)] 43)).ownsRow W.heap.size 43 2 vl st.labs.length (labsC st.labs)) := hid (own_below HOY.out (below_one _ _))
        have HNb : Hid (∀ j u, (labC (nm, st.ws.length))[j]? = some u → (Y.alloc (Obj.cells #[Value.string ⟨nm.toArray⟩, Value.int .i64 (st.ws.length : Int)] 43)).cell? ((⟨Y.heap.size, 0, none⟩ : Addr).add j) = some u) := hid (cells_new2 _ _ _ _ rfl)
        have HBb : Hid (Below w1.heap.size w1 (Y.alloc (Obj.cells #[Value.string ⟨nm.toArray⟩, Value.int .i64 (st.ws.length : Int)] 43)) ∧ Below W.heap.size W (Y.alloc (Obj.cells #[Value.string ⟨nm.toArray⟩, Value.int .i64 (st.ws.length : Int)] 43))) := hid ⟨below_on HBY.out.1 (below_one _ _), below_on HBY.out.2 (below_one _ _)⟩
        refine hK.out _ _ (HC2.out _ HCb.out) (fun hHeld => ?_)
        clear hK KQ
        try simp only [Act.put, List.setIfInBounds_toArray, List.set_cons_zero, List.set_cons_succ]
        generalize Y.alloc (Obj.cells #[Value.string ⟨nm.toArray⟩, Value.int .i64 (st.ws.length : Int)] 43) = wb at *
        generalize Y.heap.size = gs at *
        refine wpAnyH_ready (rs := [4]) (by kernel_rfl) (by simp) (AllReadyH.cons (o := { dst := some 52, op := Op.load 39 (Operand.tmp 51), type := 39, pos := "program.go:74", after := #[{ on := 3, ground := Ground.data }], guard := none }) rfl (fun KQ hK => ?_) AllReadyH.nil)
        have hcc3 : wb.cell? ⟨g, 3, none⟩ = some vl := HCb.out.cell 3; go_simp; clear hcc3
        refine hK.out _ _ (HC2.out _ HCb.out) (fun hHeld => ?_)
        clear hK KQ
        try simp only [Act.put, List.setIfInBounds_toArray, List.set_cons_zero, List.set_cons_succ]
        refine wpAnyH_ready (rs := [13]) (by kernel_rfl) (by simp) (AllReadyH.cons (o := { dst := some 61, op := Op.call { callee := Callee.builtin Builtin.append, args := #[Operand.tmp 52, Operand.tmp 60], argTypes := #[39, 39] }, type := 39, pos := "program.go:74", after := #[{ on := 4, ground := Ground.data }, { on := 12, ground := Ground.data }], guard := none }) rfl (fun KQ hK => ?_) AllReadyH.nil)
        rw [if_pos (by rfl)]
        refine wp_append_labs _ _ 39 rfl i0 Tryz.underlying39 hi hz0 hz1 hz2 W.heap.size HBb.out.2.size vl st.labs rfl HOb.out _ _ (nm, st.ws.length) rfl HNb.out (by omega) ?_
        intro v6 w6 ho6 hg6
        obtain ⟨a6, c6, rfl⟩ := own_form ho6
        have HC6 : Hid (Cel w6 g 77 (psC base line (.slice aw st.ws.length cw) vl gm vf)) := hid (HCb.out.kt (KT.grown HOb.out hg6 (by decide)))
        have H66 : Hid (w6.ownsRow W.heap.size 43 2 (.slice a6 (st.labs.length + 1) c6) (st.labs.length + 1) (labsC (st.labs ++ [(nm, st.ws.length)])) ∧ wb.grownBy w6 vl.ownBlock) := hid ⟨ho6, hg6⟩
        clear ho6 hg6
        refine hK.out _ _ (HC2.out _ HC6.out) (fun hHeld => ?_)
        clear hK KQ
        try simp only [Act.put, List.setIfInBounds_toArray, List.set_cons_zero, List.set_cons_succ]
        refine wpAnyH_take (i := 14) (oi := { dst := some 62, op := Op.nilCheck (Operand.tmp 48), type := 0, pos := "program.go:74", after := #[{ on := 0, ground := Ground.data }, { on := 0, ground := Ground.phase }, { on := 1, ground := Ground.phase }, { on := 2, ground := Ground.phase }, { on := 3, ground := Ground.phase }, { on := 4, ground := Ground.phase }, { on := 5, ground := Ground.phase }, { on := 6, ground := Ground.phase }, { on := 7, ground := Ground.phase }, { on := 8, ground := Ground.phase }, { on := 9, ground := Ground.phase }, { on := 10, ground := Ground.phase }, { on := 11, ground := Ground.phase }, { on := 12, ground := Ground.phase }, { on := 13, ground := Ground.phase }], guard := none }) (v := .pointer (some ⟨g, 0, none⟩)) rfl (by kernel_rfl) (by kernel_rfl) (by kernel_rfl) (fun _ _ _ h => h) (Or.inl ⟨by rfl, by intro w hSw; go_simp⟩) (by assumption) ?_
        simp only [Act.put, List.setIfInBounds_toArray, List.set_cons_zero, List.set_cons_succ]
        refine wpAnyH_take (i := 15) (oi := { dst := some 63, op := Op.fieldAddr 77 (Operand.tmp 62) 3, type := 0, pos := "program.go:74", after := #[{ on := 14, ground := Ground.data }, { on := 0, ground := Ground.phase }, { on := 1, ground := Ground.phase }, { on := 2, ground := Ground.phase }, { on := 3, ground := Ground.phase }, { on := 4, ground := Ground.phase }, { on := 5, ground := Ground.phase }, { on := 6, ground := Ground.phase }, { on := 7, ground := Ground.phase }, { on := 8, ground := Ground.phase }, { on := 9, ground := Ground.phase }, { on := 10, ground := Ground.phase }, { on := 11, ground := Ground.phase }, { on := 12, ground := Ground.phase }, { on := 13, ground := Ground.phase }], guard := none }) (v := .pointer (some ⟨g, 3, none⟩)) rfl (by kernel_rfl) (by kernel_rfl) (by kernel_rfl) (fun _ _ _ h => h) (Or.inl ⟨by rfl, by intro w hSw; go_simp⟩) (by assumption) ?_
        simp only [Act.put, List.setIfInBounds_toArray, List.set_cons_zero, List.set_cons_succ]
        refine wpAnyH_ready (rs := [16]) (by kernel_rfl) (by simp) (AllReadyH.cons (o := { dst := none, op := Op.store 39 (Operand.tmp 63) (Operand.tmp 61), type := 0, pos := "program.go:74", after := #[{ on := 15, ground := Ground.data }, { on := 13, ground := Ground.data }, { on := 13, ground := Ground.chain }, { on := 0, ground := Ground.phase }, { on := 1, ground := Ground.phase }, { on := 2, ground := Ground.phase }, { on := 3, ground := Ground.phase }, { on := 4, ground := Ground.phase }, { on := 5, ground := Ground.phase }, { on := 6, ground := Ground.phase }, { on := 7, ground := Ground.phase }, { on := 8, ground := Ground.phase }, { on := 9, ground := Ground.phase }, { on := 10, ground := Ground.phase }, { on := 11, ground := Ground.phase }, { on := 12, ground := Ground.phase }, { on := 13, ground := Ground.phase }], guard := none }) rfl (fun KQ hK => ?_) AllReadyH.nil)
        have hcs : w6.cell? ⟨g, 3, none⟩ = some vl := HC6.out.cell 3; have hcf := HC6.out.free 3; go_simp; clear hcs hcf
        refine hK.out _ _ ((HC6.out.setCell 3 (.slice a6 (st.labs.length + 1) c6)).cell 2) (fun hHeld => ?_)
        clear hK KQ
        try simp only [Act.put]
        refine wpAnyH_done (by kernel_rfl) ?_ _
        clear hHeld
        have HF : Hid (PS W (w6.setCell ⟨g, 3, none⟩ (.slice a6 (st.labs.length + 1) c6)) g gm base line { st with labs := st.labs ++ [(nm, st.ws.length)] } fs (.slice aw st.ws.length cw) (.slice a6 (st.labs.length + 1) c6) vf) := hid ((HPX.out.on (Below.refl _ _).drew).label (w1 := w1) (w2 := wb) (nm, st.ws.length) HPX.out.room HM1.out.1 HM1.out.2 HBb.out.1 H66.out.1 H66.out.2)
        have HFK : Hid (KT 154 V (w6.setCell ⟨g, 3, none⟩ (.slice a6 (st.labs.length + 1) c6))) := hid (KT.trans HXK.out (KT.trans (show KT 154 X w1 from KT.turned (w := X.drew) HM1.out.2) (KT.trans (.of_below HBb.out.1) (KT.trans (KT.grown HOb.out H66.out.2 (by decide)) (KT.setCell HC6.out (by decide) 3 _)))))
        generalize w6.setCell ⟨g, 3, none⟩ (.slice a6 (st.labs.length + 1) c6) = w7 at *
        go_wp2_with fail
        go_ret
        exact ⟨rfl, HFK.out, _, _, _, HF.out⟩
end Go.Proofs.YtncnogndopgknaaGreatDoor
