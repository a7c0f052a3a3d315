import Derived.Test.YtbpdmkohihgnjaaGreatDoorP06
import Derived.ArgAppend
namespace Go.Proofs.YtbpdmkohihgnjaaGreatDoor
open Go.RowKit

def Cel (w : World) (g : Nat) (t : TypeId) (cs : List Value) : Prop := w.heap[g]? = some (.cells cs.toArray t (0, 0))
theorem Cel.lt {w : World} {g : Nat} {t : TypeId} {cs : List Value} (h : Cel w g t cs) : g < w.heap.size := (Array.getElem?_eq_some_iff.1 h).1
theorem Cel.but {w w' : World} {g i : Nat} {t : TypeId} {cs : List Value} (h : Cel w i t cs) (hb : But g w w') (hi : i ≠ g) : Cel w' i t cs := (hb.block i h.lt hi).trans h
theorem Cel.below {w w' : World} {B g : Nat} {t : TypeId} {cs : List Value} (h : Cel w g t cs) (hb : Below B w w') (hg : g < B) : Cel w' g t cs := (hb.block g hg).trans h
theorem Cel.cell {w : World} {g : Nat} {t : TypeId} {cs : List Value} (h : Cel w g t cs) (j : Nat) : w.cell? ⟨g, j, none⟩ = cs[j]? := by
  rw [cell_of_row w g j _ t (0, 0) h]; simp
theorem Cel.free {w : World} {g : Nat} {t : TypeId} {cs : List Value} (h : Cel w g t cs) (j : Nat) : w.frozen? ⟨g, j, none⟩ = false := frozen_of_row w g j _ t h

theorem run_storeVar_part {P : Program} (w : World) (g off : Nat) (ty e : TypeId) (L' : List Int) {cs : List Value} (hg : Cel w g e cs) (hi : (P.info? ty).map (·.size) = some L'.length) (hl : off + L'.length ≤ cs.length) :
    (storeVar ty ⟨g, off, none⟩ (Ag L')).run P w = .ok () (w.setRow g (splice cs off (L'.map (Value.int .u32))).toArray) := by
  have := run_storeCells_at P g off e (L'.map (Value.int .u32)) 0 _ w hg (by simpa using hl) (ints_oneCell .u32 L')
  cases hq : P.info? ty with
  | none => simp [hq] at hi
  | some i =>
    have hs : L'.length = i.size := by simp [hq] at hi; omega
    simp [storeVar, Ag, sizeOf, typeInfo, hq, Value.cells, hs, this, splice]
theorem wpList_store_part {P : Program} {ops : Array Oper} {rest : List Oper} {o : Oper} {a : Act} {w : World} {Q : Exit → Act → World → Prop} (hgd : o.guard = none) (ty : TypeId) (x y : Operand) (ho : o.op = .store ty x y)
    (g off : Nat) (L' : List Int) (hx : a.eval x = .pointer (some ⟨g, off, none⟩)) (hy : a.eval y = Ag L') {e : TypeId} {cs : List Value} (hg : Cel w g e cs) (hi : (P.info? ty).map (·.size) = some L'.length) (hl : off + L'.length ≤ cs.length)
    (h : ∀ w', Cel w' g e (splice cs off (L'.map (Value.int .u32))) → But g w w' → w'.heap.size = w.heap.size → wpList P ops Q rest (a.put o.dst undef) w') : wpList P ops Q (o :: rest) a w := by
  refine wpList_plain hgd fun K hK => ?_
  have := h _ (setRow_heap w g _ (splice cs off (L'.map (Value.int .u32))).toArray e _ hg) (but_setRow w g _) (by simp)
  unfold Oper.wp execOp
  simp only [ho, hx, hy, Instr.storeAt, Instr.sureAddr, Sem.run_bind, Sem.run_pure, Result.andThen_ok, run_storeVar_part w g off ty e L' hg hi hl]
  exact hK _ _ this

theorem wpList_copy_but {P : Program} {w : World} {ops : Array Oper} {rest : List Oper} {o : Oper} {a : Act} {Q : Exit → Act → World → Prop} (hgd : o.guard = none) (d s : Operand) (dT sT : TypeId)
    (ho : o.op = .call { callee := .builtin .copy, args := #[d, s], argTypes := #[dT, sT] }) (elem : TypeId) (hu : P.underlying dT = some (.slice elem)) (hsz : (P.info? elem).map (·.size) = some 1)
    (g off : Nat) (sp : Option Addr) (dLen dCap sLen sCap : Nat) (hd : a.eval d = .slice (some ⟨g, off, none⟩) dLen dCap) (hs : a.eval s = .slice sp sLen sCap)
    {t : TypeId} {k : IntKind} {cs : List Value} (hg : Cel w g t cs) (xs : List Int) (hx : xs.length = sLen) (hat : At w k sp xs) (hle : sLen ≤ dLen) (hfit : off + xs.length ≤ cs.length)
    (h : ∀ w', Cel w' g t (splice cs off (xs.map (Value.int k))) → But g w w' → w'.heap.size = w.heap.size → wpList P ops Q rest (a.put o.dst (.int .i64 (sLen : Int))) w') :
    wpList P ops Q (o :: rest) a w := by
  by_cases h0 : sLen = 0
  · subst h0
    obtain rfl : xs = [] := List.eq_nil_of_length_eq_zero hx
    refine wpList_copy_nothing hgd d s dT sT ho elem hu hsz _ sp dLen dCap 0 sCap hd hs (by simp [Nat.min]) ?_
    exact h w (by simpa [splice] using hg) ⟨rfl, rfl, rfl, Nat.le_refl _, fun _ _ _ => rfl⟩ rfl
  · rcases hat with hat | ⟨b, o', rfl, hb, hr⟩
    · rw [hat] at hx; simp at hx; omega
    · have hml : (xs.map (Value.int k)).length = sLen := by simp [hx]
      refine wpList_copy_own hgd d s dT sT ho elem hu hsz g off dLen dCap ⟨b, o', none⟩ sLen sCap hd hs _ t hg (xs.map (Value.int k)) ?_ ?_ (by simpa using hfit) (ints_oneCell k xs) ?_
      · rw [hml]; show sLen = min sLen dLen; omega
      · intro j v hv; rw [Addr.add_mid]; exact hr.range j v hv
      · rw [hml]
        refine h _ ?_ (but_setRow w g _) (by simp)
        have := setRow_heap w g _ (splice cs off (xs.map (Value.int k))).toArray t _ hg
        simpa [splice, Cel, hx] using this

theorem wpList_clear_but {P : Program} {w : World} {ops : Array Oper} {rest : List Oper} {o : Oper} {a : Act} {Q : Exit → Act → World → Prop} (hgd : o.guard = none) (d : Operand) (dT : TypeId)
    (ho : o.op = .call { callee := .builtin .clear, args := #[d], argTypes := #[dT] }) (elem : TypeId) (k : IntKind) (hu : P.underlying dT = some (.slice elem)) (hz : ∀ w, (zeroValue elem).run P w = .ok (.int k 0) w)
    (g off n c : Nat) (hd : a.eval d = .slice (some ⟨g, off, none⟩) n c) (hn : 0 < n) {t : TypeId} {cs : List Value} (hg : Cel w g t cs) (hfit : off + n ≤ cs.length)
    (h : ∀ w', Cel w' g t (splice cs off ((List.replicate n (0 : Int)).map (Value.int k))) → But g w w' → w'.heap.size = w.heap.size → wpList P ops Q rest (a.put o.dst (.tuple #[])) w') :
    wpList P ops Q (o :: rest) a w := by
  refine wpList_plain hgd fun K hK => ?_
  have hzc : (Builtin.zeroCells #[Value.int k 0] n).toList = (List.replicate n (0 : Int)).map (Value.int k) := by
    rw [List.map_replicate]
    have := toList_madeCells_one (Value.int k 0) n
    simpa [madeCells, Builtin.zeroCells] using this
  have hst := run_storeCells_at P g off t ((List.replicate n (0 : Int)).map (Value.int k)) 0 _ w hg (by simpa using hfit) (ints_oneCell k _)
  have := h _ (setRow_heap w g _ (splice cs off ((List.replicate n (0 : Int)).map (Value.int k))).toArray t _ hg) (but_setRow w g _) (by simp)
  obtain ⟨m, rfl⟩ : ∃ m, n = m + 1 := ⟨n - 1, by omega⟩
  have hrun : (Builtin.clear_ #[dT] o.type #[.slice (some ⟨g, off, none⟩) (m + 1) c]).run P w = .ok (.tuple #[]) (w.setRow g (splice cs off ((List.replicate (m + 1) (0 : Int)).map (Value.int k))).toArray) := by
    simp [Builtin.clear_, run_underlying hu, hz, Value.cells]
    rw [hzc, hst]
    simp [splice]
  unfold Oper.wp
  simp only [execOp, ho, resolve, invoke, builtin, hd, Sem.run_bind, Sem.run_pure, Result.andThen_ok, List.map_toArray, List.map_cons, List.map_nil, hrun]
  exact hK _ _ this

theorem append_full {P : Program} {w : World} {t e : TypeId} {k : IntKind} {i : TypeInfo} {z : Value} {bytes : Nat} (ht : P.underlying t = some (.slice e)) (hi : P.info? e = some i) (hz : i.zero = some z) (hsize : i.size = 1) (hby : i.bytes = bytes) (hzs : z.cells.size = 1) (ty : TypeId)
    (g o : Nat) (n : Nat) (olds : List Int) (hlo : olds.length = n) (hgl : g < w.heap.size) (ho : Row w k g o olds) (ao : Option Addr) (m c : Nat) (xs : List Int) (hx : xs.length = m) (hat : At w k ao xs) (h63 : n + m ≤ maxLen) (hbytes : (n + m) * bytes ≤ 140737488355328) :
    ∃ ao' cap' w', (Builtin.append_ #[t, t] ty #[.slice (some ⟨g, o, none⟩) n n, .slice ao m c]).run P w = .ok (.slice ao' (n + m) cap') w' ∧ n + m ≤ cap' ∧ (∃ bb lo, (bb = g ∧ lo = o ∨ w.heap.size ≤ bb) ∧ AtB w' k bb lo ao' (olds ++ xs)) ∧ Below w.heap.size w w' := by
  rcases Nat.eq_zero_or_pos m with rfl | hm
  · obtain rfl : xs = [] := List.eq_nil_of_length_eq_zero hx
    refine ⟨some ⟨g, o, none⟩, n, w, ?_, by omega, ⟨g, o, .inl ⟨rfl, rfl⟩, .inr ⟨o, rfl, Nat.le_refl _, hgl, by simpa using ho⟩⟩, Below.refl _ _⟩
    have hl : ∀ (x : Addr), (loadCells x 0).run P w = .ok #[] w := fun x => by simpa using run_loadCells_list (P := P) w x [] (by simp)
    cases ao with
    | none => simp [Builtin.append_, run_underlying ht, sizeOf, typeInfo, hi, Builtin.lenOf, Builtin.firstCells, storeCells]
    | some a => simp [Builtin.append_, run_underlying ht, sizeOf, typeInfo, hi, Builtin.lenOf, Builtin.firstCells, storeCells, hl]
  · rcases hat with hat | ⟨b', off, rfl, hb, hr⟩
    · rw [hat] at hx; simp at hx; omega
    · obtain ⟨v', w', h1, h2, h3⟩ := run_append_arg_grows (P := P) w t ty e i z 1 bytes ht hi hz hsize hby hzs (by decide) ⟨g, o, none⟩ n n (olds.map (Value.int k)) (by simp [hlo]) (fun j v hv => by rw [Addr.add_mid]; exact ho.range j v hv) ⟨b', off, none⟩ m c (xs.map (Value.int k)) (by simp [hx]) (fun j v hv => by rw [Addr.add_mid]; exact hr.range j v hv) (by omega) h63 hbytes
      have hl : (olds ++ xs).length = n + m := by simp [hlo, hx]
      rw [← List.map_append, ← hl] at h2
      have hH : Holds w w' k e v' (olds ++ xs) := ⟨h2, (Below.refl _ _).grown h3 (Nat.le_refl _) (fun _ h => by cases h)⟩
      obtain ⟨g', cap', rfl, hc, hg1, hg2, hr'⟩ := hH.form (by omega)
      rw [hl] at h1 hc
      exact ⟨_, cap', w', h1, hc, ⟨g', 0, .inr hg1, .inr ⟨0, rfl, Nat.le_refl _, hg2, hr'⟩⟩, hH.below⟩
theorem step_append_at {P : Program} {w : World} {ops : Array Oper} {o : Oper} {a : Act} {K : Act → World → Prop} {Q : Exit → Act → World → Prop} {F : Prop} (hgd : o.guard = none) (s x : Operand) (t : TypeId)
    (ho : o.op = .call { callee := .builtin .append, args := #[s, x], argTypes := #[t, t] }) (v u : Value) (hs : a.eval s = v) (hx : a.eval x = u)
    {R : Option Addr → Nat → World → Prop} {n : Nat} (h : ∀ ty, ∃ ao' cap' w', (Builtin.append_ #[t, t] ty #[v, u]).run P w = .ok (.slice ao' n cap') w' ∧ R ao' cap' w')
    (hK : ∀ ao' cap' w', R ao' cap' w' → K (a.put o.dst (.slice ao' n cap')) w') :
    if Region.wanted o (yielded ops a.tmps) = true then Oper.wp P o a w K Q else F := by
  have hw : Region.wanted o (yielded ops a.tmps) = true := by simp [Region.wanted, hgd]
  rw [if_pos hw]
  obtain ⟨ao', cap', w', hr, hR⟩ := h o.type
  unfold Oper.wp execOp
  simp only [ho, resolve, invoke, builtin, Sem.run_bind, Sem.run_pure, Result.andThen_ok, List.map_toArray, List.map_cons, List.map_nil, hs, hx, hr]
  exact hK _ _ _ hR
end Go.Proofs.YtbpdmkohihgnjaaGreatDoor
namespace Go.Proofs.YtbpdmkohihgnjaaGreatDoor
open Go.RowKit

def digC (A : List Int) (n : Nat) (q : List Int) : List Value := A.map (Value.int .u32) ++ (Value.int .i64 (n : Int) :: q.map (Value.int .u32))
structure Dig (W : World) (g : Nat) (A : List Int) (n : Nat) (p : List Int) : Prop where
  al : A.length = 8
  nl : n ≤ 36028797018963968
  pl : p.length = n % 16
  cells : ∃ r : List Int, (p ++ r).length = 16 ∧ Cel W g 229 (digC A n (p ++ r))
theorem digC_length (A : List Int) (n : Nat) (q : List Int) (hA : A.length = 8) (hq : q.length = 16) : (digC A n q).length = 25 := by simp [digC, hA, hq]
theorem digC_n (A : List Int) (n : Nat) (q : List Int) (hA : A.length = 8) : (digC A n q)[8]? = some (.int .i64 (n : Int)) := by
  unfold digC
  rw [List.getElem?_append_right (by simp [hA])]
  simp [hA]
theorem Dig.lt {W : World} {g : Nat} {A : List Int} {n : Nat} {p : List Int} (h : Dig W g A n p) : g < W.heap.size := by obtain ⟨r, _, h⟩ := h.cells; exact h.lt
theorem Dig.cellN {W : World} {g : Nat} {A : List Int} {n : Nat} {p : List Int} (h : Dig W g A n p) : W.cell? ⟨g, 8, none⟩ = some (.int .i64 (n : Int)) := by
  obtain ⟨r, _, hc⟩ := h.cells
  rw [hc.cell, digC_n _ _ _ h.al]
theorem cel_rowA {W : World} {g : Nat} {A : List Int} {n : Nat} {q : List Int} (hc : Cel W g 229 (digC A n q)) : Row W .u32 g 0 A := by
  intro i hi
  rw [Nat.zero_add, hc.cell]
  unfold digC
  rw [List.getElem?_append_left (by simpa using hi)]
  simp [List.getD_eq_getElem?_getD, hi]
theorem cel_rowP {W : World} {g : Nat} {A : List Int} {n : Nat} {q : List Int} (hA : A.length = 8) (hc : Cel W g 229 (digC A n q)) : Row W .u32 g 9 q := by
  intro i hi
  rw [hc.cell]
  unfold digC
  rw [List.getElem?_append_right (by simp [hA]; omega)]
  simp only [List.length_map, hA]
  rw [show 9 + i - 8 = i + 1 by omega, List.getElem?_cons_succ]
  simp [List.getD_eq_getElem?_getD, hi]
theorem Dig.rowA {W : World} {g : Nat} {A : List Int} {n : Nat} {p : List Int} (h : Dig W g A n p) : Row W .u32 g 0 A := by
  obtain ⟨r, _, hc⟩ := h.cells
  exact cel_rowA hc
theorem Dig.rowP {W : World} {g : Nat} {A : List Int} {n : Nat} {p : List Int} (h : Dig W g A n p) : Row W .u32 g 9 p := by
  obtain ⟨r, _, hc⟩ := h.cells
  exact (cel_rowP h.al hc).head
theorem Dig.below {W w : World} {B g : Nat} {A : List Int} {n : Nat} {p : List Int} (h : Dig W g A n p) (hb : Below B W w) (hg : g < B) : Dig w g A n p := by
  obtain ⟨r, hr, hc⟩ := h.cells
  exact ⟨h.al, h.nl, h.pl, r, hr, hc.below hb hg⟩
theorem Dig.but {W w : World} {g i : Nat} {A : List Int} {n : Nat} {p : List Int} (h : Dig W i A n p) (hb : But g W w) (hg : i ≠ g) : Dig w i A n p := by
  obtain ⟨r, hr, hc⟩ := h.cells
  exact ⟨h.al, h.nl, h.pl, r, hr, hc.but hb hg⟩
theorem Dig.at {W : World} {g : Nat} {A : List Int} {n : Nat} {p : List Int} (h : Dig W g A n p) : At W .u32 (some ⟨g, 9, none⟩) p := .inr ⟨g, 9, rfl, h.lt, h.rowP⟩

theorem row_behind {W w : World} {g : Nat} {A M : List Int} {n k : Nat} {q : List Int} {off : Nat} {R : List Int} (hA : A.length = 8) (hM : M.length = 8) (h : Cel W g 229 (digC A n q)) (h' : Cel w g 229 (digC M k q)) (ho : 9 ≤ off) (hr : Row W .u32 g off R) : Row w .u32 g off R := by
  intro i hi
  rw [← hr i hi, h.cell, h'.cell]
  unfold digC
  rw [List.getElem?_append_right (by simp [hM]; omega), List.getElem?_append_right (by simp [hA]; omega)]
  simp only [List.length_map, hA, hM]
  obtain ⟨j, hj⟩ : ∃ j, off + i - 8 = j + 1 := ⟨off + i - 9, by omega⟩
  rw [hj, List.getElem?_cons_succ, List.getElem?_cons_succ]
theorem waiting_any (W : World) (g : Nat) (A : List Int) (n : Nat) (p : List Int) (D : Dig W g A n p) :
    Calls Tryz.prog 140 #[.pointer (some ⟨g, 0, none⟩)] W fun e W' => e = .returned (.slice (some ⟨g, 9, none⟩) (n % 16) (n % 16)) ∧ W = W' := by
  have c := D.cellN
  have hn := D.nl
  have i1 : (n : Int) ≤ 36028797018963968 := by omega
  obtain ⟨t, ht⟩ : ∃ t : Nat, n % 16 = t := ⟨_, rfl⟩
  have e : (n : Int) % 16 = (t : Int) := by omega
  have i2 : (t : Int) ≤ 16 := by omega
  rw [ht]
  clear D hn ht
  go_enter Tryz.func140, Tryz.ntmps140
  go_wp2
  go_ret
  exact ⟨rfl, rfl⟩
theorem high_any (W : World) (n : Int) (h0 : 0 ≤ n) (h1 : n < 18446744073709551616) :
    Calls Tryz.prog 154 #[.int .u64 n] W fun e W' => e = .returned (.int .u32 (n / 4294967296)) ∧ W = W' := by
  go_enter Tryz.func154, Tryz.ntmps154
  go_wp2
  go_ret
  exact ⟨rfl, rfl⟩
theorem low_any (W : World) (n : Int) :
    Calls Tryz.prog 155 #[.int .u64 n] W fun e W' => e = .returned (.int .u32 (n % 4294967296)) ∧ W = W' := by
  go_enter Tryz.func155, Tryz.ntmps155
  go_wp2
  go_ret
  exact ⟨rfl, rfl⟩
end Go.Proofs.YtbpdmkohihgnjaaGreatDoor
namespace Go.Proofs.YtbpdmkohihgnjaaGreatDoor
open Go.RowKit

set_option maxRecDepth 20000 in
theorem first_any (W : World) :
    Calls Tryz.prog 151 #[] W fun e W' => e = .returned (Ag S.First) ∧ Below W.heap.size W W' := by
  have b := Blk.new W .u32 26 [0, 0, 0, 0, 0, 0, 0, 0]
  have B : Hid (Blk (W.alloc (.cells #[.int .u32 0, .int .u32 0, .int .u32 0, .int .u32 0, .int .u32 0, .int .u32 0, .int .u32 0, .int .u32 0] 26)) W.heap.size .u32 26 [0, 0, 0, 0, 0, 0, 0, 0]) := b
  clear b
  go_enter Tryz.func151, Tryz.ntmps151
  go_wp2_with (first | (refine wpList_store_blk rfl 26 _ _ rfl W.heap.size S.First rfl rfl B.out size26 rfl ?_))
  refine ret_cell rfl rfl W.heap.size S.First rfl (B.out.setRow _) Tryz.underlying26 size26 ⟨rfl, ?_⟩
  exact below_setRow (below_one _ _) (Nat.le_refl _) _
set_option maxRecDepth 20000 in
theorem new_any (W : World) :
    Calls Tryz.prog 147 #[] W fun e W' => ∃ g, W.heap.size ≤ g ∧ e = .returned (.pointer (some ⟨g, 0, none⟩)) ∧ Dig W' g S.First 0 [] ∧ Below W.heap.size W W' := by
  go_enter Tryz.func147, Tryz.ntmps147
  go_wp2_with (first | (go_at_call 151; refine (first_any _).mono ?_; rintro e w' ⟨rfl, hb⟩; unfold Ag S.First))
  go_ret
  exact ⟨_, hb.size, rfl, ⟨rfl, by decide, rfl, List.replicate 16 0, rfl, heap_alloc_new _ _⟩, hb.alloc hb.size _⟩

theorem wpList_load_cel {P : Program} {ops : Array Oper} {rest : List Oper} {o : Oper} {a : Act} {w : World} {Q : Exit → Act → World → Prop} (hgd : o.guard = none) (ty : TypeId) (x : Operand) (ho : o.op = .load ty x)
    (g : Nat) (cs : List Value) (hx : a.eval x = .pointer (some ⟨g, 0, none⟩)) {e : TypeId} {d : TypeDesc} (hg : Cel w g e cs) (hu : P.underlying ty = some d) (hd : (match d with | .struct _ | .array _ _ => true | _ => false) = true) (hi : (P.info? ty).map (·.size) = some cs.length)
    (h : wpList P ops Q rest (a.put o.dst (.agg cs.toArray)) w) : wpList P ops Q (o :: rest) a w :=
  wpList_load_row hgd ty x ho g hx e _ (0, 0) _ hg hu hd (by rw [hi]; simp) h
theorem wpList_store_cel {P : Program} {ops : Array Oper} {rest : List Oper} {o : Oper} {a : Act} {w : World} {Q : Exit → Act → World → Prop} (hgd : o.guard = none) (ty : TypeId) (x y : Operand) (ho : o.op = .store ty x y)
    (g : Nat) (cs : List Value) (hx : a.eval x = .pointer (some ⟨g, 0, none⟩)) (hy : a.eval y = .agg cs.toArray) {e : TypeId} {cur : List Value} (hg : Cel w g e cur) (hi : (P.info? ty).map (·.size) = some cs.length) (hl : cur.length = cs.length) (h1 : ∀ v ∈ cs, v.oneCell' = true)
    (h : ∀ w', Cel w' g e cs → But g w w' → w'.heap.size = w.heap.size → wpList P ops Q rest (a.put o.dst undef) w') : wpList P ops Q (o :: rest) a w :=
  wpList_store_row hgd ty x y ho g _ hx hy e _ hg (by rw [hi]; simp) (by simp [hl]) (all_oneCell_toArray h1) (h _ (setRow_heap w g _ _ e _ hg) (but_setRow w g _) (by simp))
theorem digC_one (A : List Int) (n : Nat) (q : List Int) : ∀ v ∈ digC A n q, v.oneCell' = true := by
  intro v hv
  simp only [digC, List.mem_append, List.mem_cons] at hv
  rcases hv with hv | rfl | hv
  · exact ints_oneCell .u32 A v hv
  · exact ints_oneCell .i64 [(n : Int)] _ (by simp)
  · exact ints_oneCell .u32 q v hv
attribute [-simp] Tryz.isAgg229 Tryz.sizeOf229 Tryz.zeroValue229
set_option maxRecDepth 20000 in
theorem copy_any (W : World) (g : Nat) (A : List Int) (n : Nat) (p : List Int) (D : Dig W g A n p) :
    Calls Tryz.prog 142 #[.pointer (some ⟨g, 0, none⟩)] W fun e W' => ∃ g', W.heap.size ≤ g' ∧ e = .returned (.pointer (some ⟨g', 0, none⟩)) ∧ Dig W' g' A n p ∧ Below W.heap.size W W' := by
  obtain ⟨al, nl, pl, r, hr, hc⟩ := D
  have H1 := digC_one A n (p ++ r)
  have hl := digC_length A n (p ++ r) al hr
  have HD : Hid (∀ w', Cel w' W.heap.size 229 (digC A n (p ++ r)) → Dig w' W.heap.size A n p) := fun w' h => ⟨al, nl, pl, r, hr, h⟩
  have HG : Hid (g < W.heap.size) := hc.lt
  have HC : Hid (Cel W g 229 (digC A n (p ++ r))) := hc
  generalize digC A n (p ++ r) = cs at *
  obtain ⟨Z, hZ⟩ : ∃ Z : List Value, Z = (List.replicate 8 (Value.int .u32 0)) ++ (Value.int .i64 0 :: List.replicate 16 (Value.int .u32 0)) := ⟨_, rfl⟩
  have hz : ∀ w, (zeroValue 229).run Tryz.prog w = .ok (.agg Z.toArray) w := fun w => by rw [Tryz.zeroValue229, hZ]; rfl
  have hZl : Z.length = 25 := by rw [hZ]; rfl
  have HZ : Hid (Cel (W.alloc (.cells Z.toArray 229)) W.heap.size 229 Z) := heap_alloc_new _ _
  have H1' : Hid (∀ v ∈ cs, v.oneCell' = true) := H1
  clear hZ hc H1 al nl pl hr
  go_enter Tryz.func142, Tryz.ntmps142
  go_wp2_with (first | (refine wpList_load_cel rfl 229 _ rfl g cs rfl HC.out Tryz.underlying229 rfl (by rw [hl]; exact size70) ?_) | (refine wpList_store_cel rfl 229 _ _ rfl W.heap.size cs rfl rfl HZ.out (by rw [hl]; exact size70) (by rw [hl, hZl]) H1'.out ?_; intro w' hc' hb' hs'))
  go_ret
  exact ⟨_, Nat.le_refl _, rfl, HD.out _ hc', (below_one _ _).trans (hb'.below (Nat.le_refl _) (by simp))⟩
end Go.Proofs.YtbpdmkohihgnjaaGreatDoor
namespace Go.Proofs.YtbpdmkohihgnjaaGreatDoor
open Go.RowKit

theorem Tab.ne {W : World} {g : Nat} {A : List Int} {n : Nat} {p : List Int} (hT : Tab W) (D : Dig W g A n p) : g ≠ 12 := by
  rintro rfl
  have h1 := hT.cell 8 (by decide)
  rw [D.cellN] at h1
  cases h1
theorem splice_state (A M : List Int) (n : Nat) (q : List Int) (hA : A.length = 8) (hM : M.length = 8) : splice (digC A n q) 0 (M.map (Value.int .u32)) = digC M n q := by
  unfold splice digC
  simp [hM]
  rw [List.drop_append]
  simp [hA]
theorem cel_count {w : World} {g : Nat} {M : List Int} {n : Nat} {q : List Int} (hM : M.length = 8) (h : Cel w g 229 (digC M n q)) (k : Nat) : Cel (w.setCell ⟨g, 8, none⟩ (.int .i64 (k : Int))) g 229 (digC M k q) := by
  unfold Cel at h ⊢
  rw [heap_setCell_same w g 8 _ 229 _ h, List.setIfInBounds_toArray]
  congr 3
  unfold digC
  rw [List.set_append_right _ _ (by simp [hM])]
  simp [hM]
theorem splice_wait (M : List Int) (n : Nat) (q y : List Int) (hM : M.length = 8) : splice (digC M n q) 9 (y.map (Value.int .u32)) = digC M n (y ++ q.drop y.length) := by
  unfold splice digC
  rw [List.take_append, List.drop_append]
  simp [hM, show 9 + y.length - 8 = y.length + 1 by omega]
  rw [List.drop_eq_nil_of_le (by simp [hM]; omega), List.take_of_length_le (by simp [hM])]
  simp
theorem splice_clear (M : List Int) (n : Nat) (y q : List Int) (hM : M.length = 8) (hy : (y ++ q).length = 16) : splice (digC M n (y ++ q)) (9 + y.length) ((List.replicate (16 - y.length) (0 : Int)).map (Value.int .u32)) = digC M n (y ++ List.replicate (16 - y.length) 0) := by
  have hq : q.length = 16 - y.length := by simp at hy; omega
  unfold splice digC
  rw [List.take_append, List.drop_append]
  simp [hM, show 9 + y.length - 8 = y.length + 1 by omega, show 9 + y.length + (16 - y.length) - 8 = 17 by simp at hy; omega]
  rw [List.drop_eq_nil_of_le (by simp [hM]; omega), List.take_of_length_le (by simp [hM]; omega)]
  simp at hy
  simp
  omega

attribute [-simp] Tryz.isAgg26 Tryz.sizeOf26 Tryz.zeroValue26
set_option maxRecDepth 20000 in
set_option maxHeartbeats 4000000 in
theorem add_fits (W : World) (hT : Tab W) (h2 : 12 < W.heap.size) (g : Nat) (A : List Int) (n : Nat) (p : List Int) (D : Dig W g A n p) (ao : Option Addr) (m c : Nat) (xs : List Int) (hx : xs.length = m) (hat : At W .u32 ao xs) (hm : m ≤ 35184372088800) (h : n + m ≤ 36028797018963968) :
    Calls Tryz.prog 130 #[.pointer (some ⟨g, 0, none⟩), .slice ao m c] W fun e W' => e = .returned (.tuple #[]) ∧ Dig W' g (S.run A (p ++ xs) ((n % 16 + m) / 16)) (n + m) ((p ++ xs).drop (16 * ((n % 16 + m) / 16))) ∧ But g W W' := by
  obtain ⟨i0, hi, hz0, hz1, hz2⟩ := info_parts Tryz.info25
  have cn := D.cellN
  have hgl := D.lt
  have i1 : (n : Int) ≤ 36028797018963968 := by have := D.nl; omega
  have i2 : ((m : Int) ≤ (36028797018963968 : Int) - (n : Int)) := by omega
  have i3 : (m : Int) ≤ 35184372088800 := by omega
  obtain ⟨Z, hZ⟩ : ∃ Z : List Int, Z = List.replicate 8 0 := ⟨_, rfl⟩
  have hZl : Z.length = 8 := by rw [hZ]; simp
  have hz : ∀ w, (zeroValue 26).run Tryz.prog w = .ok (.agg (Z.map (Value.int .u32)).toArray) w := fun w => by rw [Tryz.zeroValue26, hZ]; rfl
  clear hZ
  obtain ⟨t, ht⟩ : ∃ t, n % 16 = t := ⟨_, rfl⟩
  have hpl := D.pl
  rw [ht] at hpl ⊢
  have htl : t < 16 := by omega
  have hall : (p ++ xs).length = t + m := by simp [hpl, hx]
  have WT : Hid (∀ w, Below W.heap.size W w → Calls Tryz.prog 140 #[.pointer (some ⟨g, 0, none⟩)] w fun e W' => e = .returned (.slice (some ⟨g, 9, none⟩) t t) ∧ w = W') := fun w hw => by
    have := waiting_any w g A n p (D.below hw hgl)
    rwa [ht] at this
  have AP : Hid (∀ w, Below W.heap.size W w → ∀ ty, ∃ ao' cap' w', (Builtin.append_ #[127, 127] ty #[.slice (some ⟨g, 9, none⟩) t t, .slice ao m c]).run Tryz.prog w = .ok (.slice ao' (t + m) cap') w' ∧ (t + m ≤ cap' ∧ (∃ bb lo, (bb = g ∨ w.heap.size ≤ bb) ∧ (bb = g → 9 ≤ lo) ∧ AtB w' .u32 bb lo ao' (p ++ xs)) ∧ Below w.heap.size w w' ∧ Below W.heap.size W w')) := fun w hw ty => by
    obtain ⟨ao', cap', w2, hap, hcap, ⟨bb, lo, hbb, hat2⟩, hb2⟩ := append_full (P := Tryz.prog) (w := w) Tryz.underlying127 hi hz0 hz1 hz2 rfl ty g 9 t p hpl (by have := hw.size; omega) (D.below hw hgl).rowP ao m c xs hx (hat.below hw) (by unfold maxLen; omega) (by omega)
    have hws := hw.size
    exact ⟨ao', cap', w2, hap, hcap, ⟨bb, lo, by omega, by omega, hat2⟩, hb2, hw.trans (hb2.mono hw.size)⟩
  have hrest : ((p ++ xs).drop (16 * ((t + m) / 16))).length = (t + m) % 16 := by rw [List.length_drop, hall]; omega
  have hMl := run_length A (p ++ xs) D.al ((t + m) / 16)
  have hnm : (n + m) % 16 = (t + m) % 16 := by omega
  obtain ⟨N, hN⟩ : ∃ N : Nat, N = 8 := ⟨_, rfl⟩
  have a27 := Tryz.isAgg26
  have z27 := Tryz.sizeOf26
  rw [← hN] at z27
  have hN0 : ¬ N = 0 := by omega
  have rA := D.rowA
  have ld1 : ∀ w, Below W.heap.size W w → (loadCellsFrom ⟨g, 0, none⟩ 0 N #[]).run Tryz.prog w = .ok (A.map (Value.int .u32)).toArray w := fun w hw => cells_row (rA.below hw hgl) N (by rw [D.al, hN])
  have BL : Hid (∀ w ao' cap' bb lo, Below W.heap.size W w → t + m ≤ cap' → AtB w .u32 bb lo ao' (p ++ xs) → Calls Tryz.prog 139 #[.agg (A.map (Value.int .u32)).toArray, .slice ao' (t + m) cap'] w fun en w3 => ∃ ao'' cap'', en = .returned (.tuple #[.agg ((S.run A (p ++ xs) ((t + m) / 16)).map (Value.int .u32)).toArray, .slice ao'' ((t + m) % 16) cap'']) ∧ AtB w3 .u32 bb lo ao'' ((p ++ xs).drop (16 * ((t + m) / 16))) ∧ Below w.heap.size w w3 ∧ Below W.heap.size W w3) := fun w ao' cap' bb lo hw hc' ha => by
    have hsz := hw.size
    refine (blocks_atb w (hT.below hw h2) (by omega) A (p ++ xs) D.al ao' (t + m) cap' hall hc' bb lo ha (by omega)).mono ?_
    rintro en w3 ⟨ao'', cap'', rfl, hc'', hat3, hb3⟩
    exact ⟨ao'', cap'', rfl, hat3.below hb3, hb3, hw.trans (hb3.mono hsz)⟩
  have HR0 : Hid (p ++ xs = [] → (p ++ xs).drop (16 * ((t + m) / 16)) = []) := fun h0 => by rw [h0]; simp
  obtain ⟨al, nl, pl, r, hr, hc⟩ := D
  generalize S.run A (p ++ xs) ((t + m) / 16) = M at *
  generalize (p ++ xs).drop (16 * ((t + m) / 16)) = R at *
  obtain ⟨rs, hrs⟩ : ∃ rs, (t + m) % 16 = rs := ⟨_, rfl⟩
  rw [hrs] at hrest hnm BL
  have hrs16 : rs < 16 := by omega
  have HCD : Hid (∀ w, Below W.heap.size W w → Cel w g 229 (digC A n (p ++ r))) := fun w hw => hc.below hw hgl
  have SS : Hid (∀ w, Cel w g 229 (splice (digC A n (p ++ r)) 0 (M.map (Value.int .u32))) → w.cell? ⟨g, 8, none⟩ = some (.int .i64 (n : Int)) ∧ w.frozen? ⟨g, 8, none⟩ = false ∧ Cel (w.setCell ⟨g, 8, none⟩ (.int .i64 ((n : Int) + (m : Int)))) g 229 (digC M (n + m) (p ++ r)) ∧ But g w (w.setCell ⟨g, 8, none⟩ (.int .i64 ((n : Int) + (m : Int))))) := fun w hw => by
    rw [splice_state A M n (p ++ r) al hMl] at hw
    have := cel_count hMl hw (n + m)
    push_cast at this
    exact ⟨by rw [hw.cell, digC_n _ _ _ hMl], hw.free 8, this, but_setCell _ _ _ _⟩
  have zM : (Tryz.prog.info? 26).map (·.size) = some M.length := by rw [hMl]; exact size26
  have hMN : M.length = N := by rw [hMl, hN]
  have BW0 : Hid (Below W.heap.size W W.drew) := (Below.refl _ _).drew
  have BW1 : Hid (Below W.heap.size W (W.alloc (Obj.cells (List.map (Value.int IntKind.u32) Z).toArray 26)).drew) := (below_one _ _).drew
  have BZ1 : Hid (Blk (W.alloc (Obj.cells (List.map (Value.int IntKind.u32) Z).toArray 26)).drew W.heap.size .u32 26 Z) := Blk.new W .u32 26 Z
  have FN : Hid (∀ w gz ao'' bb lo, Blk w gz .u32 26 Z → W.heap.size ≤ gz → Below W.heap.size W w → AtB w .u32 bb lo ao'' R → (R = [] ∨ bb ≠ gz) → (storeCells ⟨gz, 0, none⟩ (M.map (Value.int .u32)) 0).run Tryz.prog w = .ok () (w.setRow gz (M.map (Value.int .u32)).toArray) ∧ Hid (Blk (w.setRow gz (M.map (Value.int .u32)).toArray) gz .u32 26 M ∧ Cel (w.setRow gz (M.map (Value.int .u32)).toArray) g 229 (digC A n (p ++ r)) ∧ AtB (w.setRow gz (M.map (Value.int .u32)).toArray) .u32 bb lo ao'' R ∧ Below W.heap.size W (w.setRow gz (M.map (Value.int .u32)).toArray))) := fun w gz ao'' bb lo hz' hgz hw ha hne => by
    refine ⟨storeCells_blk hz' (by rw [hZl, hMl]), hz'.setRow M, (hc.below hw hgl).but (but_setRow w gz _) (by omega), ?_, below_setRow hw hgz _⟩
    rcases hne with h0 | hne
    · exact .inl h0
    · exact ha.but (but_setRow w gz _) hne
  have N1 : Hid (∀ bb, (bb = g ∨ W.heap.size + 1 ≤ bb) → R = [] ∨ bb ≠ W.heap.size) := fun bb h => .inr (by omega)
  have N2 : Hid (∀ (w : World) bb lo ao', AtB w .u32 bb lo ao' (p ++ xs) → R = [] ∨ bb ≠ w.heap.size) := fun w bb lo ao' h => by
    rcases h with h0 | ⟨_, _, _, hlt, _⟩
    · exact .inl (HR0.out h0)
    · exact .inr (by omega)
  have N3 : Hid (∀ (w : World) bb lo ao', AtB w .u32 bb lo ao' R → R = [] ∨ bb ≠ w.heap.size) := fun w bb lo ao' h => by
    rcases h with h0 | ⟨_, _, _, hlt, _⟩
    · exact .inl h0
    · exact .inr (by omega)
  have ATW : Hid (∀ w4 w6 bb lo ao'', AtB w4 .u32 bb lo ao'' R → (bb = g → 9 ≤ lo) → Cel w4 g 229 (digC A n (p ++ r)) → Cel w6 g 229 (digC M (n + m) (p ++ r)) → But g w4 w6 → At w6 .u32 ao'' R) := fun w4 w6 bb lo ao'' ha hl c4 c6 hb => by
    rcases ha with h0 | ⟨off, h1, h2', h3, h4⟩
    · exact .inl h0
    · refine .inr ⟨bb, off, h1, by have := hb.size; omega, ?_⟩
      by_cases hbg : bb = g
      · have := hl hbg
        subst hbg
        exact row_behind al hMl c4 c6 (by omega) h4
      · exact hb.row h4 h3 hbg
  have FIN : Hid (∀ w, Cel w g 229 (splice (splice (digC M (n + m) (p ++ r)) 9 (R.map (Value.int .u32))) (9 + rs) ((List.replicate (16 - rs) (0 : Int)).map (Value.int .u32))) → Dig w g M (n + m) R) := fun w hw => by
    have hR2 : ((R ++ (p ++ r).drop R.length)).length = 16 := by rw [List.length_append, List.length_drop, hr, hrest]; omega
    rw [splice_wait M (n + m) (p ++ r) R hMl, ← hrest, splice_clear M (n + m) R _ hMl hR2] at hw
    exact ⟨hMl, h, by rw [hrest, hnm], _, by simp; omega, hw⟩
  have L1 : Hid (0 + M.length ≤ (digC A n (p ++ r)).length) := by rw [digC_length _ _ _ al hr, hMl]; show _ ≤ _; omega
  have L2 : Hid (9 + R.length ≤ (digC M (n + m) (p ++ r)).length) := by rw [digC_length _ _ _ hMl hr, hrest]; show _ ≤ _; omega
  have L3 : Hid (9 + rs + (16 - rs) ≤ (splice (digC M (n + m) (p ++ r)) 9 (R.map (Value.int .u32))).length) := by
    rw [length_splice _ _ _ (by simp [digC_length _ _ _ hMl hr, hrest]; omega), digC_length _ _ _ hMl hr]; show _ ≤ _; omega
  have HML : Hid (M.length = 8) := hMl
  have HZL : Hid (Z.length = 8) := hZl
  clear hc hat hall hN hMl hZl hpl hr ht h hm
  go_enter Tryz.func130, Tryz.ntmps130
  go_wp2
  go_region_held3 (fun w => Below W.heap.size W w) (first | (exact BW0.out) | (exact BW1.out) | (exact hw3) | (exact hw2) | (exact hw3.alloc hw3.size _) | (exact hw2.alloc hw2.size _) | (exact F.out.2.2.2)) (first | (go_at_call 140; refine (WT.out _ (by first | exact BW0.out | exact BW1.out)).mono ?_; rintro en w' ⟨rfl, rfl⟩) | (refine step_append_at (by rfl) _ _ 127 (by rfl) _ _ (by rfl) (by rfl) (AP.out _ (by first | exact BW0.out | exact BW1.out)) ?_; rintro ao' cap' w2 ⟨hcap, ⟨bb, lo, hbb, hlo, hat2⟩, hb2, hw2⟩) | (go_at_call 139; (first | (refine (BL.out _ _ _ _ _ hw2 hcap hat2).mono ?_) | (refine (BL.out _ _ _ _ _ (hw2.alloc hw2.size _) hcap (hat2.below (below_one _ _))).mono ?_)); rintro en w3 ⟨ao'', cap'', rfl, at3, hb3, hw3⟩; (first | (obtain ⟨hst, F⟩ := FN.out _ _ _ _ _ ((BZ1.out.below hb2 (by simp)).below hb3 (by have := hb2.size; simp at this; omega)) (Nat.le_refl _) hw3 at3 (N1.out _ (by simpa using hbb))) | (obtain ⟨hst, F⟩ := FN.out _ _ _ _ _ ((Blk.new w2 .u32 26 Z).below hb3 (by simp)) hw2.size hw3 at3 (N2.out _ _ _ _ hat2)) | (obtain ⟨hst, F⟩ := FN.out _ _ _ _ _ (Blk.new w3 .u32 26 Z) hw3.size (hw3.alloc hw3.size _) (at3.below (below_one _ _)) (N3.out _ _ _ _ at3)))))
  all_goals
    obtain ⟨bM, cD, at4, hb4⟩ := F.out
    have HLO : Hid _ := hlo
    clear F hst hb3 hw3 hb2 hw2 hat2 at3 hbb hlo hcap
    generalize World.setRow _ _ _ = w4 at *
    have BM : Hid (Blk w4 _ .u32 26 M) := bM
    have CD : Hid (Cel w4 g 229 (digC A n (p ++ r))) := cD
    have AT4 : Hid (AtB w4 .u32 bb lo ao'' R) := at4
    have HB4 : Hid (Below W.heap.size W w4) := hb4
    have i4 : (rs : Int) ≤ 16 := by omega
    have i5 : ¬ 16 = rs := by omega
    have i6 : ¬ rs = 16 := by omega
    clear bM cD at4 hb4 WT AP BL FN N1 N2 N3 BW0 BW1 BZ1
    go_wp2_with (first | (refine wpList_load_blk rfl 26 _ rfl _ M rfl BM.out Tryz.underlying26 zM ?_) | (refine wpList_store_part rfl 26 _ _ rfl g 0 M rfl rfl CD.out zM L1.out ?_; intro w5 cD5 bt5 sz5; obtain ⟨c8, f8, cD6, bt6⟩ := SS.out _ cD5; have CD6 : Hid (Cel _ g 229 (digC M (n + m) (p ++ r))) := cD6; have AT6 : Hid (At _ .u32 ao'' R) := ATW.out _ _ _ _ _ AT4.out HLO.out CD.out cD6 (bt5.trans bt6); have BT6 : Hid (But g w4 _) := bt5.trans bt6; clear cD5 cD6 bt5 bt6) | (refine wpList_copy_but rfl _ _ 127 127 rfl 25 Tryz.underlying127 size25 g 9 _ 16 16 rs _ rfl rfl CD6.out R hrest AT6.out (by omega) L2.out ?_; intro w7 cD7 bt7 sz7; have CD7 : Hid (Cel w7 g 229 _) := cD7; have BT7 : Hid (But g _ w7) := bt7; clear cD7 bt7 sz7) | (refine wpList_clear_but rfl _ 127 rfl 25 .u32 Tryz.underlying127 Tryz.zeroValue25 g (9 + rs) (16 - rs) _ rfl (by omega) CD7.out L3.out ?_; intro w8 cD8 bt8 sz8; have HD : Hid (Dig w8 g M (n + m) R) := FIN.out _ cD8; have BT8 : Hid (But g _ w8) := bt8; clear cD8 bt8 sz8))
    refine bodyPost_end (results_none rfl _ _ _) rfl ⟨rfl, HD.out, ?_⟩
    exact (Below.but HB4.out).trans (BT6.out.trans (BT7.out.trans BT8.out))
end Go.Proofs.YtbpdmkohihgnjaaGreatDoor
