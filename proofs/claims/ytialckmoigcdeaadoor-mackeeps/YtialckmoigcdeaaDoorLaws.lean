/- Laws at an operation: what is stored, copied or cleared inside a block; an append onto a full slice. -/
import Derived.Test.YtialckmoigcdeaaDoorBlocks
import Derived.ArgAppend
namespace Go.Proofs.YtialckmoigcdeaaDoor
open Go.RowKit

/-- A block's cells. -/
def Cel (w : World) (g : Nat) (t : TypeId) (cs : List Value) : Prop := w.heap[g]? = some (.cells cs.toArray t (0, 0))
theorem Cel.lt {w : World} {g : Nat} {t : TypeId} {cs : List Value} (h : Cel w g t cs) : g < w.heap.size := (Array.getElem?_eq_some_iff.1 h).1
theorem Cel.but {w w' : World} {g i : Nat} {t : TypeId} {cs : List Value} (h : Cel w i t cs) (hb : But g w w') (hi : i ≠ g) : Cel w' i t cs := (hb.block i h.lt hi).trans h
theorem Cel.below {w w' : World} {B g : Nat} {t : TypeId} {cs : List Value} (h : Cel w g t cs) (hb : Below B w w') (hg : g < B) : Cel w' g t cs := (hb.block g hg).trans h
theorem Cel.cell {w : World} {g : Nat} {t : TypeId} {cs : List Value} (h : Cel w g t cs) (j : Nat) : w.cell? ⟨g, j, none⟩ = cs[j]? := by
  rw [cell_of_row w g j _ t (0, 0) h]; simp
theorem Cel.free {w : World} {g : Nat} {t : TypeId} {cs : List Value} (h : Cel w g t cs) (j : Nat) : w.frozen? ⟨g, j, none⟩ = false := frozen_of_row w g j _ t h

theorem run_storeVar_part {P : Program} (w : World) (g off : Nat) (ty e : TypeId) (L' : List Int) {cs : List Value} (hg : Cel w g e cs) (hi : (P.info? ty).map (·.size) = some L'.length) (hl : off + L'.length ≤ cs.length) :
    (storeVar ty ⟨g, off, none⟩ (Ag L')).run P w = .ok () (w.setRow g (splice cs off (L'.map (Value.int .u32))).toArray) := by
  have := run_storeCells_at P g off e (L'.map (Value.int .u32)) 0 _ w hg (by simpa using hl) (ints_oneCell .u32 L')
  cases hq : P.info? ty with
  | none => simp [hq] at hi
  | some i =>
    have hs : L'.length = i.size := by simp [hq] at hi; omega
    simp [storeVar, Ag, sizeOf, typeInfo, hq, Value.cells, hs, this, splice]
theorem wpList_store_part {P : Program} {ops : Array Oper} {rest : List Oper} {o : Oper} {a : Act} {w : World} {Q : Exit → Act → World → Prop} (hgd : o.guard = none) (ty : TypeId) (x y : Operand) (ho : o.op = .store ty x y)
    (g off : Nat) (L' : List Int) (hx : a.eval x = .pointer (some ⟨g, off, none⟩)) (hy : a.eval y = Ag L') {e : TypeId} {cs : List Value} (hg : Cel w g e cs) (hi : (P.info? ty).map (·.size) = some L'.length) (hl : off + L'.length ≤ cs.length)
    (h : ∀ w', Cel w' g e (splice cs off (L'.map (Value.int .u32))) → But g w w' → w'.heap.size = w.heap.size → wpList P ops Q rest (a.put o.dst undef) w') : wpList P ops Q (o :: rest) a w := by
  refine wpList_plain hgd fun K hK => ?_
  have := h _ (setRow_heap w g _ (splice cs off (L'.map (Value.int .u32))).toArray e _ hg) (but_setRow w g _) (by simp)
  unfold Oper.wp execOp
  simp only [ho, hx, hy, Instr.storeAt, Instr.sureAddr, Sem.run_bind, Sem.run_pure, Result.andThen_ok, run_storeVar_part w g off ty e L' hg hi hl]
  exact hK _ _ this

theorem wpList_copy_but {P : Program} {w : World} {ops : Array Oper} {rest : List Oper} {o : Oper} {a : Act} {Q : Exit → Act → World → Prop} (hgd : o.guard = none) (d s : Operand) (dT sT : TypeId)
    (ho : o.op = .call { callee := .builtin .copy, args := #[d, s], argTypes := #[dT, sT] }) (elem : TypeId) (hu : P.underlying dT = some (.slice elem)) (hsz : (P.info? elem).map (·.size) = some 1)
    (g off : Nat) (sp : Option Addr) (dLen dCap sLen sCap : Nat) (hd : a.eval d = .slice (some ⟨g, off, none⟩) dLen dCap) (hs : a.eval s = .slice sp sLen sCap)
    {t : TypeId} {k : IntKind} {cs : List Value} (hg : Cel w g t cs) (xs : List Int) (hx : xs.length = sLen) (hat : At w k sp xs) (hle : sLen ≤ dLen) (hfit : off + xs.length ≤ cs.length)
    (h : ∀ w', Cel w' g t (splice cs off (xs.map (Value.int k))) → But g w w' → w'.heap.size = w.heap.size → wpList P ops Q rest (a.put o.dst (.int .i64 (sLen : Int))) w') :
    wpList P ops Q (o :: rest) a w := by
  by_cases h0 : sLen = 0
  · subst h0
    obtain rfl : xs = [] := List.eq_nil_of_length_eq_zero hx
    refine wpList_copy_nothing hgd d s dT sT ho elem hu hsz _ sp dLen dCap 0 sCap hd hs (by simp [Nat.min]) ?_
    exact h w (by simpa [splice] using hg) ⟨rfl, rfl, rfl, Nat.le_refl _, fun _ _ _ => rfl⟩ rfl
  · rcases hat with hat | ⟨b, o', rfl, hb, hr⟩
    · rw [hat] at hx; simp at hx; omega
    · have hml : (xs.map (Value.int k)).length = sLen := by simp [hx]
      refine wpList_copy_own hgd d s dT sT ho elem hu hsz g off dLen dCap ⟨b, o', none⟩ sLen sCap hd hs _ t hg (xs.map (Value.int k)) ?_ ?_ (by simpa using hfit) (ints_oneCell k xs) ?_
      · rw [hml]; show sLen = min sLen dLen; omega
      · intro j v hv; rw [Addr.add_mid]; exact hr.range j v hv
      · rw [hml]
        refine h _ ?_ (but_setRow w g _) (by simp)
        have := setRow_heap w g _ (splice cs off (xs.map (Value.int k))).toArray t _ hg
        simpa [splice, Cel, hx] using this

theorem wpList_clear_but {P : Program} {w : World} {ops : Array Oper} {rest : List Oper} {o : Oper} {a : Act} {Q : Exit → Act → World → Prop} (hgd : o.guard = none) (d : Operand) (dT : TypeId)
    (ho : o.op = .call { callee := .builtin .clear, args := #[d], argTypes := #[dT] }) (elem : TypeId) (k : IntKind) (hu : P.underlying dT = some (.slice elem)) (hz : ∀ w, (zeroValue elem).run P w = .ok (.int k 0) w)
    (g off n c : Nat) (hd : a.eval d = .slice (some ⟨g, off, none⟩) n c) (hn : 0 < n) {t : TypeId} {cs : List Value} (hg : Cel w g t cs) (hfit : off + n ≤ cs.length)
    (h : ∀ w', Cel w' g t (splice cs off ((List.replicate n (0 : Int)).map (Value.int k))) → But g w w' → w'.heap.size = w.heap.size → wpList P ops Q rest (a.put o.dst (.tuple #[])) w') :
    wpList P ops Q (o :: rest) a w := by
  refine wpList_plain hgd fun K hK => ?_
  have hzc : (Builtin.zeroCells #[Value.int k 0] n).toList = (List.replicate n (0 : Int)).map (Value.int k) := by
    rw [List.map_replicate]
    have := toList_madeCells_one (Value.int k 0) n
    simpa [madeCells, Builtin.zeroCells] using this
  have hst := run_storeCells_at P g off t ((List.replicate n (0 : Int)).map (Value.int k)) 0 _ w hg (by simpa using hfit) (ints_oneCell k _)
  have := h _ (setRow_heap w g _ (splice cs off ((List.replicate n (0 : Int)).map (Value.int k))).toArray t _ hg) (but_setRow w g _) (by simp)
  obtain ⟨m, rfl⟩ : ∃ m, n = m + 1 := ⟨n - 1, by omega⟩
  have hrun : (Builtin.clear_ #[dT] o.type #[.slice (some ⟨g, off, none⟩) (m + 1) c]).run P w = .ok (.tuple #[]) (w.setRow g (splice cs off ((List.replicate (m + 1) (0 : Int)).map (Value.int k))).toArray) := by
    simp [Builtin.clear_, run_underlying hu, hz, Value.cells]
    rw [hzc, hst]
    simp [splice]
  unfold Oper.wp
  simp only [execOp, ho, resolve, invoke, builtin, hd, Sem.run_bind, Sem.run_pure, Result.andThen_ok, List.map_toArray, List.map_cons, List.map_nil, hrun]
  exact hK _ _ this

/-- An append onto a full slice, whatever is appended. -/
theorem append_full {P : Program} {w : World} {t e : TypeId} {k : IntKind} {i : TypeInfo} {z : Value} {bytes : Nat} (ht : P.underlying t = some (.slice e)) (hi : P.info? e = some i) (hz : i.zero = some z) (hsize : i.size = 1) (hby : i.bytes = bytes) (hzs : z.cells.size = 1) (ty : TypeId)
    (g o : Nat) (n : Nat) (olds : List Int) (hlo : olds.length = n) (hgl : g < w.heap.size) (ho : Row w k g o olds) (ao : Option Addr) (m c : Nat) (xs : List Int) (hx : xs.length = m) (hat : At w k ao xs) (h63 : n + m ≤ maxLen) (hbytes : (n + m) * bytes ≤ 140737488355328) :
    ∃ ao' cap' w', (Builtin.append_ #[t, t] ty #[.slice (some ⟨g, o, none⟩) n n, .slice ao m c]).run P w = .ok (.slice ao' (n + m) cap') w' ∧ n + m ≤ cap' ∧ (∃ bb lo, (bb = g ∧ lo = o ∨ w.heap.size ≤ bb) ∧ AtB w' k bb lo ao' (olds ++ xs)) ∧ Below w.heap.size w w' := by
  rcases Nat.eq_zero_or_pos m with rfl | hm
  · obtain rfl : xs = [] := List.eq_nil_of_length_eq_zero hx
    refine ⟨some ⟨g, o, none⟩, n, w, ?_, by omega, ⟨g, o, .inl ⟨rfl, rfl⟩, .inr ⟨o, rfl, Nat.le_refl _, hgl, by simpa using ho⟩⟩, Below.refl _ _⟩
    have hl : ∀ (x : Addr), (loadCells x 0).run P w = .ok #[] w := fun x => by simpa using run_loadCells_list (P := P) w x [] (by simp)
    cases ao with
    | none => simp [Builtin.append_, run_underlying ht, sizeOf, typeInfo, hi, Builtin.lenOf, Builtin.firstCells, storeCells]
    | some a => simp [Builtin.append_, run_underlying ht, sizeOf, typeInfo, hi, Builtin.lenOf, Builtin.firstCells, storeCells, hl]
  · rcases hat with hat | ⟨b', off, rfl, hb, hr⟩
    · rw [hat] at hx; simp at hx; omega
    · obtain ⟨v', w', h1, h2, h3⟩ := run_append_arg_grows (P := P) w t ty e i z 1 bytes ht hi hz hsize hby hzs (by decide) ⟨g, o, none⟩ n n (olds.map (Value.int k)) (by simp [hlo]) (fun j v hv => by rw [Addr.add_mid]; exact ho.range j v hv) ⟨b', off, none⟩ m c (xs.map (Value.int k)) (by simp [hx]) (fun j v hv => by rw [Addr.add_mid]; exact hr.range j v hv) (by omega) h63 hbytes
      have hl : (olds ++ xs).length = n + m := by simp [hlo, hx]
      rw [← List.map_append, ← hl] at h2
      have hH : Holds w w' k e v' (olds ++ xs) := ⟨h2, (Below.refl _ _).grown h3 (Nat.le_refl _) (fun _ h => by cases h)⟩
      obtain ⟨g', cap', rfl, hc, hg1, hg2, hr'⟩ := hH.form (by omega)
      rw [hl] at h1 hc
      exact ⟨_, cap', w', h1, hc, ⟨g', 0, .inr hg1, .inr ⟨0, rfl, Nat.le_refl _, hg2, hr'⟩⟩, hH.below⟩
/-- The same at a step of a region that draws. -/
theorem step_append_at {P : Program} {w : World} {ops : Array Oper} {o : Oper} {a : Act} {K : Act → World → Prop} {Q : Exit → Act → World → Prop} {F : Prop} (hgd : o.guard = none) (s x : Operand) (t : TypeId)
    (ho : o.op = .call { callee := .builtin .append, args := #[s, x], argTypes := #[t, t] }) (v u : Value) (hs : a.eval s = v) (hx : a.eval x = u)
    {R : Option Addr → Nat → World → Prop} {n : Nat} (h : ∀ ty, ∃ ao' cap' w', (Builtin.append_ #[t, t] ty #[v, u]).run P w = .ok (.slice ao' n cap') w' ∧ R ao' cap' w')
    (hK : ∀ ao' cap' w', R ao' cap' w' → K (a.put o.dst (.slice ao' n cap')) w') :
    if Region.wanted o (yielded ops a.tmps) = true then Oper.wp P o a w K Q else F := by
  have hw : Region.wanted o (yielded ops a.tmps) = true := by simp [Region.wanted, hgd]
  rw [if_pos hw]
  obtain ⟨ao', cap', w', hr, hR⟩ := h o.type
  unfold Oper.wp execOp
  simp only [ho, resolve, invoke, builtin, Sem.run_bind, Sem.run_pure, Result.andThen_ok, List.map_toArray, List.map_cons, List.map_nil, hs, hx, hr]
  exact hK _ _ _ hR
end Go.Proofs.YtialckmoigcdeaaDoor
