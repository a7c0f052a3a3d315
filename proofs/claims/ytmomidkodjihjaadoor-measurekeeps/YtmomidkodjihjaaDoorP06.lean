import Derived.Test.YtmomidkodjihjaaDoorP05
import Derived.ArgAppend
namespace Go.Proofs.YtmomidkodjihjaaDoor.H
open Go.RowKit

def Cel (w : World) (g : Nat) (t : TypeId) (cs : List Value) : Prop := w.heap[g]? = some (.cells cs.toArray t (0, 0))
theorem Cel.lt {w : World} {g : Nat} {t : TypeId} {cs : List Value} (h : Cel w g t cs) : g < w.heap.size := (Array.getElem?_eq_some_iff.1 h).1
theorem Cel.but {w w' : World} {g i : Nat} {t : TypeId} {cs : List Value} (h : Cel w i t cs) (hb : But g w w') (hi : i ≠ g) : Cel w' i t cs := (hb.block i h.lt hi).trans h
theorem Cel.below {w w' : World} {B g : Nat} {t : TypeId} {cs : List Value} (h : Cel w g t cs) (hb : Below B w w') (hg : g < B) : Cel w' g t cs := (hb.block g hg).trans h
theorem Cel.cell {w : World} {g : Nat} {t : TypeId} {cs : List Value} (h : Cel w g t cs) (j : Nat) : w.cell? ⟨g, j, none⟩ = cs[j]? := by
  rw [cell_of_row w g j _ t (0, 0) h]; simp
theorem Cel.free {w : World} {g : Nat} {t : TypeId} {cs : List Value} (h : Cel w g t cs) (j : Nat) : w.frozen? ⟨g, j, none⟩ = false := frozen_of_row w g j _ t h

theorem run_storeVar_part {P : Program} (w : World) (g off : Nat) (ty e : TypeId) (L' : List Int) {cs : List Value} (hg : Cel w g e cs) (hi : (P.info? ty).map (·.size) = some L'.length) (hl : off + L'.length ≤ cs.length) :
    (storeVar ty ⟨g, off, none⟩ (Ag L')).run P w = .ok () (w.setRow g (splice cs off (L'.map (Value.int .u32))).toArray) := by
  have := run_storeCells_at P g off e (L'.map (Value.int .u32)) 0 _ w hg (by simpa using hl) (ints_oneCell .u32 L')
  cases hq : P.info? ty with
  | none => simp [hq] at hi
  | some i =>
    have hs : L'.length = i.size := by simp [hq] at hi; omega
    simp [storeVar, Ag, sizeOf, typeInfo, hq, Value.cells, hs, this, splice]
theorem wpList_store_part {P : Program} {ops : Array Oper} {rest : List Oper} {o : Oper} {a : Act} {w : World} {Q : Exit → Act → World → Prop} (hgd : o.guard = none) (ty : TypeId) (x y : Operand) (ho : o.op = .store ty x y)
    (g off : Nat) (L' : List Int) (hx : a.eval x = .pointer (some ⟨g, off, none⟩)) (hy : a.eval y = Ag L') {e : TypeId} {cs : List Value} (hg : Cel w g e cs) (hi : (P.info? ty).map (·.size) = some L'.length) (hl : off + L'.length ≤ cs.length)
    (h : ∀ w', Cel w' g e (splice cs off (L'.map (Value.int .u32))) → But g w w' → w'.heap.size = w.heap.size → wpList P ops Q rest (a.put o.dst undef) w') : wpList P ops Q (o :: rest) a w := by
  refine wpList_plain hgd fun K hK => ?_
  have := h _ (setRow_heap w g _ (splice cs off (L'.map (Value.int .u32))).toArray e _ hg) (but_setRow w g _) (by simp)
  unfold Oper.wp execOp
  simp only [ho, hx, hy, Instr.storeAt, Instr.sureAddr, Sem.run_bind, Sem.run_pure, Result.andThen_ok, run_storeVar_part w g off ty e L' hg hi hl]
  exact hK _ _ this

theorem wpList_copy_but {P : Program} {w : World} {ops : Array Oper} {rest : List Oper} {o : Oper} {a : Act} {Q : Exit → Act → World → Prop} (hgd : o.guard = none) (d s : Operand) (dT sT : TypeId)
    (ho : o.op = .call { callee := .builtin .copy, args := #[d, s], argTypes := #[dT, sT] }) (elem : TypeId) (hu : P.underlying dT = some (.slice elem)) (hsz : (P.info? elem).map (·.size) = some 1)
    (g off : Nat) (sp : Option Addr) (dLen dCap sLen sCap : Nat) (hd : a.eval d = .slice (some ⟨g, off, none⟩) dLen dCap) (hs : a.eval s = .slice sp sLen sCap)
    {t : TypeId} {k : IntKind} {cs : List Value} (hg : Cel w g t cs) (xs : List Int) (hx : xs.length = sLen) (hat : At w k sp xs) (hle : sLen ≤ dLen) (hfit : off + xs.length ≤ cs.length)
    (h : ∀ w', Cel w' g t (splice cs off (xs.map (Value.int k))) → But g w w' → w'.heap.size = w.heap.size → wpList P ops Q rest (a.put o.dst (.int .i64 (sLen : Int))) w') :
    wpList P ops Q (o :: rest) a w := by
  by_cases h0 : sLen = 0
  · subst h0
    obtain rfl : xs = [] := List.eq_nil_of_length_eq_zero hx
    refine wpList_copy_nothing hgd d s dT sT ho elem hu hsz _ sp dLen dCap 0 sCap hd hs (by simp [Nat.min]) ?_
    exact h w (by simpa [splice] using hg) ⟨rfl, rfl, rfl, Nat.le_refl _, fun _ _ _ => rfl⟩ rfl
  · rcases hat with hat | ⟨b, o', rfl, hb, hr⟩
    · rw [hat] at hx; simp at hx; omega
    · have hml : (xs.map (Value.int k)).length = sLen := by simp [hx]
      refine wpList_copy_own hgd d s dT sT ho elem hu hsz g off dLen dCap ⟨b, o', none⟩ sLen sCap hd hs _ t hg (xs.map (Value.int k)) ?_ ?_ (by simpa using hfit) (ints_oneCell k xs) ?_
      · rw [hml]; show sLen = min sLen dLen; omega
      · intro j v hv; rw [Addr.add_mid]; exact hr.range j v hv
      · rw [hml]
        refine h _ ?_ (but_setRow w g _) (by simp)
        have := setRow_heap w g _ (splice cs off (xs.map (Value.int k))).toArray t _ hg
        simpa [splice, Cel, hx] using this

theorem wpList_clear_but {P : Program} {w : World} {ops : Array Oper} {rest : List Oper} {o : Oper} {a : Act} {Q : Exit → Act → World → Prop} (hgd : o.guard = none) (d : Operand) (dT : TypeId)
    (ho : o.op = .call { callee := .builtin .clear, args := #[d], argTypes := #[dT] }) (elem : TypeId) (k : IntKind) (hu : P.underlying dT = some (.slice elem)) (hz : ∀ w, (zeroValue elem).run P w = .ok (.int k 0) w)
    (g off n c : Nat) (hd : a.eval d = .slice (some ⟨g, off, none⟩) n c) (hn : 0 < n) {t : TypeId} {cs : List Value} (hg : Cel w g t cs) (hfit : off + n ≤ cs.length)
    (h : ∀ w', Cel w' g t (splice cs off ((List.replicate n (0 : Int)).map (Value.int k))) → But g w w' → w'.heap.size = w.heap.size → wpList P ops Q rest (a.put o.dst (.tuple #[])) w') :
    wpList P ops Q (o :: rest) a w := by
  refine wpList_plain hgd fun K hK => ?_
  have hzc : (Builtin.zeroCells #[Value.int k 0] n).toList = (List.replicate n (0 : Int)).map (Value.int k) := by
    rw [List.map_replicate]
    have := toList_madeCells_one (Value.int k 0) n
    simpa [madeCells, Builtin.zeroCells] using this
  have hst := run_storeCells_at P g off t ((List.replicate n (0 : Int)).map (Value.int k)) 0 _ w hg (by simpa using hfit) (ints_oneCell k _)
  have := h _ (setRow_heap w g _ (splice cs off ((List.replicate n (0 : Int)).map (Value.int k))).toArray t _ hg) (but_setRow w g _) (by simp)
  obtain ⟨m, rfl⟩ : ∃ m, n = m + 1 := ⟨n - 1, by omega⟩
  have hrun : (Builtin.clear_ #[dT] o.type #[.slice (some ⟨g, off, none⟩) (m + 1) c]).run P w = .ok (.tuple #[]) (w.setRow g (splice cs off ((List.replicate (m + 1) (0 : Int)).map (Value.int k))).toArray) := by
    simp [Builtin.clear_, run_underlying hu, hz, Value.cells]
    rw [hzc, hst]
    simp [splice]
  unfold Oper.wp
  simp only [execOp, ho, resolve, invoke, builtin, hd, Sem.run_bind, Sem.run_pure, Result.andThen_ok, List.map_toArray, List.map_cons, List.map_nil, hrun]
  exact hK _ _ this

theorem append_full {P : Program} {w : World} {t e : TypeId} {k : IntKind} {i : TypeInfo} {z : Value} {bytes : Nat} (ht : P.underlying t = some (.slice e)) (hi : P.info? e = some i) (hz : i.zero = some z) (hsize : i.size = 1) (hby : i.bytes = bytes) (hzs : z.cells.size = 1) (ty : TypeId)
    (g o : Nat) (n : Nat) (olds : List Int) (hlo : olds.length = n) (hgl : g < w.heap.size) (ho : Row w k g o olds) (ao : Option Addr) (m c : Nat) (xs : List Int) (hx : xs.length = m) (hat : At w k ao xs) (h63 : n + m ≤ maxLen) (hbytes : (n + m) * bytes ≤ 140737488355328) :
    ∃ ao' cap' w', (Builtin.append_ #[t, t] ty #[.slice (some ⟨g, o, none⟩) n n, .slice ao m c]).run P w = .ok (.slice ao' (n + m) cap') w' ∧ n + m ≤ cap' ∧ (∃ bb lo, (bb = g ∧ lo = o ∨ w.heap.size ≤ bb) ∧ AtB w' k bb lo ao' (olds ++ xs)) ∧ Below w.heap.size w w' := by
  rcases Nat.eq_zero_or_pos m with rfl | hm
  · obtain rfl : xs = [] := List.eq_nil_of_length_eq_zero hx
    refine ⟨some ⟨g, o, none⟩, n, w, ?_, by omega, ⟨g, o, .inl ⟨rfl, rfl⟩, .inr ⟨o, rfl, Nat.le_refl _, hgl, by simpa using ho⟩⟩, Below.refl _ _⟩
    have hl : ∀ (x : Addr), (loadCells x 0).run P w = .ok #[] w := fun x => by simpa using run_loadCells_list (P := P) w x [] (by simp)
    cases ao with
    | none => simp [Builtin.append_, run_underlying ht, sizeOf, typeInfo, hi, Builtin.lenOf, Builtin.firstCells, storeCells]
    | some a => simp [Builtin.append_, run_underlying ht, sizeOf, typeInfo, hi, Builtin.lenOf, Builtin.firstCells, storeCells, hl]
  · rcases hat with hat | ⟨b', off, rfl, hb, hr⟩
    · rw [hat] at hx; simp at hx; omega
    · obtain ⟨v', w', h1, h2, h3⟩ := run_append_arg_grows (P := P) w t ty e i z 1 bytes ht hi hz hsize hby hzs (by decide) ⟨g, o, none⟩ n n (olds.map (Value.int k)) (by simp [hlo]) (fun j v hv => by rw [Addr.add_mid]; exact ho.range j v hv) ⟨b', off, none⟩ m c (xs.map (Value.int k)) (by simp [hx]) (fun j v hv => by rw [Addr.add_mid]; exact hr.range j v hv) (by omega) h63 hbytes
      have hl : (olds ++ xs).length = n + m := by simp [hlo, hx]
      rw [← List.map_append, ← hl] at h2
      have hH : Holds w w' k e v' (olds ++ xs) := ⟨h2, (Below.refl _ _).grown h3 (Nat.le_refl _) (fun _ h => by cases h)⟩
      obtain ⟨g', cap', rfl, hc, hg1, hg2, hr'⟩ := hH.form (by omega)
      rw [hl] at h1 hc
      exact ⟨_, cap', w', h1, hc, ⟨g', 0, .inr hg1, .inr ⟨0, rfl, Nat.le_refl _, hg2, hr'⟩⟩, hH.below⟩
theorem step_append_at {P : Program} {w : World} {ops : Array Oper} {o : Oper} {a : Act} {K : Act → World → Prop} {Q : Exit → Act → World → Prop} {F : Prop} (hgd : o.guard = none) (s x : Operand) (t : TypeId)
    (ho : o.op = .call { callee := .builtin .append, args := #[s, x], argTypes := #[t, t] }) (v u : Value) (hs : a.eval s = v) (hx : a.eval x = u)
    {R : Option Addr → Nat → World → Prop} {n : Nat} (h : ∀ ty, ∃ ao' cap' w', (Builtin.append_ #[t, t] ty #[v, u]).run P w = .ok (.slice ao' n cap') w' ∧ R ao' cap' w')
    (hK : ∀ ao' cap' w', R ao' cap' w' → K (a.put o.dst (.slice ao' n cap')) w') :
    if Region.wanted o (yielded ops a.tmps) = true then Oper.wp P o a w K Q else F := by
  have hw : Region.wanted o (yielded ops a.tmps) = true := by simp [Region.wanted, hgd]
  rw [if_pos hw]
  obtain ⟨ao', cap', w', hr, hR⟩ := h o.type
  unfold Oper.wp execOp
  simp only [ho, resolve, invoke, builtin, Sem.run_bind, Sem.run_pure, Result.andThen_ok, List.map_toArray, List.map_cons, List.map_nil, hs, hx, hr]
  exact hK _ _ _ hR
end Go.Proofs.YtmomidkodjihjaaDoor.H
namespace Go.Proofs.YtmomidkodjihjaaDoor.H
open Go.RowKit

def digC (A : List Int) (n : Nat) (q : List Int) : List Value := A.map (Value.int .u32) ++ (Value.int .i64 (n : Int) :: q.map (Value.int .u32))
structure Dig (W : World) (g : Nat) (A : List Int) (n : Nat) (p : List Int) : Prop where
  al : A.length = 8
  nl : n ≤ 36028797018963968
  pl : p.length = n % 16
  cells : ∃ r : List Int, (p ++ r).length = 16 ∧ Cel W g 121 (digC A n (p ++ r))
theorem digC_length (A : List Int) (n : Nat) (q : List Int) (hA : A.length = 8) (hq : q.length = 16) : (digC A n q).length = 25 := by simp [digC, hA, hq]
theorem digC_n (A : List Int) (n : Nat) (q : List Int) (hA : A.length = 8) : (digC A n q)[8]? = some (.int .i64 (n : Int)) := by
  unfold digC
  rw [List.getElem?_append_right (by simp [hA])]
  simp [hA]
theorem Dig.lt {W : World} {g : Nat} {A : List Int} {n : Nat} {p : List Int} (h : Dig W g A n p) : g < W.heap.size := by obtain ⟨r, _, h⟩ := h.cells; exact h.lt
theorem Dig.cellN {W : World} {g : Nat} {A : List Int} {n : Nat} {p : List Int} (h : Dig W g A n p) : W.cell? ⟨g, 8, none⟩ = some (.int .i64 (n : Int)) := by
  obtain ⟨r, _, hc⟩ := h.cells
  rw [hc.cell, digC_n _ _ _ h.al]
theorem cel_rowA {W : World} {g : Nat} {A : List Int} {n : Nat} {q : List Int} (hc : Cel W g 121 (digC A n q)) : Row W .u32 g 0 A := by
  intro i hi
  rw [Nat.zero_add, hc.cell]
  unfold digC
  rw [List.getElem?_append_left (by simpa using hi)]
  simp [List.getD_eq_getElem?_getD, hi]
theorem cel_rowP {W : World} {g : Nat} {A : List Int} {n : Nat} {q : List Int} (hA : A.length = 8) (hc : Cel W g 121 (digC A n q)) : Row W .u32 g 9 q := by
  intro i hi
  rw [hc.cell]
  unfold digC
  rw [List.getElem?_append_right (by simp [hA]; omega)]
  simp only [List.length_map, hA]
  rw [show 9 + i - 8 = i + 1 by omega, List.getElem?_cons_succ]
  simp [List.getD_eq_getElem?_getD, hi]
theorem Dig.rowA {W : World} {g : Nat} {A : List Int} {n : Nat} {p : List Int} (h : Dig W g A n p) : Row W .u32 g 0 A := by
  obtain ⟨r, _, hc⟩ := h.cells
  exact cel_rowA hc
theorem Dig.rowP {W : World} {g : Nat} {A : List Int} {n : Nat} {p : List Int} (h : Dig W g A n p) : Row W .u32 g 9 p := by
  obtain ⟨r, _, hc⟩ := h.cells
  exact (cel_rowP h.al hc).head
theorem Dig.below {W w : World} {B g : Nat} {A : List Int} {n : Nat} {p : List Int} (h : Dig W g A n p) (hb : Below B W w) (hg : g < B) : Dig w g A n p := by
  obtain ⟨r, hr, hc⟩ := h.cells
  exact ⟨h.al, h.nl, h.pl, r, hr, hc.below hb hg⟩
theorem Dig.but {W w : World} {g i : Nat} {A : List Int} {n : Nat} {p : List Int} (h : Dig W i A n p) (hb : But g W w) (hg : i ≠ g) : Dig w i A n p := by
  obtain ⟨r, hr, hc⟩ := h.cells
  exact ⟨h.al, h.nl, h.pl, r, hr, hc.but hb hg⟩
theorem Dig.at {W : World} {g : Nat} {A : List Int} {n : Nat} {p : List Int} (h : Dig W g A n p) : At W .u32 (some ⟨g, 9, none⟩) p := .inr ⟨g, 9, rfl, h.lt, h.rowP⟩

theorem row_behind {W w : World} {g : Nat} {A M : List Int} {n k : Nat} {q : List Int} {off : Nat} {R : List Int} (hA : A.length = 8) (hM : M.length = 8) (h : Cel W g 121 (digC A n q)) (h' : Cel w g 121 (digC M k q)) (ho : 9 ≤ off) (hr : Row W .u32 g off R) : Row w .u32 g off R := by
  intro i hi
  rw [← hr i hi, h.cell, h'.cell]
  unfold digC
  rw [List.getElem?_append_right (by simp [hM]; omega), List.getElem?_append_right (by simp [hA]; omega)]
  simp only [List.length_map, hA, hM]
  obtain ⟨j, hj⟩ : ∃ j, off + i - 8 = j + 1 := ⟨off + i - 9, by omega⟩
  rw [hj, List.getElem?_cons_succ, List.getElem?_cons_succ]
theorem waiting_any (W : World) (g : Nat) (A : List Int) (n : Nat) (p : List Int) (D : Dig W g A n p) :
    Calls Tryd.prog 60 #[.pointer (some ⟨g, 0, none⟩)] W fun e W' => e = .returned (.slice (some ⟨g, 9, none⟩) (n % 16) (n % 16)) ∧ W = W' := by
  have c := D.cellN
  have hn := D.nl
  have i1 : (n : Int) ≤ 36028797018963968 := by omega
  obtain ⟨t, ht⟩ : ∃ t : Nat, n % 16 = t := ⟨_, rfl⟩
  have e : (n : Int) % 16 = (t : Int) := by omega
  have i2 : (t : Int) ≤ 16 := by omega
  rw [ht]
  clear D hn ht
  go_enter Tryd.func60, Tryd.ntmps60
  go_wp2
  go_ret
  exact ⟨rfl, rfl⟩
theorem high_any (W : World) (n : Int) (h0 : 0 ≤ n) (h1 : n < 18446744073709551616) :
    Calls Tryd.prog 58 #[.int .u64 n] W fun e W' => e = .returned (.int .u32 (n / 4294967296)) ∧ W = W' := by
  go_enter Tryd.func58, Tryd.ntmps58
  go_wp2
  go_ret
  exact ⟨rfl, rfl⟩
theorem low_any (W : World) (n : Int) :
    Calls Tryd.prog 59 #[.int .u64 n] W fun e W' => e = .returned (.int .u32 (n % 4294967296)) ∧ W = W' := by
  go_enter Tryd.func59, Tryd.ntmps59
  go_wp2
  go_ret
  exact ⟨rfl, rfl⟩
end Go.Proofs.YtmomidkodjihjaaDoor.H
namespace Go.Proofs.YtmomidkodjihjaaDoor.H
open Go.RowKit

set_option maxRecDepth 20000 in
theorem first_any (W : World) :
    Calls Tryd.prog 57 #[] W fun e W' => e = .returned (Ag S.First) ∧ Below W.heap.size W W' := by
  have b := Blk.new W .u32 44 [0, 0, 0, 0, 0, 0, 0, 0]
  have B : Hid (Blk (W.alloc (.cells #[.int .u32 0, .int .u32 0, .int .u32 0, .int .u32 0, .int .u32 0, .int .u32 0, .int .u32 0, .int .u32 0] 44)) W.heap.size .u32 44 [0, 0, 0, 0, 0, 0, 0, 0]) := b
  clear b
  go_enter Tryd.func57, Tryd.ntmps57
  go_wp2_with (first | (refine wpList_store_blk rfl 44 _ _ rfl W.heap.size S.First rfl rfl B.out size27 rfl ?_))
  refine ret_cell rfl rfl W.heap.size S.First rfl (B.out.setRow _) Tryd.underlying44 size27 ⟨rfl, ?_⟩
  exact below_setRow (below_one _ _) (Nat.le_refl _) _
set_option maxRecDepth 20000 in
theorem new_any (W : World) :
    Calls Tryd.prog 41 #[] W fun e W' => ∃ g, W.heap.size ≤ g ∧ e = .returned (.pointer (some ⟨g, 0, none⟩)) ∧ Dig W' g S.First 0 [] ∧ Below W.heap.size W W' := by
  go_enter Tryd.func41, Tryd.ntmps41
  go_wp2_with (first | (go_at_call 57; refine (first_any _).mono ?_; rintro e w' ⟨rfl, hb⟩; unfold Ag S.First))
  go_ret
  exact ⟨_, hb.size, rfl, ⟨rfl, by decide, rfl, List.replicate 16 0, rfl, heap_alloc_new _ _⟩, hb.alloc hb.size _⟩

theorem wpList_load_cel {P : Program} {ops : Array Oper} {rest : List Oper} {o : Oper} {a : Act} {w : World} {Q : Exit → Act → World → Prop} (hgd : o.guard = none) (ty : TypeId) (x : Operand) (ho : o.op = .load ty x)
    (g : Nat) (cs : List Value) (hx : a.eval x = .pointer (some ⟨g, 0, none⟩)) {e : TypeId} {d : TypeDesc} (hg : Cel w g e cs) (hu : P.underlying ty = some d) (hd : (match d with | .struct _ | .array _ _ => true | _ => false) = true) (hi : (P.info? ty).map (·.size) = some cs.length)
    (h : wpList P ops Q rest (a.put o.dst (.agg cs.toArray)) w) : wpList P ops Q (o :: rest) a w :=
  wpList_load_row hgd ty x ho g hx e _ (0, 0) _ hg hu hd (by rw [hi]; simp) h
attribute [-simp] Tryd.isAgg121 Tryd.sizeOf121 Tryd.zeroValue121
end Go.Proofs.YtmomidkodjihjaaDoor.H
