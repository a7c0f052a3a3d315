import Derived.Test.YtdfnbcbnmiohnaaGreatDoorP02
import Derived.ArgAppend
import Derived.Test.YtdfnbcbnmiohnaaGreatDoorP01
namespace Go.Proofs.YtdfnbcbnmiohnaaGreatDoor.H
open Go.RowKit

def Cel (w : World) (g : Nat) (t : TypeId) (cs : List Value) : Prop := w.heap[g]? = some (.cells cs.toArray t (0, 0))
theorem Cel.lt {w : World} {g : Nat} {t : TypeId} {cs : List Value} (h : Cel w g t cs) : g < w.heap.size := (Array.getElem?_eq_some_iff.1 h).1
theorem Cel.but {w w' : World} {g i : Nat} {t : TypeId} {cs : List Value} (h : Cel w i t cs) (hb : But g w w') (hi : i ≠ g) : Cel w' i t cs := (hb.block i h.lt hi).trans h
theorem Cel.below {w w' : World} {B g : Nat} {t : TypeId} {cs : List Value} (h : Cel w g t cs) (hb : Below B w w') (hg : g < B) : Cel w' g t cs := (hb.block g hg).trans h
theorem Cel.cell {w : World} {g : Nat} {t : TypeId} {cs : List Value} (h : Cel w g t cs) (j : Nat) : w.cell? ⟨g, j, none⟩ = cs[j]? := by
  rw [cell_of_row w g j _ t (0, 0) h]; simp
theorem Cel.free {w : World} {g : Nat} {t : TypeId} {cs : List Value} (h : Cel w g t cs) (j : Nat) : w.frozen? ⟨g, j, none⟩ = false := frozen_of_row w g j _ t h

theorem run_storeVar_part {P : Program} (w : World) (g off : Nat) (ty e : TypeId) (L' : List Int) {cs : List Value} (hg : Cel w g e cs) (hi : (P.info? ty).map (·.size) = some L'.length) (hl : off + L'.length ≤ cs.length) :
    (storeVar ty ⟨g, off, none⟩ (Ag L')).run P w = .ok () (w.setRow g (splice cs off (L'.map (Value.int .u32))).toArray) := by
  have := run_storeCells_at P g off e (L'.map (Value.int .u32)) 0 _ w hg (by simpa using hl) (ints_oneCell .u32 L')
  cases hq : P.info? ty with
  | none => simp [hq] at hi
  | some i =>
    have hs : L'.length = i.size := by simp [hq] at hi; omega
    simp [storeVar, Ag, sizeOf, typeInfo, hq, Value.cells, hs, this, splice]
theorem wpList_store_part {P : Program} {ops : Array Oper} {rest : List Oper} {o : Oper} {a : Act} {w : World} {Q : Exit → Act → World → Prop} (hgd : o.guard = none) (ty : TypeId) (x y : Operand) (ho : o.op = .store ty x y)
    (g off : Nat) (L' : List Int) (hx : a.eval x = .pointer (some ⟨g, off, none⟩)) (hy : a.eval y = Ag L') {e : TypeId} {cs : List Value} (hg : Cel w g e cs) (hi : (P.info? ty).map (·.size) = some L'.length) (hl : off + L'.length ≤ cs.length)
    (h : ∀ w', Cel w' g e (splice cs off (L'.map (Value.int .u32))) → But g w w' → w'.heap.size = w.heap.size → wpList P ops Q rest (a.put o.dst undef) w') : wpList P ops Q (o :: rest) a w := by
  refine wpList_plain hgd fun K hK => ?_
  have := h _ (setRow_heap w g _ (splice cs off (L'.map (Value.int .u32))).toArray e _ hg) (but_setRow w g _) (by simp)
  unfold Oper.wp execOp
  simp only [ho, hx, hy, Instr.storeAt, Instr.sureAddr, Sem.run_bind, Sem.run_pure, Result.andThen_ok, run_storeVar_part w g off ty e L' hg hi hl]
  exact hK _ _ this

theorem wpList_copy_but {P : Program} {w : World} {ops : Array Oper} {rest : List Oper} {o : Oper} {a : Act} {Q : Exit → Act → World → Prop} (hgd : o.guard = none) (d s : Operand) (dT sT : TypeId)
    (ho : o.op = .call { callee := .builtin .copy, args := #[d, s], argTypes := #[dT, sT] }) (elem : TypeId) (hu : P.underlying dT = some (.slice elem)) (hsz : (P.info? elem).map (·.size) = some 1)
    (g off : Nat) (sp : Option Addr) (dLen dCap sLen sCap : Nat) (hd : a.eval d = .slice (some ⟨g, off, none⟩) dLen dCap) (hs : a.eval s = .slice sp sLen sCap)
    {t : TypeId} {k : IntKind} {cs : List Value} (hg : Cel w g t cs) (xs : List Int) (hx : xs.length = sLen) (hat : At w k sp xs) (hle : sLen ≤ dLen) (hfit : off + xs.length ≤ cs.length)
    (h : ∀ w', Cel w' g t (splice cs off (xs.map (Value.int k))) → But g w w' → w'.heap.size = w.heap.size → wpList P ops Q rest (a.put o.dst (.int .i64 (sLen : Int))) w') :
    wpList P ops Q (o :: rest) a w := by
  by_cases h0 : sLen = 0
  · subst h0
    obtain rfl : xs = [] := List.eq_nil_of_length_eq_zero hx
    refine wpList_copy_nothing hgd d s dT sT ho elem hu hsz _ sp dLen dCap 0 sCap hd hs (by simp [Nat.min]) ?_
    exact h w (by simpa [splice] using hg) ⟨rfl, rfl, rfl, Nat.le_refl _, fun _ _ _ => rfl⟩ rfl
  · rcases hat with hat | ⟨b, o', rfl, hb, hr⟩
    · rw [hat] at hx; simp at hx; omega
    · have hml : (xs.map (Value.int k)).length = sLen := by simp [hx]
      refine wpList_copy_own hgd d s dT sT ho elem hu hsz g off dLen dCap ⟨b, o', none⟩ sLen sCap hd hs _ t hg (xs.map (Value.int k)) ?_ ?_ (by simpa using hfit) (ints_oneCell k xs) ?_
      · rw [hml]; show sLen = min sLen dLen; omega
      · intro j v hv; rw [Addr.add_mid]; exact hr.range j v hv
      · rw [hml]
        refine h _ ?_ (but_setRow w g _) (by simp)
        have := setRow_heap w g _ (splice cs off (xs.map (Value.int k))).toArray t _ hg
        simpa [splice, Cel, hx] using this

theorem wpList_clear_but {P : Program} {w : World} {ops : Array Oper} {rest : List Oper} {o : Oper} {a : Act} {Q : Exit → Act → World → Prop} (hgd : o.guard = none) (d : Operand) (dT : TypeId)
    (ho : o.op = .call { callee := .builtin .clear, args := #[d], argTypes := #[dT] }) (elem : TypeId) (k : IntKind) (hu : P.underlying dT = some (.slice elem)) (hz : ∀ w, (zeroValue elem).run P w = .ok (.int k 0) w)
    (g off n c : Nat) (hd : a.eval d = .slice (some ⟨g, off, none⟩) n c) (hn : 0 < n) {t : TypeId} {cs : List Value} (hg : Cel w g t cs) (hfit : off + n ≤ cs.length)
    (h : ∀ w', Cel w' g t (splice cs off ((List.replicate n (0 : Int)).map (Value.int k))) → But g w w' → w'.heap.size = w.heap.size → wpList P ops Q rest (a.put o.dst (.tuple #[])) w') :
    wpList P ops Q (o :: rest) a w := by
  refine wpList_plain hgd fun K hK => ?_
  have hzc : (Builtin.zeroCells #[Value.int k 0] n).toList = (List.replicate n (0 : Int)).map (Value.int k) := by
    rw [List.map_replicate]
    have := toList_madeCells_one (Value.int k 0) n
    simpa [madeCells, Builtin.zeroCells] using this
  have hst := run_storeCells_at P g off t ((List.replicate n (0 : Int)).map (Value.int k)) 0 _ w hg (by simpa using hfit) (ints_oneCell k _)
  have := h _ (setRow_heap w g _ (splice cs off ((List.replicate n (0 : Int)).map (Value.int k))).toArray t _ hg) (but_setRow w g _) (by simp)
  obtain ⟨m, rfl⟩ : ∃ m, n = m + 1 := ⟨n - 1, by omega⟩
  have hrun : (Builtin.clear_ #[dT] o.type #[.slice (some ⟨g, off, none⟩) (m + 1) c]).run P w = .ok (.tuple #[]) (w.setRow g (splice cs off ((List.replicate (m + 1) (0 : Int)).map (Value.int k))).toArray) := by
    simp [Builtin.clear_, run_underlying hu, hz, Value.cells]
    rw [hzc, hst]
    simp [splice]
  unfold Oper.wp
  simp only [execOp, ho, resolve, invoke, builtin, hd, Sem.run_bind, Sem.run_pure, Result.andThen_ok, List.map_toArray, List.map_cons, List.map_nil, hrun]
  exact hK _ _ this

theorem append_full {P : Program} {w : World} {t e : TypeId} {k : IntKind} {i : TypeInfo} {z : Value} {bytes : Nat} (ht : P.underlying t = some (.slice e)) (hi : P.info? e = some i) (hz : i.zero = some z) (hsize : i.size = 1) (hby : i.bytes = bytes) (hzs : z.cells.size = 1) (ty : TypeId)
    (g o : Nat) (n : Nat) (olds : List Int) (hlo : olds.length = n) (hgl : g < w.heap.size) (ho : Row w k g o olds) (ao : Option Addr) (m c : Nat) (xs : List Int) (hx : xs.length = m) (hat : At w k ao xs) (h63 : n + m ≤ maxLen) (hbytes : (n + m) * bytes ≤ 140737488355328) :
    ∃ ao' cap' w', (Builtin.append_ #[t, t] ty #[.slice (some ⟨g, o, none⟩) n n, .slice ao m c]).run P w = .ok (.slice ao' (n + m) cap') w' ∧ n + m ≤ cap' ∧ (∃ bb lo, (bb = g ∧ lo = o ∨ w.heap.size ≤ bb) ∧ AtB w' k bb lo ao' (olds ++ xs)) ∧ Below w.heap.size w w' := by
  rcases Nat.eq_zero_or_pos m with rfl | hm
  · obtain rfl : xs = [] := List.eq_nil_of_length_eq_zero hx
    refine ⟨some ⟨g, o, none⟩, n, w, ?_, by omega, ⟨g, o, .inl ⟨rfl, rfl⟩, .inr ⟨o, rfl, Nat.le_refl _, hgl, by simpa using ho⟩⟩, Below.refl _ _⟩
    have hl : ∀ (x : Addr), (loadCells x 0).run P w = .ok #[] w := fun x => by simpa using run_loadCells_list (P := P) w x [] (by simp)
    cases ao with
    | none => simp [Builtin.append_, run_underlying ht, sizeOf, typeInfo, hi, Builtin.lenOf, Builtin.firstCells, storeCells]
    | some a => simp [Builtin.append_, run_underlying ht, sizeOf, typeInfo, hi, Builtin.lenOf, Builtin.firstCells, storeCells, hl]
  · rcases hat with hat | ⟨b', off, rfl, hb, hr⟩
    · rw [hat] at hx; simp at hx; omega
    · obtain ⟨v', w', h1, h2, h3⟩ := run_append_arg_grows (P := P) w t ty e i z 1 bytes ht hi hz hsize hby hzs (by decide) ⟨g, o, none⟩ n n (olds.map (Value.int k)) (by simp [hlo]) (fun j v hv => by rw [Addr.add_mid]; exact ho.range j v hv) ⟨b', off, none⟩ m c (xs.map (Value.int k)) (by simp [hx]) (fun j v hv => by rw [Addr.add_mid]; exact hr.range j v hv) (by omega) h63 hbytes
      have hl : (olds ++ xs).length = n + m := by simp [hlo, hx]
      rw [← List.map_append, ← hl] at h2
      have hH : Holds w w' k e v' (olds ++ xs) := ⟨h2, (Below.refl _ _).grown h3 (Nat.le_refl _) (fun _ h => by cases h)⟩
      obtain ⟨g', cap', rfl, hc, hg1, hg2, hr'⟩ := hH.form (by omega)
      rw [hl] at h1 hc
      exact ⟨_, cap', w', h1, hc, ⟨g', 0, .inr hg1, .inr ⟨0, rfl, Nat.le_refl _, hg2, hr'⟩⟩, hH.below⟩
theorem step_append_at {P : Program} {w : World} {ops : Array Oper} {o : Oper} {a : Act} {K : Act → World → Prop} {Q : Exit → Act → World → Prop} {F : Prop} (hgd : o.guard = none) (s x : Operand) (t : TypeId)
    (ho : o.op = .call { callee := .builtin .append, args := #[s, x], argTypes := #[t, t] }) (v u : Value) (hs : a.eval s = v) (hx : a.eval x = u)
    {R : Option Addr → Nat → World → Prop} {n : Nat} (h : ∀ ty, ∃ ao' cap' w', (Builtin.append_ #[t, t] ty #[v, u]).run P w = .ok (.slice ao' n cap') w' ∧ R ao' cap' w')
    (hK : ∀ ao' cap' w', R ao' cap' w' → K (a.put o.dst (.slice ao' n cap')) w') :
    if Region.wanted o (yielded ops a.tmps) = true then Oper.wp P o a w K Q else F := by
  have hw : Region.wanted o (yielded ops a.tmps) = true := by simp [Region.wanted, hgd]
  rw [if_pos hw]
  obtain ⟨ao', cap', w', hr, hR⟩ := h o.type
  unfold Oper.wp execOp
  simp only [ho, resolve, invoke, builtin, Sem.run_bind, Sem.run_pure, Result.andThen_ok, List.map_toArray, List.map_cons, List.map_nil, hs, hx, hr]
  exact hK _ _ _ hR
end Go.Proofs.YtdfnbcbnmiohnaaGreatDoor.H
namespace Go.Proofs.YtdfnbcbnmiohnaaGreatDoor.H
open Go.RowKit

def digC (A : List Int) (n : Nat) (q : List Int) : List Value := A.map (Value.int .u32) ++ (Value.int .i64 (n : Int) :: q.map (Value.int .u32))
structure Dig (W : World) (g : Nat) (A : List Int) (n : Nat) (p : List Int) : Prop where
  al : A.length = 8
  nl : n ≤ 36028797018963968
  pl : p.length = n % 16
  cells : ∃ r : List Int, (p ++ r).length = 16 ∧ Cel W g 168 (digC A n (p ++ r))
theorem digC_length (A : List Int) (n : Nat) (q : List Int) (hA : A.length = 8) (hq : q.length = 16) : (digC A n q).length = 25 := by simp [digC, hA, hq]
theorem digC_n (A : List Int) (n : Nat) (q : List Int) (hA : A.length = 8) : (digC A n q)[8]? = some (.int .i64 (n : Int)) := by
  unfold digC
  rw [List.getElem?_append_right (by simp [hA])]
  simp [hA]
theorem Dig.lt {W : World} {g : Nat} {A : List Int} {n : Nat} {p : List Int} (h : Dig W g A n p) : g < W.heap.size := by obtain ⟨r, _, h⟩ := h.cells; exact h.lt
theorem Dig.cellN {W : World} {g : Nat} {A : List Int} {n : Nat} {p : List Int} (h : Dig W g A n p) : W.cell? ⟨g, 8, none⟩ = some (.int .i64 (n : Int)) := by
  obtain ⟨r, _, hc⟩ := h.cells
  rw [hc.cell, digC_n _ _ _ h.al]
theorem cel_rowA {W : World} {g : Nat} {A : List Int} {n : Nat} {q : List Int} (hc : Cel W g 168 (digC A n q)) : Row W .u32 g 0 A := by
  intro i hi
  rw [Nat.zero_add, hc.cell]
  unfold digC
  rw [List.getElem?_append_left (by simpa using hi)]
  simp [List.getD_eq_getElem?_getD, hi]
theorem cel_rowP {W : World} {g : Nat} {A : List Int} {n : Nat} {q : List Int} (hA : A.length = 8) (hc : Cel W g 168 (digC A n q)) : Row W .u32 g 9 q := by
  intro i hi
  rw [hc.cell]
  unfold digC
  rw [List.getElem?_append_right (by simp [hA]; omega)]
  simp only [List.length_map, hA]
  rw [show 9 + i - 8 = i + 1 by omega, tqH]
  simp [List.getD_eq_getElem?_getD, hi]
theorem Dig.rowA {W : World} {g : Nat} {A : List Int} {n : Nat} {p : List Int} (h : Dig W g A n p) : Row W .u32 g 0 A := by
  obtain ⟨r, _, hc⟩ := h.cells
  exact cel_rowA hc
theorem Dig.rowP {W : World} {g : Nat} {A : List Int} {n : Nat} {p : List Int} (h : Dig W g A n p) : Row W .u32 g 9 p := by
  obtain ⟨r, _, hc⟩ := h.cells
  exact (cel_rowP h.al hc).head
theorem Dig.below {W w : World} {B g : Nat} {A : List Int} {n : Nat} {p : List Int} (h : Dig W g A n p) (hb : Below B W w) (hg : g < B) : Dig w g A n p := by
  obtain ⟨r, hr, hc⟩ := h.cells
  exact ⟨h.al, h.nl, h.pl, r, hr, hc.below hb hg⟩
theorem Dig.but {W w : World} {g i : Nat} {A : List Int} {n : Nat} {p : List Int} (h : Dig W i A n p) (hb : But g W w) (hg : i ≠ g) : Dig w i A n p := by
  obtain ⟨r, hr, hc⟩ := h.cells
  exact ⟨h.al, h.nl, h.pl, r, hr, hc.but hb hg⟩
theorem Dig.at {W : World} {g : Nat} {A : List Int} {n : Nat} {p : List Int} (h : Dig W g A n p) : At W .u32 (some ⟨g, 9, none⟩) p := .inr ⟨g, 9, rfl, h.lt, h.rowP⟩

theorem row_behind {W w : World} {g : Nat} {A M : List Int} {n k : Nat} {q : List Int} {off : Nat} {R : List Int} (hA : A.length = 8) (hM : M.length = 8) (h : Cel W g 168 (digC A n q)) (h' : Cel w g 168 (digC M k q)) (ho : 9 ≤ off) (hr : Row W .u32 g off R) : Row w .u32 g off R := by
  intro i hi
  rw [← hr i hi, h.cell, h'.cell]
  unfold digC
  rw [List.getElem?_append_right (by simp [hM]; omega), List.getElem?_append_right (by simp [hA]; omega)]
  simp only [List.length_map, hA, hM]
  obtain ⟨j, hj⟩ : ∃ j, off + i - 8 = j + 1 := ⟨off + i - 9, by omega⟩
  rw [hj, tqH, tqH]
theorem waiting_any (W : World) (g : Nat) (A : List Int) (n : Nat) (p : List Int) (D : Dig W g A n p) :
    Calls Tryz.prog 104 #[.pointer (some ⟨g, 0, none⟩)] W fun e W' => e = .returned (.slice (some ⟨g, 9, none⟩) (n % 16) (n % 16)) ∧ W = W' := by
  have c := D.cellN
  have hn := D.nl
  have i1 : (n : Int) ≤ 36028797018963968 := by omega
  obtain ⟨t, ht⟩ : ∃ t : Nat, n % 16 = t := ⟨_, rfl⟩
  have e : (n : Int) % 16 = (t : Int) := by omega
  have i2 : (t : Int) ≤ 16 := by omega
  rw [ht]
  clear D hn ht
  go_enter Tryz.func104, Tryz.ntmps104
  go_wp2
  go_ret
  exact ⟨rfl, rfl⟩
theorem high_any (W : World) (n : Int) (h0 : 0 ≤ n) (h1 : n < 18446744073709551616) :
    Calls Tryz.prog 102 #[.int .u64 n] W fun e W' => e = .returned (.int .u32 (n / 4294967296)) ∧ W = W' := by
  go_enter Tryz.func102, Tryz.ntmps102
  go_wp2
  go_ret
  exact ⟨rfl, rfl⟩
theorem low_any (W : World) (n : Int) :
    Calls Tryz.prog 103 #[.int .u64 n] W fun e W' => e = .returned (.int .u32 (n % 4294967296)) ∧ W = W' := by
  go_enter Tryz.func103, Tryz.ntmps103
  go_wp2
  go_ret
  exact ⟨rfl, rfl⟩
end Go.Proofs.YtdfnbcbnmiohnaaGreatDoor.H
namespace Go.Proofs.YtdfnbcbnmiohnaaGreatDoor.H
open Go.RowKit

set_option maxRecDepth 20000 in
theorem first_any (W : World) :
    Calls Tryz.prog 101 #[] W fun e W' => e = .returned (Ag S.First) ∧ Below W.heap.size W W' := by
  have b := Blk.new W .u32 55 [0, 0, 0, 0, 0, 0, 0, 0]
  have B : Hid (Blk (W.alloc (.cells #[.int .u32 0, .int .u32 0, .int .u32 0, .int .u32 0, .int .u32 0, .int .u32 0, .int .u32 0, .int .u32 0] 55)) W.heap.size .u32 55 [0, 0, 0, 0, 0, 0, 0, 0]) := b
  clear b
  go_enter Tryz.func101, Tryz.ntmps101
  go_wp2_with (first | (refine wpList_store_blk rfl 55 _ _ rfl W.heap.size S.First rfl rfl B.out size27 rfl ?_))
  refine ret_cell rfl rfl W.heap.size S.First rfl (B.out.setRow _) Tryz.underlying55 size27 ⟨rfl, ?_⟩
  exact below_setRow (below_one _ _) (Nat.le_refl _) _
set_option maxRecDepth 20000 in
theorem new_any (W : World) :
    Calls Tryz.prog 55 #[] W fun e W' => ∃ g, W.heap.size ≤ g ∧ e = .returned (.pointer (some ⟨g, 0, none⟩)) ∧ Dig W' g S.First 0 [] ∧ Below W.heap.size W W' := by
  go_enter Tryz.func55, Tryz.ntmps55
  go_wp2_with (first | (go_at_call 101; refine (first_any _).mono ?_; rintro e w' ⟨rfl, hb⟩; unfold Ag S.First))
  go_ret
  exact ⟨_, hb.size, rfl, ⟨rfl, by decide, rfl, List.replicate 16 0, rfl, heap_alloc_new _ _⟩, hb.alloc hb.size _⟩

theorem wpList_load_cel {P : Program} {ops : Array Oper} {rest : List Oper} {o : Oper} {a : Act} {w : World} {Q : Exit → Act → World → Prop} (hgd : o.guard = none) (ty : TypeId) (x : Operand) (ho : o.op = .load ty x)
    (g : Nat) (cs : List Value) (hx : a.eval x = .pointer (some ⟨g, 0, none⟩)) {e : TypeId} {d : TypeDesc} (hg : Cel w g e cs) (hu : P.underlying ty = some d) (hd : (match d with | .struct _ | .array _ _ => true | _ => false) = true) (hi : (P.info? ty).map (·.size) = some cs.length)
    (h : wpList P ops Q rest (a.put o.dst (.agg cs.toArray)) w) : wpList P ops Q (o :: rest) a w :=
  wpList_load_row hgd ty x ho g hx e _ (0, 0) _ hg hu hd (by rw [hi]; simp) h
theorem wpList_store_cel {P : Program} {ops : Array Oper} {rest : List Oper} {o : Oper} {a : Act} {w : World} {Q : Exit → Act → World → Prop} (hgd : o.guard = none) (ty : TypeId) (x y : Operand) (ho : o.op = .store ty x y)
    (g : Nat) (cs : List Value) (hx : a.eval x = .pointer (some ⟨g, 0, none⟩)) (hy : a.eval y = .agg cs.toArray) {e : TypeId} {cur : List Value} (hg : Cel w g e cur) (hi : (P.info? ty).map (·.size) = some cs.length) (hl : cur.length = cs.length) (h1 : ∀ v ∈ cs, v.oneCell' = true)
    (h : ∀ w', Cel w' g e cs → But g w w' → w'.heap.size = w.heap.size → wpList P ops Q rest (a.put o.dst undef) w') : wpList P ops Q (o :: rest) a w :=
  wpList_store_row hgd ty x y ho g _ hx hy e _ hg (by rw [hi]; simp) (by simp [hl]) (all_oneCell_toArray h1) (h _ (setRow_heap w g _ _ e _ hg) (but_setRow w g _) (by simp))
attribute [-simp] Tryz.isAgg168 Tryz.sizeOf168 Tryz.zeroValue168
end Go.Proofs.YtdfnbcbnmiohnaaGreatDoor.H
namespace Go.Proofs.YtdfnbcbnmiohnaaGreatDoor.H
open Go.RowKit

theorem Tab.ne {W : World} {g : Nat} {A : List Int} {n : Nat} {p : List Int} (hT : Tab W) (D : Dig W g A n p) : g ≠ 0 := by
  rintro rfl
  have h1 := hT.cell 8 (by decide)
  rw [D.cellN] at h1
  cases h1
theorem add_over (W : World) (g : Nat) (A : List Int) (n : Nat) (p : List Int) (D : Dig W g A n p) (ao : Option Addr) (m c : Nat) (hm : m ≤ 35184372087808) (h : 36028797018963968 < n + m) :
    Calls Tryz.prog 107 #[.pointer (some ⟨g, 0, none⟩), .slice ao m c] W fun e W' => e = .returned (.tuple #[]) ∧ W = W' := by
  have cn := D.cellN
  have i1 : (n : Int) ≤ 36028797018963968 := by have := D.nl; omega
  have i2 : (36028797018963968 : Int) - (n : Int) < (m : Int) := by omega
  have i3 : (m : Int) ≤ 35184372087808 := by omega
  clear D h hm
  go_enter Tryz.func107, Tryz.ntmps107
  go_wp2
  refine bodyPost_ret (results_none rfl _ _ _) rfl ⟨rfl, rfl⟩

theorem splice_state (A M : List Int) (n : Nat) (q : List Int) (hA : A.length = 8) (hM : M.length = 8) : splice (digC A n q) 0 (M.map (Value.int .u32)) = digC M n q := by
  unfold splice digC
  simp [hM]
  rw [List.drop_append]
  simp [hA]
theorem cel_count {w : World} {g : Nat} {M : List Int} {n : Nat} {q : List Int} (hM : M.length = 8) (h : Cel w g 168 (digC M n q)) (k : Nat) : Cel (w.setCell ⟨g, 8, none⟩ (.int .i64 (k : Int))) g 168 (digC M k q) := by
  unfold Cel at h ⊢
  rw [heap_setCell_same w g 8 _ 168 _ h, tqA]
  congr 3
  unfold digC
  rw [List.set_append_right _ _ (by simp [hM])]
  simp [hM]
theorem splice_wait (M : List Int) (n : Nat) (q y : List Int) (hM : M.length = 8) : splice (digC M n q) 9 (y.map (Value.int .u32)) = digC M n (y ++ q.drop y.length) := by
  unfold splice digC
  rw [List.take_append, List.drop_append]
  simp [hM, show 9 + y.length - 8 = y.length + 1 by omega]
  rw [List.drop_eq_nil_of_le (by simp [hM]; omega), List.take_of_length_le (by simp [hM])]
  simp
theorem splice_clear (M : List Int) (n : Nat) (y q : List Int) (hM : M.length = 8) (hy : (y ++ q).length = 16) : splice (digC M n (y ++ q)) (9 + y.length) ((List.replicate (16 - y.length) (0 : Int)).map (Value.int .u32)) = digC M n (y ++ List.replicate (16 - y.length) 0) := by
  have hq : q.length = 16 - y.length := by simp at hy; omega
  unfold splice digC
  rw [List.take_append, List.drop_append]
  simp [hM, show 9 + y.length - 8 = y.length + 1 by omega, show 9 + y.length + (16 - y.length) - 8 = 17 by simp at hy; omega]
  rw [List.drop_eq_nil_of_le (by simp [hM]; omega), List.take_of_length_le (by simp [hM]; omega)]
  simp at hy
  simp
  omega

attribute [-simp] Tryz.isAgg55 Tryz.sizeOf55 Tryz.zeroValue55
set_option maxRecDepth 20000 in
set_option maxHeartbeats 4000000 in
theorem add_fits (W : World) (hT : Tab W) (h2 : 1 < W.heap.size) (g : Nat) (A : List Int) (n : Nat) (p : List Int) (D : Dig W g A n p) (ao : Option Addr) (m c : Nat) (xs : List Int) (hx : xs.length = m) (hat : At W .u32 ao xs) (hm : m ≤ 35184372087808) (h : n + m ≤ 36028797018963968) :
    Calls Tryz.prog 107 #[.pointer (some ⟨g, 0, none⟩), .slice ao m c] W fun e W' => e = .returned (.tuple #[]) ∧ Dig W' g (S.run A (p ++ xs) ((n % 16 + m) / 16)) (n + m) ((p ++ xs).drop (16 * ((n % 16 + m) / 16))) ∧ But g W W' := by
  obtain ⟨i0, hi, hz0, hz1, hz2⟩ := info_parts Tryz.info43
  have cn := D.cellN
  have hgl := D.lt
  have i1 : (n : Int) ≤ 36028797018963968 := by have := D.nl; omega
  have i2 : ((m : Int) ≤ (36028797018963968 : Int) - (n : Int)) := by omega
  have i3 : (m : Int) ≤ 35184372087808 := by omega
  obtain ⟨Z, hZ⟩ : ∃ Z : List Int, Z = List.replicate 8 0 := ⟨_, rfl⟩
  have hZl : Z.length = 8 := by rw [hZ]; simp
  have hz : ∀ w, (zeroValue 55).run Tryz.prog w = .ok (.agg (Z.map (Value.int .u32)).toArray) w := fun w => by rw [Tryz.zeroValue55, hZ]; rfl
  clear hZ
  obtain ⟨t, ht⟩ : ∃ t, n % 16 = t := ⟨_, rfl⟩
  have hpl := D.pl
  rw [ht] at hpl ⊢
  have htl : t < 16 := by omega
  have hall : (p ++ xs).length = t + m := by simp [hpl, hx]
  have WT : Hid (∀ w, Below W.heap.size W w → Calls Tryz.prog 104 #[.pointer (some ⟨g, 0, none⟩)] w fun e W' => e = .returned (.slice (some ⟨g, 9, none⟩) t t) ∧ w = W') := fun w hw => by
    have := waiting_any w g A n p (D.below hw hgl)
    rwa [ht] at this
  have AP : Hid (∀ w, Below W.heap.size W w → ∀ ty, ∃ ao' cap' w', (Builtin.append_ #[51, 51] ty #[.slice (some ⟨g, 9, none⟩) t t, .slice ao m c]).run Tryz.prog w = .ok (.slice ao' (t + m) cap') w' ∧ (t + m ≤ cap' ∧ (∃ bb lo, (bb = g ∨ w.heap.size ≤ bb) ∧ (bb = g → 9 ≤ lo) ∧ AtB w' .u32 bb lo ao' (p ++ xs)) ∧ Below w.heap.size w w' ∧ Below W.heap.size W w')) := fun w hw ty => by
    obtain ⟨ao', cap', w2, hap, hcap, ⟨bb, lo, hbb, hat2⟩, hb2⟩ := append_full (P := Tryz.prog) (w := w) Tryz.underlying51 hi hz0 hz1 hz2 rfl ty g 9 t p hpl (by have := hw.size; omega) (D.below hw hgl).rowP ao m c xs hx (hat.below hw) (by unfold maxLen; omega) (by omega)
    have hws := hw.size
    exact ⟨ao', cap', w2, hap, hcap, ⟨bb, lo, by omega, by omega, hat2⟩, hb2, hw.trans (hb2.mono hw.size)⟩
  have hrest : ((p ++ xs).drop (16 * ((t + m) / 16))).length = (t + m) % 16 := by rw [List.length_drop, hall]; omega
  have hMl := run_length A (p ++ xs) D.al ((t + m) / 16)
  have hnm : (n + m) % 16 = (t + m) % 16 := by omega
  obtain ⟨N, hN⟩ : ∃ N : Nat, N = 8 := ⟨_, rfl⟩
  have a27 := Tryz.isAgg55
  have z27 := Tryz.sizeOf55
  rw [← hN] at z27
  have hN0 : ¬ N = 0 := by omega
  have rA := D.rowA
  have ld1 : ∀ w, Below W.heap.size W w → (loadCellsFrom ⟨g, 0, none⟩ 0 N #[]).run Tryz.prog w = .ok (A.map (Value.int .u32)).toArray w := fun w hw => cells_row (rA.below hw hgl) N (by rw [D.al, hN])
  have BL : Hid (∀ w ao' cap' bb lo, Below W.heap.size W w → t + m ≤ cap' → AtB w .u32 bb lo ao' (p ++ xs) → Calls Tryz.prog 139 #[.agg (A.map (Value.int .u32)).toArray, .slice ao' (t + m) cap'] w fun en w3 => ∃ ao'' cap'', en = .returned (.tuple #[.agg ((S.run A (p ++ xs) ((t + m) / 16)).map (Value.int .u32)).toArray, .slice ao'' ((t + m) % 16) cap'']) ∧ AtB w3 .u32 bb lo ao'' ((p ++ xs).drop (16 * ((t + m) / 16))) ∧ Below w.heap.size w w3 ∧ Below W.heap.size W w3) := fun w ao' cap' bb lo hw hc' ha => by
    have hsz := hw.size
    refine (blocks_atb w (hT.below hw h2) (by omega) A (p ++ xs) D.al ao' (t + m) cap' hall hc' bb lo ha (by omega)).mono ?_
    rintro en w3 ⟨ao'', cap'', rfl, hc'', hat3, hb3⟩
    exact ⟨ao'', cap'', rfl, hat3.below hb3, hb3, hw.trans (hb3.mono hsz)⟩
  have HR0 : Hid (p ++ xs = [] → (p ++ xs).drop (16 * ((t + m) / 16)) = []) := fun h0 => by rw [h0]; simp
  obtain ⟨al, nl, pl, r, hr, hc⟩ := D
  generalize S.run A (p ++ xs) ((t + m) / 16) = M at *
  generalize (p ++ xs).drop (16 * ((t + m) / 16)) = R at *
  obtain ⟨rs, hrs⟩ : ∃ rs, (t + m) % 16 = rs := ⟨_, rfl⟩
  rw [hrs] at hrest hnm BL
  have hrs16 : rs < 16 := by omega
  have HCD : Hid (∀ w, Below W.heap.size W w → Cel w g 168 (digC A n (p ++ r))) := fun w hw => hc.below hw hgl
  have SS : Hid (∀ w, Cel w g 168 (splice (digC A n (p ++ r)) 0 (M.map (Value.int .u32))) → w.cell? ⟨g, 8, none⟩ = some (.int .i64 (n : Int)) ∧ w.frozen? ⟨g, 8, none⟩ = false ∧ Cel (w.setCell ⟨g, 8, none⟩ (.int .i64 ((n : Int) + (m : Int)))) g 168 (digC M (n + m) (p ++ r)) ∧ But g w (w.setCell ⟨g, 8, none⟩ (.int .i64 ((n : Int) + (m : Int))))) := fun w hw => by
    rw [splice_state A M n (p ++ r) al hMl] at hw
    have := cel_count hMl hw (n + m)
    push_cast at this
    exact ⟨by rw [hw.cell, digC_n _ _ _ hMl], hw.free 8, this, but_setCell _ _ _ _⟩
  have zM : (Tryz.prog.info? 55).map (·.size) = some M.length := by rw [hMl]; exact size27
  have hMN : M.length = N := by rw [hMl, hN]
  have BW0 : Hid (Below W.heap.size W W.drew) := (Below.refl _ _).drew
  have BW1 : Hid (Below W.heap.size W (W.alloc (Obj.cells (List.map (Value.int IntKind.u32) Z).toArray 55)).drew) := (below_one _ _).drew
  have BZ1 : Hid (Blk (W.alloc (Obj.cells (List.map (Value.int IntKind.u32) Z).toArray 55)).drew W.heap.size .u32 55 Z) := Blk.new W .u32 55 Z
  have FN : Hid (∀ w gz ao'' bb lo, Blk w gz .u32 55 Z → W.heap.size ≤ gz → Below W.heap.size W w → AtB w .u32 bb lo ao'' R → (R = [] ∨ bb ≠ gz) → (storeCells ⟨gz, 0, none⟩ (M.map (Value.int .u32)) 0).run Tryz.prog w = .ok () (w.setRow gz (M.map (Value.int .u32)).toArray) ∧ Hid (Blk (w.setRow gz (M.map (Value.int .u32)).toArray) gz .u32 55 M ∧ Cel (w.setRow gz (M.map (Value.int .u32)).toArray) g 168 (digC A n (p ++ r)) ∧ AtB (w.setRow gz (M.map (Value.int .u32)).toArray) .u32 bb lo ao'' R ∧ Below W.heap.size W (w.setRow gz (M.map (Value.int .u32)).toArray))) := fun w gz ao'' bb lo hz' hgz hw ha hne => by
    refine ⟨storeCells_blk hz' (by rw [hZl, hMl]), hz'.setRow M, (hc.below hw hgl).but (but_setRow w gz _) (by omega), ?_, below_setRow hw hgz _⟩
    rcases hne with h0 | hne
    · exact .inl h0
    · exact ha.but (but_setRow w gz _) hne
  have N1 : Hid (∀ bb, (bb = g ∨ W.heap.size + 1 ≤ bb) → R = [] ∨ bb ≠ W.heap.size) := fun bb h => .inr (by omega)
  have N2 : Hid (∀ (w : World) bb lo ao', AtB w .u32 bb lo ao' (p ++ xs) → R = [] ∨ bb ≠ w.heap.size) := fun w bb lo ao' h => by
    rcases h with h0 | ⟨_, _, _, hlt, _⟩
    · exact .inl (HR0.out h0)
    · exact .inr (by omega)
  have N3 : Hid (∀ (w : World) bb lo ao', AtB w .u32 bb lo ao' R → R = [] ∨ bb ≠ w.heap.size) := fun w bb lo ao' h => by
    rcases h with h0 | ⟨_, _, _, hlt, _⟩
    · exact .inl h0
    · exact .inr (by omega)
  have ATW : Hid (∀ w4 w6 bb lo ao'', AtB w4 .u32 bb lo ao'' R → (bb = g → 9 ≤ lo) → Cel w4 g 168 (digC A n (p ++ r)) → Cel w6 g 168 (digC M (n + m) (p ++ r)) → But g w4 w6 → At w6 .u32 ao'' R) := fun w4 w6 bb lo ao'' ha hl c4 c6 hb => by
    rcases ha with h0 | ⟨off, h1, h2', h3, h4⟩
    · exact .inl h0
    · refine .inr ⟨bb, off, h1, by have := hb.size; omega, ?_⟩
      by_cases hbg : bb = g
      · have := hl hbg
        subst hbg
        exact row_behind al hMl c4 c6 (by omega) h4
      · exact hb.row h4 h3 hbg
  have FIN : Hid (∀ w, Cel w g 168 (splice (splice (digC M (n + m) (p ++ r)) 9 (R.map (Value.int .u32))) (9 + rs) ((List.replicate (16 - rs) (0 : Int)).map (Value.int .u32))) → Dig w g M (n + m) R) := fun w hw => by
    have hR2 : ((R ++ (p ++ r).drop R.length)).length = 16 := by rw [List.length_append, List.length_drop, hr, hrest]; omega
    rw [splice_wait M (n + m) (p ++ r) R hMl, ← hrest, splice_clear M (n + m) R _ hMl hR2] at hw
    exact ⟨hMl, h, by rw [hrest, hnm], _, by simp; omega, hw⟩
  have L1 : Hid (0 + M.length ≤ (digC A n (p ++ r)).length) := by rw [digC_length _ _ _ al hr, hMl]; show _ ≤ _; omega
  have L2 : Hid (9 + R.length ≤ (digC M (n + m) (p ++ r)).length) := by rw [digC_length _ _ _ hMl hr, hrest]; show _ ≤ _; omega
  have L3 : Hid (9 + rs + (16 - rs) ≤ (splice (digC M (n + m) (p ++ r)) 9 (R.map (Value.int .u32))).length) := by
    rw [length_splice _ _ _ (by simp [digC_length _ _ _ hMl hr, hrest]; omega), digC_length _ _ _ hMl hr]; show _ ≤ _; omega
  have HML : Hid (M.length = 8) := hMl
  have HZL : Hid (Z.length = 8) := hZl
  clear hc hat hall hN hMl hZl hpl hr ht h hm
  go_enter Tryz.func107, Tryz.ntmps107
  go_wp2
  go_region_held3 (fun w => Below W.heap.size W w) (first | (exact BW0.out) | (exact BW1.out) | (exact hw3) | (exact hw2) | (exact hw3.alloc hw3.size _) | (exact hw2.alloc hw2.size _) | (exact F.out.2.2.2)) (first | (go_at_call 104; refine (WT.out _ (by first | exact BW0.out | exact BW1.out)).mono ?_; rintro en w' ⟨rfl, rfl⟩) | (refine step_append_at (by rfl) _ _ 51 (by rfl) _ _ (by rfl) (by rfl) (AP.out _ (by first | exact BW0.out | exact BW1.out)) ?_; rintro ao' cap' w2 ⟨hcap, ⟨bb, lo, hbb, hlo, hat2⟩, hb2, hw2⟩) | (go_at_call 139; (first | (refine (BL.out _ _ _ _ _ hw2 hcap hat2).mono ?_) | (refine (BL.out _ _ _ _ _ (hw2.alloc hw2.size _) hcap (hat2.below (below_one _ _))).mono ?_)); rintro en w3 ⟨ao'', cap'', rfl, at3, hb3, hw3⟩; (first | (obtain ⟨hst, F⟩ := FN.out _ _ _ _ _ ((BZ1.out.below hb2 (by simp)).below hb3 (by have := hb2.size; simp at this; omega)) (Nat.le_refl _) hw3 at3 (N1.out _ (by simpa using hbb))) | (obtain ⟨hst, F⟩ := FN.out _ _ _ _ _ ((Blk.new w2 .u32 55 Z).below hb3 (by simp)) hw2.size hw3 at3 (N2.out _ _ _ _ hat2)) | (obtain ⟨hst, F⟩ := FN.out _ _ _ _ _ (Blk.new w3 .u32 55 Z) hw3.size (hw3.alloc hw3.size _) (at3.below (below_one _ _)) (N3.out _ _ _ _ at3)))))
  all_goals
    obtain ⟨bM, cD, at4, hb4⟩ := F.out
    have HLO : Hid _ := hlo
    clear F hst hb3 hw3 hb2 hw2 hat2 at3 hbb hlo hcap
    generalize World.setRow _ _ _ = w4 at *
    have BM : Hid (Blk w4 _ .u32 55 M) := bM
    have CD : Hid (Cel w4 g 168 (digC A n (p ++ r))) := cD
    have AT4 : Hid (AtB w4 .u32 bb lo ao'' R) := at4
    have HB4 : Hid (Below W.heap.size W w4) := hb4
    have i4 : (rs : Int) ≤ 16 := by omega
    have i5 : ¬ 16 = rs := by omega
    have i6 : ¬ rs = 16 := by omega
    clear bM cD at4 hb4 WT AP BL FN N1 N2 N3 BW0 BW1 BZ1
    go_wp2_with (first | (refine wpList_load_blk rfl 55 _ rfl _ M rfl BM.out Tryz.underlying55 zM ?_) | (refine wpList_store_part rfl 55 _ _ rfl g 0 M rfl rfl CD.out zM L1.out ?_; intro w5 cD5 bt5 sz5; obtain ⟨c8, f8, cD6, bt6⟩ := SS.out _ cD5; have CD6 : Hid (Cel _ g 168 (digC M (n + m) (p ++ r))) := cD6; have AT6 : Hid (At _ .u32 ao'' R) := ATW.out _ _ _ _ _ AT4.out HLO.out CD.out cD6 (bt5.trans bt6); have BT6 : Hid (But g w4 _) := bt5.trans bt6; clear cD5 cD6 bt5 bt6) | (refine wpList_copy_but rfl _ _ 51 51 rfl 43 Tryz.underlying51 size26 g 9 _ 16 16 rs _ rfl rfl CD6.out R hrest AT6.out (by omega) L2.out ?_; intro w7 cD7 bt7 sz7; have CD7 : Hid (Cel w7 g 168 _) := cD7; have BT7 : Hid (But g _ w7) := bt7; clear cD7 bt7 sz7) | (refine wpList_clear_but rfl _ 51 rfl 43 .u32 Tryz.underlying51 Tryz.zeroValue43 g (9 + rs) (16 - rs) _ rfl (by omega) CD7.out L3.out ?_; intro w8 cD8 bt8 sz8; have HD : Hid (Dig w8 g M (n + m) R) := FIN.out _ cD8; have BT8 : Hid (But g _ w8) := bt8; clear cD8 bt8 sz8))
    refine bodyPost_end (results_none rfl _ _ _) rfl ⟨rfl, HD.out, ?_⟩
    exact (Below.but HB4.out).trans (BT6.out.trans (BT7.out.trans BT8.out))
end Go.Proofs.YtdfnbcbnmiohnaaGreatDoor.H
namespace Go.Proofs.YtdfnbcbnmiohnaaGreatDoor.H
open Go.RowKit

namespace S
def pz (n : Nat) : Nat := (30 - n % 16) % 16
def pad (L : List Int) (b : Int) : List Int := (L ++ List.replicate (pz L.length) 0) ++ [b / 4294967296, b % 4294967296]
def fin (A L : List Int) (b : Int) : List Int := run A (pad L b) ((pad L b).length / 16)
end S
theorem ownsRow_below {w w' : World} {base : Nat} {e : TypeId} {size : Nat} {v : Value} {n : Nat} {xs : List Value} (h : w.ownsRow base e size v n xs) (hb : Below w.heap.size w w') : w'.ownsRow base e size v n xs := by
  have hl := h.lt
  obtain ⟨h1, h2⟩ := h
  refine ⟨h1, ?_⟩
  rcases h2 with h2 | ⟨g, cap, cur, hv, hg, hh, r⟩
  · exact .inl h2
  · subst hv
    exact .inr ⟨g, cap, cur, rfl, hg, (hb.block g (hl g rfl).2).trans hh, r⟩

theorem own_form {w : World} {base : Nat} {k : IntKind} {e : TypeId} {v : Value} {L : List Int} (h : w.ownsRow base e 1 v L.length (L.map (Value.int k))) (hn : 0 < L.length) : ∃ g cap, v = .slice (some ⟨g, 0, none⟩) L.length cap ∧ L.length ≤ cap ∧ base ≤ g ∧ g < w.heap.size ∧ Row w k g 0 L := by
  have hlt := h.lt
  rcases h.2 with ⟨_, h0⟩ | ⟨g, cap, cur, rfl, hg, hh, hc, hm, hs, ht⟩
  · omega
  · refine ⟨g, cap, rfl, hc, hg, (hlt g rfl).2, ?_⟩
    intro i hi
    rw [Nat.zero_add, h.cellAt i (by omega)]
    simp [List.getD_eq_getElem?_getD, hi]
theorem Blk.on {W w : World} {g : Nat} {k : IntKind} {e : TypeId} {L : List Int} (h : Blk W g k e L) (hb : Below W.heap.size W w) : Blk w g k e L := h.below hb h.lt
attribute [-simp] Tryz.isAgg55 Tryz.sizeOf55 Tryz.zeroValue55
set_option maxRecDepth 20000 in
set_option maxHeartbeats 4000000 in
theorem finish_any (W : World) (hT : Tab W) (h2 : 1 < W.heap.size) (g : Nat) (A : List Int) (n : Nat) (p : List Int) (D : Dig W g A n p) (ad : Addr) (m c : Nat) (xs : List Int) (hx : xs.length = m) (hat : At W .u32 (some ad) xs) (hm0 : 1 ≤ m) (hm : m ≤ 16) (b : Int) (b0 : 0 ≤ b) (b1 : b < 18446744073709551616) :
    Calls Tryz.prog 141 #[.pointer (some ⟨g, 0, none⟩), .slice (some ad) m c, .int .u64 b] W fun e W' => e = .returned (Ag (S.fin A (p ++ xs) b)) ∧ Below W.heap.size W W' := by
  obtain ⟨i0, hi, hz0, hz1, hz2⟩ := info_parts Tryz.info43
  have hgl := D.lt
  obtain ⟨Z, hZ⟩ : ∃ Z : List Int, Z = List.replicate 8 0 := ⟨_, rfl⟩
  have hZl : Z.length = 8 := by rw [hZ]; simp
  have hz : ∀ w, (zeroValue 55).run Tryz.prog w = .ok (.agg (Z.map (Value.int .u32)).toArray) w := fun w => by rw [Tryz.zeroValue55, hZ]; rfl
  clear hZ
  obtain ⟨t, ht⟩ : ∃ t, n % 16 = t := ⟨_, rfl⟩
  have hpl := D.pl
  rw [ht] at hpl
  have htl : t < 16 := by omega
  have hb1 : Below W.heap.size W (W.alloc (Obj.cells (List.map (Value.int IntKind.u32) Z).toArray 55)) := below_one _ _
  have bZ := Blk.new W .u32 55 Z
  have D1 := D.below hb1 hgl
  have WT : Hid (∀ w, Below W.heap.size W w → Calls Tryz.prog 104 #[.pointer (some ⟨g, 0, none⟩)] w fun e W' => e = .returned (.slice (some ⟨g, 9, none⟩) t t) ∧ w = W') := fun w hw => by
    have := waiting_any w g A n p (D.below hw hgl)
    rwa [ht] at this
  have rp := D1.rowP
  have HO : Hid (∀ j u, (p.map (Value.int .u32))[j]? = some u → (W.alloc (Obj.cells (List.map (Value.int IntKind.u32) Z).toArray 55)).cell? ((⟨g, 9, none⟩ : Addr).add j) = some u) := fun j u hu => by rw [Addr.add_mid]; exact rp.range j u hu
  have HN : Hid (∀ j u, (xs.map (Value.int .u32))[j]? = some u → (W.alloc (Obj.cells (List.map (Value.int IntKind.u32) Z).toArray 55)).cell? (ad.add j) = some u) := (hat.below hb1).cells
  have l1 : (p.map (Value.int .u32)).length = t * 1 := by simp [hpl]
  have l2 : (xs.map (Value.int .u32)).length = m * 1 := by simp [hx]
  have h63 : t + m ≤ maxLen := by unfold maxLen; omega
  have hby : (t + m) * 4 ≤ 140737488355328 := by omega
  have BZ : Hid (Blk _ W.heap.size .u32 55 Z) := bZ
  have HB1 : Hid _ := hb1
  have hall : (p ++ xs).length = t + m := by simp [hpl, hx]
  clear rp hat D1 bZ hb1
  go_enter Tryz.func141, Tryz.ntmps141
  go_wp2_with (first | (go_at_call 104; refine (WT.out _ HB1.out).mono ?_; rintro en w' ⟨rfl, rfl⟩) | (at_builtin; refine wpList_append_grows _ rfl _ _ 51 rfl 43 i0 (.int .u32 0) 1 4 Tryz.underlying51 hi hz0 hz1 hz2 rfl (by decide) (some ⟨g, 9, none⟩) t t (p.map (Value.int .u32)) rfl (fun h => by cases h) l1 (fun b' hb' => by cases hb'; exact HO.out) ad m c (xs.map (Value.int .u32)) rfl l2 HN.out (ints_oneCell .u32 xs) (by omega) h63 hby ?_; intro v1 w1 hown1 hgrow1))
  have hsl : (W.alloc (Obj.cells (List.map (Value.int IntKind.u32) Z).toArray 55)).heap.size = W.heap.size + 1 := by simp
  have h1' : Below (W.heap.size + 1) (W.alloc (Obj.cells (List.map (Value.int IntKind.u32) Z).toArray 55)) w1 := by
    have := (Below.refl _ _).grown hgrow1 (Nat.le_refl _) (fun _ h => by cases h)
    rwa [hsl] at this
  rw [← List.map_append, hsl] at hown1
  have bZ1 := BZ.out.below h1' (by omega)
  have hb1 := HB1.out.trans (h1'.mono (by omega))
  clear hgrow1 h1' BZ HB1 HO HN l1 l2 h63 hby
  go_loopw [7] (fun v wr => ∃ k : Nat, k ≤ S.pz (t + m) ∧ wr.ownsRow (W.heap.size + 1) 43 1 v (t + m + k) (((p ++ xs) ++ List.replicate k 0).map (Value.int .u32)) ∧ Blk wr W.heap.size .u32 55 Z ∧ Below W.heap.size W wr) (fun v _ => match v with | .slice _ k _ => 64 - k | _ => 0)
  case atStart => exact ⟨0, Nat.zero_le _, by simpa using hown1, bZ1, hb1⟩
  case round =>
    clear hown1 bZ1 hb1
    obtain ⟨k, hk, ho, bZ, hb⟩ := hrel
    have hpz : S.pz (t + m) = (30 - (t + m) % 16) % 16 := rfl
    obtain ⟨gt, ct, rfl, _, hgt⟩ := ho.form (by omega)
    have hql : (((p ++ xs) ++ List.replicate k 0).map (Value.int .u32)).length = t + m + k := by rw [List.length_map, List.length_append, hall, List.length_replicate]
    obtain ⟨q, hq⟩ : ∃ q, q = t + m + k := ⟨_, rfl⟩
    have i1 : (q : Int) ≤ 64 := by omega
    have i1' : q < 64 := by omega
    rw [← hq] at ho hql ⊢
    by_cases hlt : k < S.pz (t + m)
    · obtain ⟨q', hq'⟩ : ∃ q', q' = q % 16 := ⟨_, rfl⟩
      have i2 : (q : Int) % 16 = (q' : Int) := by omega
      have i3 : ((q' : Int) != 14) = true := by simp; omega
      have h63' : q + 1 ≤ maxLen := by unfold maxLen; omega
      have hby' : (q + 1) * 4 ≤ 140737488355328 := by omega
      have hba : W.heap.size + 1 ≤ (wr.alloc (.cells #[.int .u32 0] 43)).heap.size := by have := bZ.lt; simp; omega
      have HO : Hid (wr.ownsRow (W.heap.size + 1) 43 1 (.slice (some ⟨gt, 0, none⟩) q ct) q (((p ++ xs) ++ List.replicate k 0).map (Value.int .u32))) := ho
      have HV := (ho.lt gt rfl).1
      have HH : Hid (∀ (v' : Value) (w2 : World), w2.ownsRow (W.heap.size + 1) 43 1 v' (q + 1) (((p ++ xs) ++ List.replicate k 0).map (Value.int .u32) ++ [.int .u32 0]) → (wr.alloc (.cells #[.int .u32 0] 43)).grownBy w2 (some gt) → ∃ k' : Nat, k' ≤ S.pz (t + m) ∧ w2.ownsRow (W.heap.size + 1) 43 1 v' (t + m + k') (((p ++ xs) ++ List.replicate k' 0).map (Value.int .u32)) ∧ Blk w2 W.heap.size .u32 55 Z ∧ Below W.heap.size W w2) := fun v' w2 h1 h2' => by
        refine ⟨k + 1, by omega, ?_, ?_, ?_⟩
        · rw [List.replicate_succ', ← List.append_assoc, List.map_append, show t + m + (k + 1) = q + 1 by omega]
          exact h1
        · exact (bZ.alloc _).below ((Below.refl (W.heap.size + 1) _).grown h2' (by have := bZ.lt; simp; omega) (fun k h => by cases h; exact HV)) (by omega)
        · exact ((hb.alloc hb.size _)).grown h2' (by have := hb.size; simp; omega) (fun k h => by cases h; omega)
      have HLEN : Hid (∀ (v' : Value) (w2 : World), w2.ownsRow (W.heap.size + 1) 43 1 v' (q + 1) (((p ++ xs) ++ List.replicate k 0).map (Value.int .u32) ++ [.int .u32 0]) → ∃ ao' cap', v' = .slice ao' (q + 1) cap') := fun v' w2 h1 => by
        obtain ⟨g', c', rfl, _, _⟩ := h1.form (by omega)
        exact ⟨_, _, rfl⟩
      clear ho bZ hb hq' hlt hk hpz hq
      go_wp2_with (first | (at_builtin; refine wpList_append_own _ rfl _ _ 51 rfl (W.heap.size + 1) 43 i0 (.int .u32 0) 1 4 Tryz.underlying51 hi hz0 hz1 hz2 rfl (by decide) (.slice (some ⟨gt, 0, none⟩) q ct) q _ rfl (HO.out.alloc _) ⟨wr.heap.size, 0, none⟩ 1 1 [.int .u32 0] rfl rfl (cell_one_new _ _ _) (ints_oneCell .u32 [0]) h63' hby' hba ?_; intro v' w2 hown2 hgrow2 _))
      have HX := HH.out _ _ hown2 hgrow2
      obtain ⟨ao', cap', rfl⟩ := HLEN.out _ _ hown2
      go_wp2
      refine ⟨HX, ?_⟩
      show 64 - (q + 1) < 64 - q
      omega
    · obtain rfl : k = S.pz (t + m) := by omega
      obtain ⟨Y, hY⟩ : ∃ Y, Y = (p ++ xs) ++ List.replicate (S.pz (t + m)) 0 := ⟨_, rfl⟩
      obtain ⟨hh, hhh⟩ : ∃ x, x = b / 4294967296 := ⟨_, rfl⟩
      obtain ⟨ll, hll⟩ : ∃ x, x = b % 4294967296 := ⟨_, rfl⟩
      have hpad : S.pad (p ++ xs) b = Y ++ [hh, ll] := by rw [hY, hhh, hll, ← hall]; rfl
      have hYl : Y.length = q := by rw [hY, List.length_append, hall, List.length_replicate, hq]
      have hfin : S.fin A (p ++ xs) b = S.run A (Y ++ [hh, ll]) ((q + 2) / 16) := by
        unfold S.fin
        rw [hpad, List.length_append, hYl]
        rfl
      rw [← hY] at ho
      have i2 : (q : Int) % 16 = 14 := by omega
      have hMl := run_length A (Y ++ [hh, ll]) D.al ((q + 2) / 16)
      have HIGH : Hid (∀ w, Calls Tryz.prog 102 #[.int .u64 b] w fun e W' => e = .returned (.int .u32 hh) ∧ w = W') := by rw [hhh]; exact fun w => high_any w b b0 b1
      have LOW : Hid (∀ w, Calls Tryz.prog 103 #[.int .u64 b] w fun e W' => e = .returned (.int .u32 ll) ∧ w = W') := by rw [hll]; exact fun w => low_any w b
      obtain ⟨N, hN⟩ : ∃ N : Nat, N = 8 := ⟨_, rfl⟩
      have a27 := Tryz.isAgg55
      have z27 := Tryz.sizeOf55
      rw [← hN] at z27
      have hN0 : ¬ N = 0 := by omega
      have rA := D.rowA
      have al := D.al
      have ld1 : ∀ w, Below W.heap.size W w → (loadCellsFrom ⟨g, 0, none⟩ 0 N #[]).run Tryz.prog w = .ok (A.map (Value.int .u32)).toArray w := fun w hw => cells_row (rA.below hw hgl) N (by rw [al, hN])
      have hgt0 := (ho.lt gt rfl).1
      have AP : Hid (∀ w gs, Below wr.heap.size wr w → Blk w gs .u32 43 [hh, ll] → ∀ ty, ∃ ao' cap' w', (Builtin.append_ #[51, 51] ty #[.slice (some ⟨gt, 0, none⟩) q ct, .slice (some ⟨gs, 0, none⟩) 2 2]).run Tryz.prog w = .ok (.slice ao' (q + 2) cap') w' ∧ (q + 2 ≤ cap' ∧ At w' .u32 ao' (Y ++ [hh, ll]) ∧ But gt w w' ∧ Below W.heap.size W w')) := fun w gs hw hgs ty => by
        have hwW := hb.trans (hw.mono hb.size)
        obtain ⟨v', w', hr, h1, h2', _⟩ := run_append_own (P := Tryz.prog) w (W.heap.size + 1) 51 ty 43 i0 (.int .u32 0) 1 4 Tryz.underlying51 hi hz0 hz1 hz2 rfl (by decide) (.slice (some ⟨gt, 0, none⟩) q ct) q _ (ownsRow_below ho hw) ⟨gs, 0, none⟩ 2 2 ([hh, ll].map (Value.int .u32)) rfl hgs.at.cells (ints_oneCell .u32 _) (by unfold maxLen; omega) (by omega) (by have := hw.size; have := bZ.lt; omega)
        rw [← List.map_append] at h1
        have hl : (Y ++ [hh, ll]).length = q + 2 := by simp [hYl]
        have hbut : But gt w w' := ⟨h2'.os, h2'.tape, h2'.output, h2'.size, fun k hk hne => h2'.block k hk (fun h => hne (Option.some.inj h))⟩
        have hW' : Below W.heap.size W w' := hwW.trans (hbut.below (by omega) (by have := hwW.size; omega))
        rw [← hl] at h1
        obtain ⟨g', c', rfl, hc', _, hg', hrow⟩ := own_form h1 (by omega)
        rw [hl] at hr hc'
        exact ⟨some ⟨g', 0, none⟩, c', w', hr, hc', .inr ⟨g', 0, rfl, hg', hrow⟩, hbut, hW'⟩
      have BL : Hid (∀ w ao' cap', Below W.heap.size W w → q + 2 ≤ cap' → At w .u32 ao' (Y ++ [hh, ll]) → Calls Tryz.prog 139 #[.agg (A.map (Value.int .u32)).toArray, .slice ao' (q + 2) cap'] w fun en w3 => ∃ ao'' rs cap'', en = .returned (.tuple #[.agg ((S.run A (Y ++ [hh, ll]) ((q + 2) / 16)).map (Value.int .u32)).toArray, .slice ao'' rs cap'']) ∧ Below w.heap.size w w3 ∧ Below W.heap.size W w3) := fun w ao' cap' hw hc' ha => by
        have hsz := hw.size
        refine (blocks_any w (hT.below hw h2) (by omega) A (Y ++ [hh, ll]) al ao' (q + 2) cap' (by simp [hYl]) hc' ha (by omega)).mono ?_
        rintro en w3 ⟨ao'', cap'', rfl, hc'', hat3, hb3⟩
        exact ⟨ao'', _, cap'', rfl, hb3, hw.trans (hb3.mono hsz)⟩
      rw [← hfin] at BL hMl
      have HF : Hid (S.run A (Y ++ [hh, ll]) ((q + 2) / 16) = S.fin A (p ++ xs) b) := hfin.symm
      clear hfin
      obtain ⟨M, hM⟩ : ∃ M, S.fin A (p ++ xs) b = M := ⟨_, rfl⟩
      have HM : Hid (S.fin A (p ++ xs) b = M) := hM
      rw [hM] at BL hMl
      clear hM HF
      have hMN : M.length = N := by rw [hMl, hN]
      have zM : (Tryz.prog.info? 55).map (·.size) = some M.length := by rw [hMl]; exact size27
      have FN : Hid (∀ w gz, Blk w gz .u32 55 Z → W.heap.size + 1 ≤ gz → Below W.heap.size W w → Blk w W.heap.size .u32 55 Z → (storeCells ⟨gz, 0, none⟩ (M.map (Value.int .u32)) 0).run Tryz.prog w = .ok () (w.setRow gz (M.map (Value.int .u32)).toArray) ∧ Hid (Blk (w.setRow gz (M.map (Value.int .u32)).toArray) gz .u32 55 M ∧ Blk (w.setRow gz (M.map (Value.int .u32)).toArray) W.heap.size .u32 55 Z ∧ Below W.heap.size W (w.setRow gz (M.map (Value.int .u32)).toArray))) := fun w gz hz' hgz hw hw0 =>
        ⟨storeCells_blk hz' (by rw [hZl, hMl]), hz'.setRow M, hw0.setRow_other _ (by omega), below_setRow hw (by omega) _⟩
      have hsz := bZ.lt
      have C0 : Hid (Below wr.heap.size wr wr.drew) := (Below.refl _ _).drew
      have C1 : Hid (Below wr.heap.size wr (wr.alloc (Obj.cells (List.map (Value.int IntKind.u32) Z).toArray 55)).drew) := (below_one _ _).drew
      have C2 : Hid (Below wr.heap.size wr (wr.alloc (Obj.cells #[.int .u32 hh, .int .u32 ll] 43)).drew) := (below_one _ _).drew
      have C3 : Hid (Below wr.heap.size wr ((wr.alloc (Obj.cells (List.map (Value.int IntKind.u32) Z).toArray 55)).alloc (Obj.cells #[.int .u32 hh, .int .u32 ll] 43)).drew) := ((below_one _ _).alloc (by simp) _).drew
      have C4 : Hid (Below wr.heap.size wr ((wr.alloc (Obj.cells #[.int .u32 hh, .int .u32 ll] 43)).alloc (Obj.cells (List.map (Value.int IntKind.u32) Z).toArray 55)).drew) := ((below_one _ _).alloc (by simp) _).drew
      have CW : Hid (∀ w, Below wr.heap.size wr w → Below W.heap.size W w) := fun w hw => hb.trans (hw.mono hb.size)
      have S2 : Hid (Blk (wr.alloc (Obj.cells #[.int .u32 hh, .int .u32 ll] 43)).drew wr.heap.size .u32 43 [hh, ll]) := Blk.new wr .u32 43 [hh, ll]
      have S3 : Hid (Blk ((wr.alloc (Obj.cells (List.map (Value.int IntKind.u32) Z).toArray 55)).alloc (Obj.cells #[.int .u32 hh, .int .u32 ll] 43)).drew (wr.heap.size + 1) .u32 43 [hh, ll]) := Blk.newAt (by simp) .u32 43 [hh, ll]
      have S4 : Hid (Blk ((wr.alloc (Obj.cells #[.int .u32 hh, .int .u32 ll] 43)).alloc (Obj.cells (List.map (Value.int IntKind.u32) Z).toArray 55)).drew wr.heap.size .u32 43 [hh, ll]) := (Blk.new wr .u32 43 [hh, ll]).alloc _
      have Z3 : Hid (Blk ((wr.alloc (Obj.cells (List.map (Value.int IntKind.u32) Z).toArray 55)).alloc (Obj.cells #[.int .u32 hh, .int .u32 ll] 43)).drew wr.heap.size .u32 55 Z) := (Blk.new wr .u32 55 Z).alloc _
      have Z4 : Hid (Blk ((wr.alloc (Obj.cells #[.int .u32 hh, .int .u32 ll] 43)).alloc (Obj.cells (List.map (Value.int IntKind.u32) Z).toArray 55)).drew (wr.heap.size + 1) .u32 55 Z) := Blk.newAt (by simp) .u32 55 Z
      have RZ : Hid (∀ w, Below wr.heap.size wr w → Blk w W.heap.size .u32 55 Z) := fun w hw => bZ.on hw
      have G1 : Hid (wr.heap.size ≠ gt) := by show _ ≠ _; omega
      have G2 : Hid (wr.heap.size + 1 ≠ gt) := by show _ ≠ _; omega
      have G3 : Hid (W.heap.size ≠ gt) := by show _ ≠ _; omega
      have G4 : Hid (W.heap.size + 1 ≤ wr.heap.size) := hsz
      have G5 : Hid (W.heap.size + 1 ≤ wr.heap.size + 1) := by show _ ≤ _; omega
      have G6 : Hid (∀ w, Blk w W.heap.size .u32 55 Z → W.heap.size + 1 ≤ w.heap.size) := fun w h => h.lt
      have HML : Hid (M.length = 8) := hMl
      have HZL : Hid (Z.length = 8) := hZl
      clear hMl hZl bZ hb ho hN rA D al hYl hpad hY hhh hll hall hpl htl hq hql hlt hk hpz hsz hgt hgt0 hx hm0 hm ht
      go_wp2
      go_region_held3 (fun w => Below W.heap.size W w) (first | (exact CW.out _ C0.out) | (exact CW.out _ C1.out) | (exact CW.out _ C2.out) | (exact CW.out _ C3.out) | (exact CW.out _ C4.out) | (exact hw3) | (exact hw2) | (exact hw3.alloc hw3.size _) | (exact hw2.alloc hw2.size _) | (exact F.out.2.2)) (first | (go_at_call 102; refine (HIGH.out _).mono ?_; rintro en w' ⟨rfl, rfl⟩) | (go_at_call 103; refine (LOW.out _).mono ?_; rintro en w' ⟨rfl, rfl⟩) | (refine step_append_at (by rfl) _ _ 51 (by rfl) _ _ (by rfl) (by rfl) (by first | exact AP.out _ _ C2.out S2.out | exact AP.out _ _ C3.out S3.out | exact AP.out _ _ C4.out S4.out) ?_; rintro ao' cap' w2 ⟨hcap, hat2, hbt2, hw2⟩) | (go_at_call 139; (first | (refine (BL.out _ _ _ hw2 hcap hat2).mono ?_) | (refine (BL.out _ _ _ (hw2.alloc hw2.size _) hcap (hat2.below (below_one _ _))).mono ?_)); rintro en w3 ⟨ao'', rs, cap'', rfl, hb3, hw3⟩; (first | (have FX := FN.out _ _ ((hbt2.blk Z3.out G1.out).on hb3) G4.out hw3 ((hbt2.blk (RZ.out _ C3.out) G3.out).on hb3); obtain ⟨hst, F⟩ := FX) | (have FX := FN.out _ _ ((hbt2.blk Z4.out G2.out).on hb3) G5.out hw3 ((hbt2.blk (RZ.out _ C4.out) G3.out).on hb3); obtain ⟨hst, F⟩ := FX) | (have FX := FN.out _ _ ((Blk.new w2 .u32 55 Z).on hb3) (G6.out _ (hbt2.blk (RZ.out _ C2.out) G3.out)) hw3 (((hbt2.blk (RZ.out _ C2.out) G3.out).alloc _).on hb3); obtain ⟨hst, F⟩ := FX) | (have FX := FN.out _ _ (Blk.new w3 .u32 55 Z) (G6.out _ ((hbt2.blk (RZ.out _ C2.out) G3.out).on hb3)) (hw3.alloc hw3.size _) (((hbt2.blk (RZ.out _ C2.out) G3.out).on hb3).alloc _); obtain ⟨hst, F⟩ := FX))))
      all_goals
        obtain ⟨bM, bZ, hb⟩ := F.out
        clear F hst hb3 hw3 hbt2 hw2 hat2
        generalize World.setRow _ _ _ = w4 at *
        have BM : Hid (Blk w4 _ .u32 55 M) := bM
        have BZ : Hid (Blk w4 W.heap.size .u32 55 Z) := bZ
        have HB4 : Hid (Below W.heap.size W w4) := hb
        clear bM bZ hb
        go_wp2_with (first | (refine wpList_load_blk rfl 55 _ rfl _ M rfl BM.out Tryz.underlying55 zM ?_) | (refine wpList_store_blk rfl 55 _ _ rfl W.heap.size M rfl rfl BZ.out zM (by rw [HZL.out, HML.out]) ?_))
        refine ret_cell rfl rfl W.heap.size M rfl (BZ.out.setRow _) Tryz.underlying55 zM ?_
        rw [HM.out]
        exact ⟨rfl, below_setRow HB4.out (Nat.le_refl _) _⟩
end Go.Proofs.YtdfnbcbnmiohnaaGreatDoor.H
