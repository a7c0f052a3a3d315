/- Laws of whole pages: load, zero, compare, clear, copy. -/
import Derived.Test.YtajkhkaidjjioaaM3
import Derived.Laws.CopyOwn
namespace Go.Proofs.Ytajkhkaidjjioaa
open Go.RowKit
def pgV (L : List Int) : Value := .agg (u32s L).toArray
def zs : List Int := List.replicate 1024 0
theorem zs_len : zs.length = 1024 := List.length_replicate
theorem under85 : Try.prog.underlying 141 = some (.array 1024 27) := by kernel_rfl
theorem under32 : Try.prog.underlying 27 = some (.int .u32) := by kernel_rfl
theorem under24 : Try.prog.underlying 32 = some (.slice 27) := by kernel_rfl
theorem info85 : (Try.prog.info? 141).map (fun i => (i.zero, i.size)) = some (some (.agg (u32s zs).toArray), 1024) := by kernel_rfl
theorem size85 : (Try.prog.info? 141).map (·.size) = some 1024 := by kernel_rfl
theorem size32 : (Try.prog.info? 27).map (·.size) = some 1 := by kernel_rfl
theorem built85 : Try.prog.built 141 [] = some (u32s zs).toArray := by kernel_rfl
theorem u32s_one (L : List Int) : ∀ v ∈ u32s L, v.oneCell' = true := by
  intro v hv
  simp only [u32s, List.mem_map] at hv
  obtain ⟨x, _, rfl⟩ := hv
  rfl
theorem u32s_all (L : List Int) : (u32s L).toArray.all (·.oneCell') = true := all_oneCell_toArray (u32s_one L)
theorem wpList_load_pg {ops : Array Oper} {rest : List Oper} {o : Oper} {a : Act} {w : World} {Q : Exit → Act → World → Prop} (hgd : o.guard = none) (x : Operand) (ho : o.op = .load 141 x)
    (g : Nat) (L : List Int) (hx : a.eval x = .pointer (some ⟨g, 0, none⟩)) (hg : Cel w g 141 (u32s L)) (hL : L.length = 1024)
    (h : wpList Try.prog ops Q rest (a.put o.dst (pgV L)) w) : wpList Try.prog ops Q (o :: rest) a w :=
  wpList_load_mid hgd 141 x ho g 0 hx _ _ hg.range under85 rfl (by rw [size85, u32s_len, hL]) h
theorem wpList_build_pg {ops : Array Oper} {rest : List Oper} {o : Oper} {a : Act} {w : World} {Q : Exit → Act → World → Prop} (hgd : o.guard = none) (ho : o.op = .build 141 #[])
    (h : wpList Try.prog ops Q rest (a.put o.dst (pgV zs)) w) : wpList Try.prog ops Q (o :: rest) a w := by
  refine wpList_plain hgd fun K hK => ?_
  unfold Oper.wp execOp
  simp only [ho, Sem.run_bind, Array.map_empty, run_build w 141 #[] _ built85, Result.andThen_ok]
  exact hK _ _ h
theorem all_range_ints : ∀ (xs ys : List Int), xs.length = ys.length → ((List.range xs.length).all fun i => xs.getD i 0 == ys.getD i 0) = decide (xs = ys)
  | [], [], _ => rfl
  | x :: xs, y :: ys, h => by
    have ih := all_range_ints xs ys (by simpa using h)
    rw [List.length_cons, List.range_succ_eq_map, List.all_cons, List.all_map]
    simp only [List.getD_cons_zero, Function.comp_def, List.getD_cons_succ, ih]
    rw [Bool.eq_iff_iff]
    simp
  | [], _ :: _, h => by simp at h
  | _ :: _, [], h => by simp at h
theorem run_equalIn_pg (w : World) (d : Nat) (xs ys : List Int) (hx : xs.length = 1024) (hy : ys.length = 1024) :
    (Op.equalIn (d + 2) 141 (pgV xs) (pgV ys)).run Try.prog w = .ok (decide (xs = ys)) w := by
  have hsz : ∀ w, (sizeOf 27).run Try.prog w = .ok 1 w := fun w => by
    have := size32
    cases hq : Try.prog.info? 27 with
    | none => simp [hq] at this
    | some i => simp [hq] at this; simp [sizeOf, typeInfo, hq, this]
  rw [← all_range_ints xs ys (hx.trans hy.symm), hx, List.range_eq_range', pgV, pgV, Op.equalIn]
  simp only [Sem.run_bind, run_underlying under85, Result.andThen_ok, hsz, Std.Legacy.Range.forIn_eq_forIn_range', Std.Legacy.Range.size, Nat.sub_zero, Nat.add_sub_cancel, Nat.div_one]
  have hl : ∀ i ∈ List.range' 0 1024 1, i < 1024 := fun i hi => by simpa using (List.mem_range'_1.1 hi).2
  generalize List.range' 0 1024 1 = l at hl ⊢
  induction l with
  | nil => simp
  | cons i l ih =>
    have hi : i < 1024 := hl i (by simp)
    have px : (part 27 (u32s xs).toArray (i * 1)).run Try.prog w = .ok (.int .u32 (xs.getD i 0)) w := by
      simp [part, isAgg, run_underlying under32, u32s, List.getD, List.getElem?_eq_getElem (show i < xs.length by omega)]
    have py : (part 27 (u32s ys).toArray (i * 1)).run Try.prog w = .ok (.int .u32 (ys.getD i 0)) w := by
      simp [part, isAgg, run_underlying under32, u32s, List.getD, List.getElem?_eq_getElem (show i < ys.length by omega)]
    have pe : (Op.equalIn (d + 1) 27 (.int .u32 (xs.getD i 0)) (.int .u32 (ys.getD i 0))).run Try.prog w = .ok (xs.getD i 0 == ys.getD i 0) w := run_equalIn_int w d 27 .u32 .u32 _ _ under32
    simp only [List.forIn_cons, Sem.run_bind, px, py, pe, Result.andThen_ok, List.all_cons]
    cases hb : (xs.getD i 0 == ys.getD i 0)
    · simp
    · simp only [Bool.not_true, Bool.false_eq_true, if_false, Sem.run_pure, Result.andThen_ok, Bool.true_and]
      exact ih fun j hj => hl j (by simp [hj])
theorem run_eql_pg (w : World) (xs ys : List Int) (hx : xs.length = 1024) (hy : ys.length = 1024) : (binOp .eql 141 (pgV xs) (pgV ys)).run Try.prog w = .ok (.bool (decide (xs = ys))) w := by
  rw [pgV, pgV, run_eql_struct, ← pgV, ← pgV, run_equalIn_pg w 9998 xs ys hx hy]
  rfl
theorem run_neq_pg (w : World) (xs ys : List Int) (hx : xs.length = 1024) (hy : ys.length = 1024) : (binOp .neq 141 (pgV xs) (pgV ys)).run Try.prog w = .ok (.bool (!decide (xs = ys))) w := by
  rw [pgV, pgV, run_neq_struct, ← pgV, ← pgV, run_equalIn_pg w 9998 xs ys hx hy]
  rfl
theorem guard85 : Try.prog.eqGuardType Try.prog.depth 141 = false := by kernel_rfl
theorem run_guard_eql (w : World) (x y : Operand) (X Y : List Int) : (eqGuard .eql 141 x y (pgV X) (pgV Y)).run Try.prog w = .ok () w := by
  simp [eqGuard, pgV]
theorem run_guard_neq (w : World) (x y : Operand) (X Y : List Int) : (eqGuard .neq 141 x y (pgV X) (pgV Y)).run Try.prog w = .ok () w := by
  simp [eqGuard, pgV]
theorem wpList_eql_pg {ops : Array Oper} {rest : List Oper} {o : Oper} {a : Act} {w : World} {Q : Exit → Act → World → Prop} (hgd : o.guard = none) (x y : Operand) (ho : o.op = .binOp .eql 141 x y 141)
    (X Y : List Int) (hx : a.eval x = pgV X) (hy : a.eval y = pgV Y) (hX : X.length = 1024) (hY : Y.length = 1024)
    (h : wpList Try.prog ops Q rest (a.put o.dst (.bool (decide (X = Y)))) w) : wpList Try.prog ops Q (o :: rest) a w := by
  refine wpList_plain hgd fun K hK => ?_
  unfold Oper.wp execOp
  simp only [ho, hx, hy, Sem.run_bind, run_guard_eql, run_eql_pg w X Y hX hY, Result.andThen_ok]
  exact hK _ _ h
theorem zeroCells_one (z : Value) (n : Nat) : (Builtin.zeroCells #[z] n).toList = List.replicate n z := by
  simp [Builtin.zeroCells]
  apply List.ext_getElem
  · simp
  · intro i h1 h2
    simp [Nat.mod_one]
theorem run_clear_row (w : World) (g : Nat) (ty : TypeId) (n c : Nat) (cs : List Value) (hg : Cel w g 141 cs) (hn : cs.length = n) (h0 : 0 < n) :
    (Builtin.clear_ #[32] ty #[.slice (some ⟨g, 0, none⟩) n c]).run Try.prog w = .ok (.tuple #[]) (w.setRow g (List.replicate n (Value.int .u32 0)).toArray) := by
  have hz : ∀ w, (zeroValue 27).run Try.prog w = .ok (.int .u32 0) w := fun w => by
    have : (Try.prog.info? 27).map (fun i => i.zero) = some (some (.int .u32 0)) := by kernel_rfl
    cases hq : Try.prog.info? 27 with
    | none => simp [hq] at this
    | some i => simp [hq] at this; simp [zeroValue, typeInfo, hq, this]
  have hzc : (Builtin.zeroCells (Value.int .u32 0).cells n).toList = List.replicate n (Value.int .u32 0) := zeroCells_one _ n
  have hst := run_storeCells_at Try.prog g 0 141 (List.replicate n (Value.int .u32 0)) 0 cs.toArray w hg (by simp [hn]) (by intro v hv; rw [List.eq_of_mem_replicate hv]; rfl)
  simp only [Nat.add_zero, Nat.zero_add] at hst
  have e : List.take 0 cs.toArray.toList ++ List.replicate n (Value.int .u32 0) ++ List.drop (List.replicate n (Value.int .u32 0)).length cs.toArray.toList = List.replicate n (Value.int .u32 0) := by
    rw [List.drop_eq_nil_of_le (by simp [hn])]; simp
  rw [e] at hst
  clear hn
  obtain ⟨m, rfl⟩ : ∃ m, n = m + 1 := ⟨n - 1, by omega⟩
  simp [Builtin.clear_, run_underlying under24, hz, hzc, hst]
theorem wpList_clear_pg {ops : Array Oper} {rest : List Oper} {o : Oper} {a : Act} {w : World} {Q : Exit → Act → World → Prop} (hgd : o.guard = none) (x : Operand) (ho : o.op = .call { callee := .builtin .clear, args := #[x], argTypes := #[32] })
    (g c : Nat) (L : List Int) (hx : a.eval x = .slice (some ⟨g, 0, none⟩) 1024 c) (hg : Cel w g 141 (u32s L)) (hL : L.length = 1024)
    (h : ∀ w', Cel w' g 141 (u32s zs) → ButL [g] w w' → w'.heap.size = w.heap.size → wpList Try.prog ops Q rest (a.put o.dst (.tuple #[])) w') : wpList Try.prog ops Q (o :: rest) a w := by
  refine wpList_plain hgd fun K hK => ?_
  have hz : List.replicate 1024 (Value.int .u32 0) = u32s zs := (List.map_replicate).symm
  have hrun := run_clear_row w g o.type 1024 c _ hg (by rw [u32s_len, hL]) (by decide)
  rw [hz] at hrun
  unfold Oper.wp
  simp only [execOp, ho, resolve, invoke, builtin, hx, Sem.run_bind, Sem.run_pure, hrun, Result.andThen_ok, List.map_toArray, List.map_cons, List.map_nil]
  exact hK _ _ (h _ (hg.set _) (.setRow _ _ _ (by simp)) (by simp))
theorem wpList_copy_pg {ops : Array Oper} {rest : List Oper} {o : Oper} {a : Act} {w : World} {Q : Exit → Act → World → Prop} (hgd : o.guard = none) (d s : Operand) (ho : o.op = .call { callee := .builtin .copy, args := #[d, s], argTypes := #[32, 32] })
    (g c e : Nat) (ad : Addr) (cur : List Value) (t : TypeId) (L : List Int) (hd : a.eval d = .slice (some ⟨g, 0, none⟩) 1024 c) (hs : a.eval s = .slice (some ad) 1024 e) (hg : Cel w g t cur) (hcur : cur.length = 1024) (hL : L.length = 1024)
    (hsrc : ∀ j v, (u32s L)[j]? = some v → w.cell? (ad.add j) = some v)
    (h : ∀ w', Cel w' g t (u32s L) → ButL [g] w w' → w'.heap.size = w.heap.size → wpList Try.prog ops Q rest (a.put o.dst (goInt 1024)) w') : wpList Try.prog ops Q (o :: rest) a w := by
  have hl : (u32s L).length = 1024 := by rw [u32s_len, hL]
  refine wpList_copy_own hgd d s 32 32 ho 27 under24 size32 g 0 1024 c ad 1024 e hd hs cur.toArray t hg (u32s L) (by rw [hl]; rfl) hsrc (by rw [hl]; simp [hcur]) (u32s_one L) ?_
  have e : List.take 0 cur.toArray.toList ++ (u32s L ++ List.drop (0 + (u32s L).length) cur.toArray.toList) = u32s L := by
    rw [List.drop_eq_nil_of_le (by rw [hl]; simp [hcur])]; simp
  rw [e, hl]
  exact h _ (hg.set _) (.setRow _ _ _ (by simp)) (by simp)
theorem Cel.src {w : World} {g : Nat} {t : TypeId} {cs : List Value} (h : Cel w g t cs) : ∀ j v, cs[j]? = some v → w.cell? ((⟨g, 0, none⟩ : Addr).add j) = some v := by
  intro j v hv
  rw [Addr.add_mid, Nat.zero_add, h.cell j, hv]
end Go.Proofs.Ytajkhkaidjjioaa
