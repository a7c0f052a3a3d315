import Derived.Test.YtildhjiddidghaaGreatDoorP17
import Derived.Laws.CopyOwn
import Derived.Deep.OwnRows
namespace Go.Proofs.YtildhjiddidghaaGreatDoor
open Go.RowKit
def pgV (L : List Int) : Value := .agg (u32s L).toArray
def zs : List Int := List.replicate 1024 0
theorem zs_len : zs.length = 1024 := List.length_replicate
theorem under85 : Tryz.prog.underlying 156 = some (.array 1024 22) := by kernel_rfl
theorem under32 : Tryz.prog.underlying 22 = some (.int .u32) := by kernel_rfl
theorem under24 : Tryz.prog.underlying 40 = some (.slice 22) := by kernel_rfl
theorem info85 : (Tryz.prog.info? 156).map (fun i => (i.zero, i.size)) = some (some (.agg (u32s zs).toArray), 1024) := by kernel_rfl
theorem size85 : (Tryz.prog.info? 156).map (·.size) = some 1024 := by kernel_rfl
theorem size32 : (Tryz.prog.info? 22).map (·.size) = some 1 := by kernel_rfl
theorem u32s_one (L : List Int) : ∀ v ∈ u32s L, v.oneCell' = true := by
  intro v hv
  simp only [u32s, List.mem_map] at hv
  obtain ⟨x, _, rfl⟩ := hv
  rfl
theorem u32s_all (L : List Int) : (u32s L).toArray.all (·.oneCell') = true := all_oneCell_toArray (u32s_one L)
theorem all_range_ints : ∀ (xs ys : List Int), xs.length = ys.length → ((List.range xs.length).all fun i => xs.getD i 0 == ys.getD i 0) = decide (xs = ys)
  | [], [], _ => rfl
  | x :: xs, y :: ys, h => by
    have ih := all_range_ints xs ys (by simpa using h)
    rw [List.length_cons, List.range_succ_eq_map, List.all_cons, List.all_map]
    simp only [List.getD_cons_zero, Function.comp_def, List.getD_cons_succ, ih]
    rw [Bool.eq_iff_iff]
    simp
  | [], _ :: _, h => by simp at h
  | _ :: _, [], h => by simp at h
theorem run_equalIn_pg (w : World) (d : Nat) (xs ys : List Int) (hx : xs.length = 1024) (hy : ys.length = 1024) :
    (Op.equalIn (d + 2) 156 (pgV xs) (pgV ys)).run Tryz.prog w = .ok (decide (xs = ys)) w := by
  have hsz : ∀ w, (sizeOf 22).run Tryz.prog w = .ok 1 w := fun w => by
    have := size32
    cases hq : Tryz.prog.info? 22 with
    | none => simp [hq] at this
    | some i => simp [hq] at this; simp [sizeOf, typeInfo, hq, this]
  rw [← all_range_ints xs ys (hx.trans hy.symm), hx, List.range_eq_range', pgV, pgV, Op.equalIn]
  simp only [Sem.run_bind, run_underlying under85, Result.andThen_ok, hsz, Std.Legacy.Range.forIn_eq_forIn_range', Std.Legacy.Range.size, Nat.sub_zero, Nat.add_sub_cancel, Nat.div_one]
  have hl : ∀ i ∈ List.range' 0 1024 1, i < 1024 := fun i hi => by simpa using (List.mem_range'_1.1 hi).2
  generalize List.range' 0 1024 1 = l at hl ⊢
  induction l with
  | nil => simp
  | cons i l ih =>
    have hi : i < 1024 := hl i (by simp)
    have px : (part 22 (u32s xs).toArray (i * 1)).run Tryz.prog w = .ok (.int .u32 (xs.getD i 0)) w := by
      simp [part, isAgg, run_underlying under32, u32s, List.getD, List.getElem?_eq_getElem (show i < xs.length by omega)]
    have py : (part 22 (u32s ys).toArray (i * 1)).run Tryz.prog w = .ok (.int .u32 (ys.getD i 0)) w := by
      simp [part, isAgg, run_underlying under32, u32s, List.getD, List.getElem?_eq_getElem (show i < ys.length by omega)]
    have pe : (Op.equalIn (d + 1) 22 (.int .u32 (xs.getD i 0)) (.int .u32 (ys.getD i 0))).run Tryz.prog w = .ok (xs.getD i 0 == ys.getD i 0) w := run_equalIn_int w d 22 .u32 .u32 _ _ under32
    simp only [List.forIn_cons, Sem.run_bind, px, py, pe, Result.andThen_ok, List.all_cons]
    cases hb : (xs.getD i 0 == ys.getD i 0)
    · simp
    · simp only [Bool.not_true, Bool.false_eq_true, if_false, Sem.run_pure, Result.andThen_ok, Bool.true_and]
      exact ih fun j hj => hl j (by simp [hj])
theorem run_neq_pg (w : World) (xs ys : List Int) (hx : xs.length = 1024) (hy : ys.length = 1024) : (binOp .neq 156 (pgV xs) (pgV ys)).run Tryz.prog w = .ok (.bool (!decide (xs = ys))) w := by
  rw [pgV, pgV, run_neq_struct, ← pgV, ← pgV, run_equalIn_pg w 9998 xs ys hx hy]
  rfl
theorem run_guard_neq (w : World) (x y : Operand) (X Y : List Int) : (eqGuard .neq 156 x y (pgV X) (pgV Y)).run Tryz.prog w = .ok () w := by
  simp [eqGuard, pgV]
theorem zeroCells_one (z : Value) (n : Nat) : (Builtin.zeroCells #[z] n).toList = List.replicate n z := by
  simp [Builtin.zeroCells]
  apply List.ext_getElem
  · simp
  · intro i h1 h2
    simp [Nat.mod_one]
theorem run_clear_row (w : World) (g : Nat) (ty : TypeId) (n c : Nat) (cs : List Value) (hg : Cel w g 156 cs) (hn : cs.length = n) (h0 : 0 < n) :
    (Builtin.clear_ #[40] ty #[.slice (some ⟨g, 0, none⟩) n c]).run Tryz.prog w = .ok (.tuple #[]) (w.setRow g (List.replicate n (Value.int .u32 0)).toArray) := by
  have hz : ∀ w, (zeroValue 22).run Tryz.prog w = .ok (.int .u32 0) w := fun w => by
    have : (Tryz.prog.info? 22).map (fun i => i.zero) = some (some (.int .u32 0)) := by kernel_rfl
    cases hq : Tryz.prog.info? 22 with
    | none => simp [hq] at this
    | some i => simp [hq] at this; simp [zeroValue, typeInfo, hq, this]
  have hzc : (Builtin.zeroCells (Value.int .u32 0).cells n).toList = List.replicate n (Value.int .u32 0) := zeroCells_one _ n
  have hst := run_storeCells_at Tryz.prog g 0 156 (List.replicate n (Value.int .u32 0)) 0 cs.toArray w hg (by simp [hn]) (by intro v hv; rw [List.eq_of_mem_replicate hv]; rfl)
  simp only [Nat.add_zero, Nat.zero_add] at hst
  have e : List.take 0 cs.toArray.toList ++ List.replicate n (Value.int .u32 0) ++ List.drop (List.replicate n (Value.int .u32 0)).length cs.toArray.toList = List.replicate n (Value.int .u32 0) := by
    rw [List.drop_eq_nil_of_le (by simp [hn])]; simp
  rw [e] at hst
  clear hn
  obtain ⟨m, rfl⟩ : ∃ m, n = m + 1 := ⟨n - 1, by omega⟩
  simp [Builtin.clear_, run_underlying under24, hz, hzc, hst]
theorem wpList_clear_pg {ops : Array Oper} {rest : List Oper} {o : Oper} {a : Act} {w : World} {Q : Exit → Act → World → Prop} (hgd : o.guard = none) (x : Operand) (ho : o.op = .call { callee := .builtin .clear, args := #[x], argTypes := #[40] })
    (g c : Nat) (L : List Int) (hx : a.eval x = .slice (some ⟨g, 0, none⟩) 1024 c) (hg : Cel w g 156 (u32s L)) (hL : L.length = 1024)
    (h : ∀ w', Cel w' g 156 (u32s zs) → ButL [g] w w' → w'.heap.size = w.heap.size → wpList Tryz.prog ops Q rest (a.put o.dst (.tuple #[])) w') : wpList Tryz.prog ops Q (o :: rest) a w := by
  refine wpList_plain hgd fun K hK => ?_
  have hz : List.replicate 1024 (Value.int .u32 0) = u32s zs := (List.map_replicate).symm
  have hrun := run_clear_row w g o.type 1024 c _ hg (by rw [u32s_len, hL]) (by decide)
  rw [hz] at hrun
  unfold Oper.wp
  simp only [execOp, ho, resolve, invoke, builtin, hx, Sem.run_bind, Sem.run_pure, hrun, Result.andThen_ok, List.map_toArray, List.map_cons, List.map_nil]
  exact hK _ _ (h _ (hg.set _) (.setRow _ _ _ (by simp)) (by simp))
theorem Cel.src {w : World} {g : Nat} {t : TypeId} {cs : List Value} (h : Cel w g t cs) : ∀ j v, cs[j]? = some v → w.cell? ((⟨g, 0, none⟩ : Addr).add j) = some v := by
  intro j v hv
  rw [Addr.add_mid, Nat.zero_add, h.cell j, hv]
end Go.Proofs.YtildhjiddidghaaGreatDoor
namespace Go.Proofs.YtildhjiddidghaaGreatDoor
open Go.RowKit
def MS.zero (m : MS) (s : Bool) (p : Int) : MS := match m.at s p with
  | none => m
  | some k => { m.tick 1024 with P := m.P.set k zs }
def MS.perr (m : MS) (s : Bool) (p : Int) : Int := if (m.at s p).isSome then 0 else 5
theorem zero_any (w : World) (f : Fp) (m : MS) (h : Mem w f m) (s : Bool) (p : Int) :
    Calls Tryz.prog 109 #[ptr f.gm, fr s p] w fun x w' => x = .returned (.int .i64 (m.perr s p)) ∧ Mem w' f (m.zero s p) ∧ ButL f.w w w' := by
  have hX := h.on (below_one w (.cells #[.bool s, .int .i64 p] 57))
  have hB := hid (below_one w (.cells #[.bool s, .int .i64 p] 57))
  have HF := hid (find_any _ f m hX s p)
  have h1 := h.ns0
  have hlt : Hid (∀ k, m.at s p = some k → k < m.P.length) := fun k hk => MS.at_lt h1 hk
  have H := hid hX
  clear h hX h1
  unfold MS.zero MS.perr
  generalize hr : m.at s p = r at *
  cases r with
  | none =>
    simp only [fr, ptr, pv] at *
    go_enter Tryz.func109, Tryz.ntmps109
    go_wp2_with fail
    refine HF.out.mono ?_
    rintro x w1 ⟨rfl, hb1⟩
    have HB1 := hid (below_on hB.out hb1)
    have HM := hid (H.out.on hb1)
    clear hb1
    go_wp2_with fail
    go_ret
    exact ⟨rfl, HM.out, .of HB1.out⟩
  | some k =>
    have hk := hlt.out k rfl
    simp only [fr, ptr, pv] at *
    go_enter Tryz.func109, Tryz.ntmps109
    go_wp2_with fail
    refine HF.out.mono ?_
    rintro x w1 ⟨rfl, hb1⟩
    have HB1 := hid (below_on hB.out hb1)
    have HM := hid (H.out.on hb1)
    have c2 := HM.out.cm
    have f2 := HM.out.cel.free 2
    have HT := hid (HM.out.tick 1024)
    have HG := hid (HM.out.mem k hk)
    have HBT : Hid (ButL f.w w (w1.setCell ⟨f.gm, 2, none⟩ (.int .i64 (wrap64 (m.c + 1024))))) := hid ((ButL.of HB1.out).trans (.setCell _ _ _ _ (by simp [Fp.w])))
    clear hb1
    go_wp2_with (refine wpList_clear_pg rfl _ rfl (f.b k) 1024 (m.p k) rfl (HT.out.pg k hk) (HT.out.full k hk) ?_; intro w2 hc2 hb2 hs2; have HC2 := hid hc2; have HB2 := hid hb2; clear hc2 hb2)
    go_ret
    exact ⟨rfl, HT.out.page k hk zs zs_len HB2.out HC2.out, HBT.out.trans (HB2.out.mono (by intro g hg; rw [List.mem_singleton] at hg; subst hg; simp only [Fp.w, List.mem_cons]; exact .inr HG.out))⟩
theorem wpList_make_cel {ops : Array Oper} {rest : List Oper} {o : Oper} {a : Act} {w : World} {Q : Exit → Act → World → Prop} (hgd : o.guard = none) (l c : Operand) (t e : TypeId) (ho : o.op = Op.makeSlice t l c) (z : Value) (b : Nat)
    (hu : Tryz.prog.underlying t = some (.slice e)) (hinfo : (Tryz.prog.info? e).map (fun i => (i.zero, i.size, i.bytes)) = some (some z, 1, b)) (hz1 : z.cells = #[z]) (n : Nat) (L C : Int) (hl : a.eval l = .int .i64 L) (hc : a.eval c = .int .i64 C) (hL : L = (n : Int)) (hC : C = (n : Int))
    (hb : b * n ≤ 281474976710656) (hn : n ≤ 9223372036854775807)
    (h : ∀ w', Cel w' w.heap.size e (List.replicate n z) → Below w.heap.size w w' → w'.heap.size = w.heap.size + 1 → wpList Tryz.prog ops Q rest (a.put o.dst (.slice (some ⟨w.heap.size, 0, none⟩) n n)) w') :
    wpList Tryz.prog ops Q (o :: rest) a w := by
  obtain ⟨i, hi, hzz⟩ := Option.map_eq_some_iff.1 hinfo
  simp only [Prod.mk.injEq] at hzz
  obtain ⟨hz, hs, hbb⟩ := hzz
  subst hL hC
  refine wpList_make_row w hgd l c t ho e i z hu hi hz hs hz1 .i64 .i64 n hl hc (by rw [hbb]; exact hb) hn ?_
  have e1 : madeCells #[z] n = (List.replicate n z).toArray := by rw [← toList_madeCells_one]
  rw [e1]
  exact h _ (Cel.new _ _ _) (below_one _ _) (by simp)
theorem info32 : (Tryz.prog.info? 22).map (fun i => (i.zero, i.size, i.bytes)) = some (some (.int .u32 0), 1, 4) := by kernel_rfl
def MS.tk (m : MS) (s : Bool) (p n : Int) : MS := if (m.at s p).isSome then m.tick n else m
def PageIs (w w' : World) (m : MS) (s : Bool) (p : Int) (v : Value) : Prop := match m.at s p with
  | none => v = .slice none 0 0
  | some k => ∃ g, w.heap.size ≤ g ∧ v = .slice (some ⟨g, 0, none⟩) 1024 1024 ∧ Cel w' g 22 (u32s (m.p k))
def MS.bl (m : MS) (s : Bool) (p : Int) : Bool := match m.at s p with
  | none => false
  | some k => decide (m.p k = zs)
def MS.lerr (m : MS) (s : Bool) (p : Int) (L : List Int) : Int := match m.at s p with
  | none => 5
  | some _ => if L.length = 1024 then 0 else 2
def MS.lay (m : MS) (s : Bool) (p : Int) (L : List Int) : MS := match m.at s p with
  | none => m
  | some k => if L.length = 1024 then { m.tick 1024 with P := m.P.set k L } else m
end Go.Proofs.YtildhjiddidghaaGreatDoor
