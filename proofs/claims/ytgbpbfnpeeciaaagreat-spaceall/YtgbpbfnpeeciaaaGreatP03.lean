import Derived.Test.YtgbpbfnpeeciaaaGreatP02
import Derived.Laws.CopyOwn
namespace Go.Proofs.YtgbpbfnpeeciaaaGreat
open Go.RowKit
def pgV (L : List Int) : Value := .agg (u32s L).toArray
def zs : List Int := List.replicate 1024 0
theorem zs_len : zs.length = 1024 := List.length_replicate
theorem under24 : Tryz.prog.underlying 102 = some (.slice 29) := by kernel_rfl
theorem info85 : (Tryz.prog.info? 183).map (fun i => (i.zero, i.size)) = some (some (.agg (u32s zs).toArray), 1024) := by kernel_rfl
theorem size32 : (Tryz.prog.info? 29).map (·.size) = some 1 := by kernel_rfl
theorem u32s_one (L : List Int) : ∀ v ∈ u32s L, v.oneCell' = true := by
  intro v hv
  simp only [u32s, List.mem_map] at hv
  obtain ⟨x, _, rfl⟩ := hv
  rfl
theorem zeroCells_one (z : Value) (n : Nat) : (Builtin.zeroCells #[z] n).toList = List.replicate n z := by
  simp [Builtin.zeroCells]
  apply List.ext_getElem
  · simp
  · intro i h1 h2
    simp [Nat.mod_one]
theorem run_clear_row (w : World) (g : Nat) (ty : TypeId) (n c : Nat) (cs : List Value) (hg : Cel w g 183 cs) (hn : cs.length = n) (h0 : 0 < n) :
    (Builtin.clear_ #[102] ty #[.slice (some ⟨g, 0, none⟩) n c]).run Tryz.prog w = .ok (.tuple #[]) (w.setRow g (List.replicate n (Value.int .u32 0)).toArray) := by
  have hz : ∀ w, (zeroValue 29).run Tryz.prog w = .ok (.int .u32 0) w := fun w => by
    have : (Tryz.prog.info? 29).map (fun i => i.zero) = some (some (.int .u32 0)) := by kernel_rfl
    cases hq : Tryz.prog.info? 29 with
    | none => simp [hq] at this
    | some i => simp [hq] at this; simp [zeroValue, typeInfo, hq, this]
  have hzc : (Builtin.zeroCells (Value.int .u32 0).cells n).toList = List.replicate n (Value.int .u32 0) := zeroCells_one _ n
  have hst := run_storeCells_at Tryz.prog g 0 183 (List.replicate n (Value.int .u32 0)) 0 cs.toArray w hg (by simp [hn]) (by intro v hv; rw [List.eq_of_mem_replicate hv]; rfl)
  simp only [Nat.add_zero, Nat.zero_add] at hst
  have e : List.take 0 cs.toArray.toList ++ List.replicate n (Value.int .u32 0) ++ List.drop (List.replicate n (Value.int .u32 0)).length cs.toArray.toList = List.replicate n (Value.int .u32 0) := by
    rw [List.drop_eq_nil_of_le (by simp [hn])]; simp
  rw [e] at hst
  clear hn
  obtain ⟨m, rfl⟩ : ∃ m, n = m + 1 := ⟨n - 1, by omega⟩
  simp [Builtin.clear_, run_underlying under24, hz, hzc, hst]
theorem wpList_clear_pg {ops : Array Oper} {rest : List Oper} {o : Oper} {a : Act} {w : World} {Q : Exit → Act → World → Prop} (hgd : o.guard = none) (x : Operand) (ho : o.op = .call { callee := .builtin .clear, args := #[x], argTypes := #[102] })
    (g c : Nat) (L : List Int) (hx : a.eval x = .slice (some ⟨g, 0, none⟩) 1024 c) (hg : Cel w g 183 (u32s L)) (hL : L.length = 1024)
    (h : ∀ w', Cel w' g 183 (u32s zs) → ButL [g] w w' → w'.heap.size = w.heap.size → wpList Tryz.prog ops Q rest (a.put o.dst (.tuple #[])) w') : wpList Tryz.prog ops Q (o :: rest) a w := by
  refine wpList_plain hgd fun K hK => ?_
  have hz : List.replicate 1024 (Value.int .u32 0) = u32s zs := (List.map_replicate).symm
  have hrun := run_clear_row w g o.type 1024 c _ hg (by rw [u32s_len, hL]) (by decide)
  rw [hz] at hrun
  unfold Oper.wp
  simp only [execOp, ho, resolve, invoke, builtin, hx, Sem.run_bind, Sem.run_pure, hrun, Result.andThen_ok, List.map_toArray, List.map_cons, List.map_nil]
  exact hK _ _ (h _ (hg.set _) (.setRow _ _ _ (by simp)) (by simp))
theorem Cel.src {w : World} {g : Nat} {t : TypeId} {cs : List Value} (h : Cel w g t cs) : ∀ j v, cs[j]? = some v → w.cell? ((⟨g, 0, none⟩ : Addr).add j) = some v := by
  intro j v hv
  rw [Addr.add_mid, Nat.zero_add, h.cell j, hv]
end Go.Proofs.YtgbpbfnpeeciaaaGreat
