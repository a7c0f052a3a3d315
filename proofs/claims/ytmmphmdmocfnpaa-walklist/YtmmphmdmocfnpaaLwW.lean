/- A World, an Ask, a Poke that came in, opened. -/
import Derived.Test.YtmmphmdmocfnpaaLw
import Derived.Test.YtmmphmdmocfnpaaB1
namespace Go.Proofs.Ytmmphmdmocfnpaa
open Go.ChangeShapes Go.WideShapes Go.ChangeAt Go.RowKit
theorem under69 : Try.prog.underlying 69 = some (.slice 75) := by kernel_rfl
theorem under71 : Try.prog.underlying 71 = some (.struct (Try.prog.fieldsOf 71)) := by kernel_rfl
theorem under73 : Try.prog.underlying 73 = some (.struct (Try.prog.fieldsOf 73)) := by kernel_rfl
theorem underPk : Try.prog.underlying 75 = some (.struct (Try.prog.fieldsOf 75)) := by kernel_rfl
theorem cells69 : Try.prog.cellsOf 69 = 1 := by kernel_rfl
theorem cells71 : Try.prog.cellsOf 71 = 3 := by kernel_rfl
theorem cells73 : Try.prog.cellsOf 73 = 3 := by kernel_rfl
theorem cells75 : Try.prog.cellsOf 75 = 4 := by kernel_rfl
theorem bytes75 : Try.prog.bytesOf 75 = 32 := by kernel_rfl
theorem lit_i64 {n : Int} (h : (Lit.int .i64 n).wf = true) : -9223372036854775808 ≤ n ∧ n ≤ 9223372036854775807 := by
  simp only [Lit.wf, IntKind.min, IntKind.max, IntKind.signed, IntKind.bits, Bool.and_eq_true] at h
  obtain ⟨h1, h2⟩ := h
  simp at h1 h2
  omega
theorem pickA {α : Type} [Inhabited α] {Q : Nat → α → Prop} (n : Nat) (h : ∀ k, k < n → ∃ x, Q k x) : ∃ f : Nat → α, ∀ k, k < n → Q k (f k) :=
  ⟨fun k => if hk : k < n then (h k hk).choose else default, fun k hk => by simp only [hk, dif_pos]; exact (h k hk).choose_spec⟩
set_option maxRecDepth 100000 in
theorem open_poke {H : Type} {enc : TypeId × Value → H} {W : World} {b0 fuel : Nat} {sp : Nat → Bool} {held : Bool} {cs : List Value} {y : DataW H × List MemPlace}
    (h : DataW.trod enc Try.prog W b0 sp held fuel 75 cs = some y) : ∃ x : Bool × Int × Int × Int, cs = [.bool x.1, .int .i64 x.2.1, .int .i64 x.2.2.1, .int .u32 x.2.2.2] ∧ (0 ≤ x.2.2.2 ∧ x.2.2.2 < 4294967296) := by
  obtain ⟨xs, m, rfl, hy, hlen, hn, hel⟩ := DataW.trod_struct underPk h
  rw [cells75] at hlen
  have hsz : xs.length = 4 := hn
  match xs, hsz with
  | [x0, x1, x2, x3], _ =>
    have e0 : DataW.trod enc Try.prog W b0 sp held m 4 ((cs.drop 0).take (Try.prog.cellsOf 4)) = some x0 := hel 0 _ rfl
    have e1 : DataW.trod enc Try.prog W b0 sp held m 3 ((cs.drop 1).take (Try.prog.cellsOf 3)) = some x1 := hel 1 _ rfl
    have e2 : DataW.trod enc Try.prog W b0 sp held m 3 ((cs.drop 2).take (Try.prog.cellsOf 3)) = some x2 := hel 2 _ rfl
    have e3 : DataW.trod enc Try.prog W b0 sp held m 22 ((cs.drop 3).take (Try.prog.cellsOf 22)) = some x3 := hel 3 _ rfl
    rw [cells3] at e1 e2
    rw [cells4] at e0
    rw [cells22] at e3
    obtain ⟨q0, g0, _⟩ := DataW.trod_bool under4 (show _ = some x0 from e0)
    obtain ⟨q1, g1, _, _⟩ := DataW.trod_int under3 (show _ = some x1 from e1)
    obtain ⟨q2, g2, _, _⟩ := DataW.trod_int under3 (show _ = some x2 from e2)
    obtain ⟨q3, g3, _, k3⟩ := DataW.trod_int under22 (show _ = some x3 from e3)
    refine ⟨(q0, q1, q2, q3), ?_, lit_u32 k3⟩
    match cs, hlen with
    | [c0, c1, c2, c3], _ =>
      simp at g0 g1 g2 g3
      rw [g0, g1, g2, g3]
set_option maxRecDepth 100000 in
theorem open_ask {H : Type} {enc : TypeId × Value → H} {W : World} {b0 fuel : Nat} {sp : Nat → Bool} {held : Bool} {cs : List Value} {y : DataW H × List MemPlace}
    (h : DataW.trod enc Try.prog W b0 sp held fuel 73 cs = some y) : ∃ x : Int × Int × Int, cs = [.int .i64 x.1, .int .u32 x.2.1, .int .i64 x.2.2] ∧ (0 ≤ x.2.1 ∧ x.2.1 < 4294967296) := by
  obtain ⟨xs, m, rfl, hy, hlen, hn, hel⟩ := DataW.trod_struct under73 h
  rw [cells73] at hlen
  have hsz : xs.length = 3 := hn
  match xs, hsz with
  | [x0, x1, x2], _ =>
    have e0 : DataW.trod enc Try.prog W b0 sp held m 3 ((cs.drop 0).take (Try.prog.cellsOf 3)) = some x0 := hel 0 _ rfl
    have e1 : DataW.trod enc Try.prog W b0 sp held m 22 ((cs.drop 1).take (Try.prog.cellsOf 22)) = some x1 := hel 1 _ rfl
    have e2 : DataW.trod enc Try.prog W b0 sp held m 3 ((cs.drop 2).take (Try.prog.cellsOf 3)) = some x2 := hel 2 _ rfl
    rw [cells3] at e0 e2
    rw [cells22] at e1
    obtain ⟨q0, g0, _, _⟩ := DataW.trod_int under3 (show _ = some x0 from e0)
    obtain ⟨q1, g1, _, k1⟩ := DataW.trod_int under22 (show _ = some x1 from e1)
    obtain ⟨q2, g2, _, _⟩ := DataW.trod_int under3 (show _ = some x2 from e2)
    refine ⟨(q0, q1, q2), ?_, lit_u32 k1⟩
    match cs, hlen with
    | [c0, c1, c2], _ =>
      simp at g0 g1 g2
      rw [g0, g1, g2]
theorem open_pokes {H : Type} {enc : TypeId × Value → H} {W : World} {fuel : Nat} {held : Bool} {cs0 : List Value} {y0 : DataW H × List MemPlace}
    (hf : DataW.trod enc Try.prog W 0 (fun _ => true) held fuel 69 cs0 = some y0) :
    ∃ (ao : Option Addr) (n cp b off : Nat) (k : Pk), cs0 = [.slice ao n cp] ∧ PkAt W ao n b off k ∧ (n = 0 ∨ ∃ elems spare, y0.1 = .slice elems spare ∧ elems.length = n) := by
  obtain ⟨ao, n, cp, b, off, hcs, _, hao, hk, hd⟩ := open_slice under69 cells75 (by decide) hf
  obtain ⟨F, hF⟩ := pickA (α := Bool × Int × Int × Int) (Q := fun k x => W.rangeAt b (off + k * 4) [.bool x.1, .int .i64 x.2.1, .int .i64 x.2.2.1, .int .u32 x.2.2.2] ∧ (0 ≤ x.2.2.2 ∧ x.2.2.2 < 4294967296)) n fun k hkn => by
    obtain ⟨cs, m, y, h1, h2⟩ := hk k hkn
    obtain ⟨x, rfl, hx⟩ := open_poke h2
    exact ⟨x, h1, hx⟩
  refine ⟨ao, n, cp, b, off, ⟨fun k => (F k).1, fun k => (F k).2.1, fun k => (F k).2.2.1, fun k => (F k).2.2.2⟩, hcs, ⟨hao, fun j hj => ?_, fun j hj => (hF j hj).2⟩, hd⟩
  have h := (hF j hj).1
  exact ⟨h 0 _ rfl, h 1 _ rfl, h 2 _ rfl, h 3 _ rfl⟩
set_option maxRecDepth 100000 in
theorem open_world {H : Type} {enc : TypeId × Value → H} {W : World} {base : Nat} {v : Value} {d : DataW H} {p : List MemPlace}
    (hv : Value.okWide Try.prog W .any base 71 v) (h : DataW.Trod enc Try.prog W 0 (fun _ => true) true 71 v d p) (hb : ∀ z ∈ d.weights Try.prog 71, z ≤ reachBytes) :
    ∃ (a b : Int) (ao : Option Addr) (n cp bk off : Nat) (k : Pk), v = .agg #[.int .i64 a, .int .i64 b, .slice ao n cp] ∧ PkAt W ao n bk off k ∧ (n : Int) ≤ 140737488355328 ∧ (-9223372036854775808 ≤ a ∧ a ≤ 9223372036854775807) ∧ (-9223372036854775808 ≤ b ∧ b ≤ 9223372036854775807) := by
  obtain ⟨cs, rfl, hsz, _⟩ : ∃ cs, v = .agg cs ∧ cs.size = Try.prog.cellsOf 71 ∧ Row.okWide Try.prog W .any base 71 cs := by
    simpa [Value.okWide, under71] using hv
  obtain ⟨fuel, hf⟩ := h
  obtain ⟨xs, m, rfl, hy, hlen, hn, hel⟩ := DataW.trod_struct under71 hf
  rw [cells71] at hlen
  have hs3 : xs.length = 3 := hn
  match xs, hs3 with
  | [x0, x1, x2], _ =>
    have e0 : DataW.trod enc Try.prog W 0 (fun _ => true) true m 3 (((Value.agg cs).cells.toList.drop 0).take (Try.prog.cellsOf 3)) = some x0 := hel 0 _ rfl
    have e1 : DataW.trod enc Try.prog W 0 (fun _ => true) true m 3 (((Value.agg cs).cells.toList.drop 1).take (Try.prog.cellsOf 3)) = some x1 := hel 1 _ rfl
    have e2 : DataW.trod enc Try.prog W 0 (fun _ => true) true m 69 (((Value.agg cs).cells.toList.drop 2).take (Try.prog.cellsOf 69)) = some x2 := hel 2 _ rfl
    rw [cells3] at e0 e1
    rw [cells69] at e2
    obtain ⟨q0, g0, _, k0⟩ := DataW.trod_int under3 (show _ = some x0 from e0)
    obtain ⟨q1, g1, _, k1⟩ := DataW.trod_int under3 (show _ = some x1 from e1)
    obtain ⟨ao, n, cp, bk, off, k, g2, hk, hd⟩ := open_pokes e2
    refine ⟨q0, q1, ao, n, cp, bk, off, k, ?_, hk, ?_, lit_i64 k0, lit_i64 k1⟩
    · have hcs : (Value.agg cs).cells = cs := by simp [Value.cells]
      rw [hcs] at g0 g1 g2 hlen
      obtain ⟨l⟩ := cs
      simp only at g0 g1 g2 hlen
      match l, hlen with
      | [c0, c1, c2], _ =>
        simp at g0 g1 g2
        rw [g0, g1, g2]
    · rcases hd with h0 | ⟨elems, spare, he, hl⟩
      · omega
      · have hz := hb ((elems.length + spare.length) * Try.prog.bytesOf 75) (by
          have hyd : d = _ := congrArg Prod.fst hy
          rw [hyd]
          simp only [DataW.weights, under71, List.map_cons, List.map_nil]
          rw [show (Try.prog.fieldsOf 71).toList.map (·.type) = [3, 3, 69] by kernel_rfl]
          simp only [DataW.weightsEach, he, DataW.weights, under69]
          simp)
        rw [bytes75] at hz
        simp only [reachBytes] at hz
        omega
set_option maxRecDepth 100000 in
theorem open_sa {H : Type} {enc : TypeId × Value → H} {W : World} {base b0 : Nat} {held : Bool} {v : Value} {d : DataW H} {p : List MemPlace}
    (hv : Value.okWide Try.prog W .any base 73 v) (h : DataW.Trod enc Try.prog W b0 (fun _ => true) held 73 v d p) : ∃ l va a : Int, v = .agg #[.int .i64 l, .int .u32 va, .int .i64 a] ∧ (0 ≤ va ∧ va < 4294967296) := by
  obtain ⟨cs, rfl, hsz, _⟩ : ∃ cs, v = .agg cs ∧ cs.size = Try.prog.cellsOf 73 ∧ Row.okWide Try.prog W .any base 73 cs := by
    simpa [Value.okWide, under73] using hv
  obtain ⟨fuel, hf⟩ := h
  obtain ⟨x, hc, h1⟩ := open_ask hf
  refine ⟨x.1, x.2.1, x.2.2, ?_, h1⟩
  have hcs : (Value.agg cs).cells = cs := by simp [Value.cells]
  rw [hcs] at hc
  rw [← Array.toArray_toList (xs := cs), hc]
set_option maxRecDepth 100000 in
theorem open_sp {H : Type} {enc : TypeId × Value → H} {W : World} {base b0 : Nat} {held : Bool} {v : Value} {d : DataW H} {p : List MemPlace}
    (hv : Value.okWide Try.prog W .any base 75 v) (h : DataW.Trod enc Try.prog W b0 (fun _ => true) held 75 v d p) : ∃ (s : Bool) (pp po pv : Int), v = .agg #[.bool s, .int .i64 pp, .int .i64 po, .int .u32 pv] ∧ (0 ≤ pv ∧ pv < 4294967296) := by
  obtain ⟨cs, rfl, hsz, _⟩ : ∃ cs, v = .agg cs ∧ cs.size = Try.prog.cellsOf 75 ∧ Row.okWide Try.prog W .any base 75 cs := by
    simpa [Value.okWide, underPk] using hv
  obtain ⟨fuel, hf⟩ := h
  obtain ⟨x, hc, h1⟩ := open_poke hf
  refine ⟨x.1, x.2.1, x.2.2.1, x.2.2.2, ?_, h1⟩
  have hcs : (Value.agg cs).cells = cs := by simp [Value.cells]
  rw [hcs] at hc
  rw [← Array.toArray_toList (xs := cs), hc]
end Go.Proofs.Ytmmphmdmocfnpaa
