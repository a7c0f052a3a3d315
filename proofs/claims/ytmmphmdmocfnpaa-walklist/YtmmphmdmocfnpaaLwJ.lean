/- A list of numbers that came in, opened. -/
import Derived.Test.YtmmphmdmocfnpaaLwW
import Derived.Test.YtmmphmdmocfnpaaLwM
import Derived.Test.YtmmphmdmocfnpaaWo
namespace Go.Proofs.Ytmmphmdmocfnpaa
open Go.ChangeShapes Go.WideShapes Go.ChangeAt Go.RowKit
theorem underInts : Try.prog.underlying 87 = some (.slice 3) := by kernel_rfl
set_option maxRecDepth 100000 in
theorem open_ints {H : Type} {enc : TypeId × Value → H} {W : World} {base : Nat} {held : Bool} {v : Value} {d : DataW H} {p : List MemPlace}
    (hv : Value.okWide Try.prog W .any base 87 v) (h : DataW.Trod enc Try.prog W 0 (fun _ => true) held 87 v d p) :
    ∃ (ao : Option Addr) (n cp b off : Nat) (F : Nat → Int), v = .slice ao n cp ∧ IntsAt W ao n b off F ∧ (n = 0 ∨ ∃ elems spare, d = .slice elems spare ∧ elems.length = n) := by
  obtain ⟨ao, n, cp, rfl⟩ := okWide_slice underInts hv
  obtain ⟨fuel, hf⟩ := h
  obtain ⟨ao', n', cp', b, off, hcs, _, hao, hk, hd⟩ := open_slice underInts cells3 (by decide) hf
  simp only [Value.cells, List.cons.injEq, Value.slice.injEq, and_true] at hcs
  obtain ⟨rfl, rfl, rfl⟩ := hcs
  obtain ⟨F, hF⟩ := pickA (α := Int) (Q := fun k x => W.cell? ⟨b, off + k, none⟩ = some (.int .i64 x) ∧ (-9223372036854775808 ≤ x ∧ x ≤ 9223372036854775807)) n fun k hkn => by
    obtain ⟨cs, m, y, h1, h2⟩ := hk k hkn
    obtain ⟨q, g, _, hq⟩ := DataW.trod_int under3 h2
    refine ⟨q, ?_, lit_i64 hq⟩
    subst g
    have := h1 0 _ rfl
    rw [Nat.mul_one] at this
    exact this
  exact ⟨ao, n, cp, b, off, F, rfl, ⟨hao, fun j hj => (hF j hj).1, fun j hj => (hF j hj).2⟩, hd⟩
end Go.Proofs.Ytmmphmdmocfnpaa
