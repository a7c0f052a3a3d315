/- A list of asks that came in, opened. -/
import Derived.Test.YtmmphmdmocfnpaaLwW
import Derived.Test.YtmmphmdmocfnpaaG3
namespace Go.Proofs.Ytmmphmdmocfnpaa
open Go.ChangeShapes Go.WideShapes Go.ChangeAt Go.RowKit
theorem underAsks : Try.prog.underlying 95 = some (.slice 73) := by kernel_rfl
set_option maxRecDepth 100000 in
theorem open_asks {H : Type} {enc : TypeId × Value → H} {W : World} {base : Nat} {held : Bool} {v : Value} {d : DataW H} {p : List MemPlace}
    (hv : Value.okWide Try.prog W .any base 95 v) (h : DataW.Trod enc Try.prog W 0 (fun _ => true) held 95 v d p) :
    ∃ (ao : Option Addr) (n cp b off : Nat) (Q : Nat → Int × Int × Int), v = .slice ao n cp ∧ AsksAt W ao n b off Q := by
  obtain ⟨ao, n, cp, rfl⟩ := okWide_slice underAsks hv
  obtain ⟨fuel, hf⟩ := h
  obtain ⟨ao', n', cp', b, off, hcs, _, hao, hk, hd⟩ := open_slice underAsks cells73 (by decide) hf
  simp only [Value.cells, List.cons.injEq, Value.slice.injEq, and_true] at hcs
  obtain ⟨rfl, rfl, rfl⟩ := hcs
  obtain ⟨F, hF⟩ := pickA (α := Int × Int × Int) (Q := fun k x => W.rangeAt b (off + k * 3) [.int .i64 x.1, .int .u32 x.2.1, .int .i64 x.2.2] ∧ (0 ≤ x.2.1 ∧ x.2.1 < 4294967296)) n fun k hkn => by
    obtain ⟨cs, m, y, h1, h2⟩ := hk k hkn
    obtain ⟨x, rfl, hx⟩ := open_ask h2
    exact ⟨x, h1, hx⟩
  exact ⟨ao, n, cp, b, off, F, rfl, ⟨hao, fun j hj => ⟨(hF j hj).1 0 _ rfl, (hF j hj).1 1 _ rfl, (hF j hj).1 2 _ rfl⟩, fun j hj => (hF j hj).2⟩⟩
end Go.Proofs.Ytmmphmdmocfnpaa
