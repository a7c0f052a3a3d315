/- A builder of the call's own, in plain words. -/
import Derived.Test.YtncnogndopgknaaDoorTn6
namespace Go.Proofs.YtncnogndopgknaaDoor
open Go.RowKit

/-- The builder in block b holds these bytes; what was there at V is as it was. -/
structure BL (V w : World) (b : Nat) (l : List UInt8) : Prop where
  bld : Lib.IsBuilderF 37 5 V.heap.size b (Lib.byteCells l) w
  below : Below V.heap.size V w
theorem builderAtF_on {B b : Nat} {p : Value} {bs : List Value} {w w' : World} (h : Lib.BuilderAtF 37 5 B b p bs w) (hb : Below w.heap.size w w') : Lib.BuilderAtF 37 5 B b p bs w' := by
  obtain ⟨hB, v, hbk, hown, hne⟩ := h
  refine ⟨hB, v, by rw [hb.block b (Array.getElem?_eq_some_iff.1 hbk).1]; exact hbk, ⟨hown.1, ?_⟩, hne⟩
  exact hown.2.imp id fun ⟨g, cap, cur, fz, hv, hbg, hg, r⟩ => ⟨g, cap, cur, fz, hv, hbg, by rw [hb.block g (Array.getElem?_eq_some_iff.1 hg).1]; exact hg, r⟩
theorem BL.on {V w w' : World} {b : Nat} {l : List UInt8} (h : BL V w b l) (hb : Below w.heap.size w w') : BL V w' b l :=
  ⟨h.bld.imp (fun x => builderAtF_on x hb) (fun x => builderAtF_on x hb), h.below.trans (hb.mono h.below.size)⟩
theorem BL.drew {V w : World} {b : Nat} {l : List UInt8} (h : BL V w b l) : BL V w.drew b l := h.on ((Below.refl _ _).drew)
theorem BL.fresh (w : World) : BL w (w.alloc (.cells #[.pointer none, .slice none 0 0] 37)) w.heap.size [] :=
  ⟨(Lib.fresh_isBuilder 37 5 w).imp (fun x => Lib.BuilderAtF.of x) (fun x => Lib.BuilderAtF.of x), (Below.refl _ w).alloc (Nat.le_refl _) _⟩
theorem write_any (V w : World) (b : Nat) (l s : List UInt8) (h : BL V w b l) (hlen : l.length + s.length ≤ 140737488355328) :
    Calls Tryd.prog 10 #[.pointer (some ⟨b, 0, none⟩), .string ⟨s.toArray⟩] w fun e w' => e = .returned (.tuple #[.int .i64 (s.length : Int), .nilIface]) ∧ BL V w' b (l ++ s) := by
  refine (Tryd.Builder_WriteString_k V.heap.size b _ ⟨s.toArray⟩ w h.bld (by rw [Lib.byteCells_length, sz]; exact hlen) h.below.size).mono ?_
  rintro e w' ⟨rfl, h1, h2, _⟩
  rw [sz]
  refine ⟨rfl, .inr ?_, h.below.trans h2⟩
  rw [Lib.byteCells_append]
  exact h1
theorem string_any (V w : World) (b : Nat) (l : List UInt8) (h : BL V w b l) :
    Calls Tryd.prog 13 #[.pointer (some ⟨b, 0, none⟩)] w fun e w' => e = .returned (.string ⟨l.toArray⟩) ∧ Below V.heap.size V w' := by
  refine (Tryd.Builder_String_any_k V.heap.size b l w h.bld h.below.size).mono ?_
  rintro e w' ⟨rfl, _, h2, _⟩
  exact ⟨rfl, h.below.trans h2⟩
end Go.Proofs.YtncnogndopgknaaDoor
