import Derived.Test.YtbpdmkohihgnjaaDoorP10
import Derived.Laws.Cover3
namespace Go.Proofs.YtbpdmkohihgnjaaDoor
open Go.RowKit

namespace S
def run (A xs : List Int) : Nat → List Int
  | 0 => A
  | m + 1 => block (run A xs m) ((xs.drop (16 * m)).take 16)
end S
theorem ret_cell2 {P : Program} {fn : Func} {p q : Tmp} {ty e t : TypeId} {n : Nat} {a : Act} {w : World} {post : Ending → World → Prop} (hr : fn.results = #[.cell p ty, .tmp q]) (hd : a.defers = []) (g : Nat) (L : List Int)
    (hp : a.tmps.getD p undef = .pointer (some ⟨g, 0, none⟩)) (hb : Blk w g .u32 e L) (hu : P.underlying ty = some (.array n t)) (hi : (P.info? ty).map (·.size) = some L.length) (h : post (.returned (.tuple #[Ag L, a.tmps.getD q undef])) w) :
    bodyPost P fn post .ret a w := by
  refine bodyPost_ret (v := .tuple #[Ag L, a.tmps.getD q undef]) ?_ hd h
  have hp' : a.tmps[p]?.getD undef = .pointer (some ⟨g, 0, none⟩) := by simpa using hp
  have := run_loadVar_row (P := P) w g e ty _ (0, 0) _ hb hu rfl (by rw [hi]; simp)
  simp [results, hr, hp', asAddr, this, Ag]

def AtB (W : World) (k : IntKind) (bb lo : Nat) (ao : Option Addr) (xs : List Int) : Prop := xs = [] ∨ ∃ off, ao = some ⟨bb, off, none⟩ ∧ lo ≤ off ∧ bb < W.heap.size ∧ Row W k bb off xs
theorem AtB.at {W : World} {k : IntKind} {bb lo : Nat} {ao : Option Addr} {xs : List Int} (h : AtB W k bb lo ao xs) : At W k ao xs := by
  rcases h with h | ⟨off, h1, _, h2, h3⟩
  · exact .inl h
  · exact .inr ⟨bb, off, h1, h2, h3⟩
theorem At.atb {W : World} {k : IntKind} {ao : Option Addr} {xs : List Int} (h : At W k ao xs) : ∃ bb, AtB W k bb 0 ao xs := by
  rcases h with h | ⟨b, off, h1, h2, h3⟩
  · exact ⟨0, .inl h⟩
  · exact ⟨b, .inr ⟨off, h1, Nat.zero_le _, h2, h3⟩⟩
theorem AtB.below {W w : World} {k : IntKind} {bb lo : Nat} {ao : Option Addr} {xs : List Int} (h : AtB W k bb lo ao xs) (hb : Below W.heap.size W w) : AtB w k bb lo ao xs := by
  rcases h with h | ⟨off, h1, hlo, h2, h3⟩
  · exact .inl h
  · exact .inr ⟨off, h1, hlo, by have := hb.size; omega, h3.below hb h2⟩
theorem AtB.but {W w : World} {g : Nat} {k : IntKind} {bb lo : Nat} {ao : Option Addr} {xs : List Int} (h : AtB W k bb lo ao xs) (hb : But g W w) (hg : bb ≠ g) : AtB w k bb lo ao xs := by
  rcases h with h | ⟨off, h1, hlo, h2, h3⟩
  · exact .inl h
  · exact .inr ⟨off, h1, hlo, by have := hb.size; omega, hb.row h3 h2 hg⟩
attribute [-simp] Tryd.isAgg23 Tryd.sizeOf23 Tryd.zeroValue23 Tryd.isAgg77 Tryd.sizeOf77
end Go.Proofs.YtbpdmkohihgnjaaDoor
