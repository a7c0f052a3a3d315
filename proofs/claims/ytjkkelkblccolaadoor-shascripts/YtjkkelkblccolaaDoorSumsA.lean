import Derived.Test.YtjkkelkblccolaaDoorLent
import Derived.Test.YtjkkelkblccolaaDoorRSum
import Derived.Deep.DeepCutAuto
import Derived.Laws.BytesArg
namespace Go.Proofs.YtjkkelkblccolaaDoor
open Go.RowKit

theorem xor1_word (x : Int) (h0 : 0 ≤ x) (h1 : x < 4294967296) : 0 ≤ bits .xor .u32 x 1 ∧ bits .xor .u32 x 1 < 4294967296 := by
  rw [u32_xor x 1 h0 h1 (by decide) (by decide)]
  have : x.toNat ^^^ (1 : Int).toNat < 2 ^ 32 := Nat.xor_lt_two_pow (by omega) (by decide)
  omega
theorem xor1_byte (x : Int) (h0 : 0 ≤ x) (h1 : x < 256) : 0 ≤ bits .xor .u8 x 1 ∧ bits .xor .u8 x 1 < 256 := by
  rw [u8_xor x 1 h0 h1 (by decide) (by decide)]
  have : x.toNat ^^^ (1 : Int).toNat < 2 ^ 8 := Nat.xor_lt_two_pow (by omega) (by decide)
  omega
theorem bts_set {xs : List Int} (h : Bts xs) (i : Nat) (u : Int) (h0 : 0 ≤ u) (h1 : u < 256) : Bts (xs.set i u) := fun j => by
  have := h j
  simp only [List.getD_eq_getElem?_getD, List.getElem?_set] at this ⊢
  split
  · split
    · exact ⟨h0, h1⟩
    · simp
  · exact this
theorem wds_set' {xs : List Int} (h : Wds xs) (i : Nat) (u : Int) (h0 : 0 ≤ u) (h1 : u < 4294967296) : Wds (xs.set i u) := fun j => by
  have := h j
  simp only [List.getD_eq_getElem?_getD, List.getElem?_set] at this ⊢
  split
  · split
    · exact ⟨h0, h1⟩
    · simp
  · exact this
/-- Words by the program, and by the document. -/
theorem words14 (W w : World) (hT : Tab W) (h2 : 2 < W.heap.size) (hw : Below W.heap.size W w) (ao : Option Addr) (n c : Nat) (xs : List Int) (hx : xs.length = n) (wx : Wds xs) (hat : At w .u32 ao xs) (hn : 4 * n ≤ 140737488351232) :
    Calls Tryd.prog 14 #[.slice ao n c] w fun e w' => e = .returned (.agg ((sumB (bytesD xs)).map (Value.int .u32)).toArray) ∧ Below w.heap.size w w' := by
  have := hw.size
  have := sum_any w (hT.below hw h2) (by omega) ao n c xs hx hat (by omega)
  rw [← sumW_eq xs wx]
  rw [← hx] at this ⊢
  exact this
theorem words30 (W w : World) (hT : TabR W) (h2 : 2 < W.heap.size) (hw : Below W.heap.size W w) (ao : Option Addr) (n c : Nat) (xs : List Int) (hx : xs.length = n) (hat : At w .u32 ao xs) (hn : 4 * n ≤ 140737488351232) :
    Calls Tryd.prog 30 #[.slice ao n c] w fun e w' => e = .returned (.agg ((sumB (bytesD xs)).map (Value.int .u32)).toArray) ∧ Below w.heap.size w w' := by
  have := hw.size
  have := rsum_any w (hT.below hw (by omega)) (by omega) ao n c xs hx hat hn
  rw [rsumB_eq _ (by rw [bytesD_length]; omega)] at this
  exact this
theorem bytes11 (W w : World) (hT : Tab W) (h2 : 2 < W.heap.size) (hw : Below W.heap.size W w) (ao : Option Addr) (n c : Nat) (bs : List Int) (hx : bs.length = n) (hb : Bts bs) (hat : At w .u8 ao bs) (hc : n ≤ c) (hn : n ≤ 140737488351232) :
    Calls Tryd.prog 11 #[.slice ao n c] w fun e w' => e = .returned (.agg ((sumB bs).map (Value.int .u32)).toArray) ∧ Below w.heap.size w w' := by
  have := hw.size
  have := sumBytes_any w (hT.below hw h2) (by omega) ao n c bs hx hb hat hc hn
  rw [← hx] at this ⊢
  exact this
theorem bytes31 (W w : World) (hT : TabR W) (h2 : 2 < W.heap.size) (hw : Below W.heap.size W w) (ao : Option Addr) (n c : Nat) (bs : List Int) (hx : bs.length = n) (hb : Bts bs) (hat : At w .u8 ao bs) (hc : n ≤ c) (hn : n ≤ 140737488351232) :
    Calls Tryd.prog 31 #[.slice ao n c] w fun e w' => e = .returned (.agg ((sumB bs).map (Value.int .u32)).toArray) ∧ Below w.heap.size w w' := by
  have := hw.size
  have := rsumBytes_any w (hT.below hw (by omega)) (by omega) ao n c bs hx hb hat hc hn
  rw [rsumB_eq _ (by omega)] at this
  exact this
theorem sumB_len (bs : List Int) : (sumB bs).length = 8 := run_length _ _ (run_length _ _ rfl _) _
end Go.Proofs.YtjkkelkblccolaaDoor
