/- entry's TypeName 6, StateName 7, the document's 16, 17. -/
import Derived.Test.YtpijfaffbnojnaaDoorEg
namespace Go.Proofs.YtpijfaffbnojnaaDoor
open Go.RowKit
set_option maxHeartbeats 8000000
set_option maxRecDepth 100000
def tyT : List (List UInt8) := [[102, 114, 101, 101], [115, 112, 97, 99, 101], [116, 104, 114, 101, 97, 100], [102, 105, 114, 115, 116], [115, 101, 99, 111, 110, 100], [100, 97, 116, 97], [115, 112, 97, 114, 101]]
def stT : List (List UInt8) := [[110, 111, 110, 101], [105, 110, 105, 116], [102, 105, 110, 97, 108], [115, 116, 111, 112, 112, 101, 100]]
def tyS (n : Nat) : ByteArray := ⟨(tyT.getD n []).toArray⟩
def stS (n : Nat) : ByteArray := ⟨(stT.getD n []).toArray⟩
def tyN (n : Int) : ByteArray := if 0 ≤ n ∧ n < 7 then tyS n.toNat else ⟨#[]⟩
def stN (n : Int) : ByteArray := if 0 ≤ n ∧ n < 4 then stS n.toNat else ⟨#[]⟩
/-- The tables lie where their initialisers laid them. -/
structure Nt (W : World) : Prop where
  t : ∀ n : Nat, n < 7 → W.cell? ⟨0, n, none⟩ = some (.string (tyS n))
  s : ∀ n : Nat, n < 4 → W.cell? ⟨1, n, none⟩ = some (.string (stS n))
  z : 1 < W.heap.size
structure Nr (W : World) : Prop where
  t : ∀ n : Nat, n < 7 → W.cell? ⟨2, n, none⟩ = some (.string (tyS n))
  s : ∀ n : Nat, n < 4 → W.cell? ⟨3, n, none⟩ = some (.string (stS n))
  z : 3 < W.heap.size
theorem Nt.on {W w : World} (h : Nt W) (hb : Below W.heap.size W w) : Nt w := ⟨fun n hn => (hb.cell (p := ⟨0, n, none⟩) (by show 0 < W.heap.size; have := h.z; omega)).trans (h.t n hn), fun n hn => (hb.cell (p := ⟨1, n, none⟩) (by show 1 < W.heap.size; exact h.z)).trans (h.s n hn), by have := hb.size; have := h.z; omega⟩
theorem Nr.on {W w : World} (h : Nr W) (hb : Below W.heap.size W w) : Nr w := ⟨fun n hn => (hb.cell (p := ⟨2, n, none⟩) (by show 2 < W.heap.size; have := h.z; omega)).trans (h.t n hn), fun n hn => (hb.cell (p := ⟨3, n, none⟩) (by show 3 < W.heap.size; exact h.z)).trans (h.s n hn), by have := hb.size; have := h.z; omega⟩
theorem tyname_any (W : World) (h : Nt W) (n : Int) : Calls Tryd.prog 6 #[.int .i64 n] W fun e W' => e = .returned (.string (tyN n)) ∧ W = W' := by
  unfold tyN
  by_cases h0 : 0 ≤ n
  · by_cases h1 : n < 7
    · rw [if_pos ⟨h0, h1⟩]
      have hc := h.t n.toNat (by omega)
      generalize tyS n.toNat = S at *
      go_enter Tryd.func6, Tryd.ntmps6
      go_wp2_with fail
      go_ret
      exact ⟨rfl, rfl⟩
    · rw [if_neg (by omega)]
      go_enter Tryd.func6, Tryd.ntmps6
      go_wp2_with fail
      go_ret
      exact ⟨rfl, rfl⟩
  · rw [if_neg (by omega)]
    go_enter Tryd.func6, Tryd.ntmps6
    go_wp2_with fail
    go_ret
    exact ⟨rfl, rfl⟩
theorem stname_any (W : World) (h : Nt W) (n : Int) : Calls Tryd.prog 7 #[.int .i64 n] W fun e W' => e = .returned (.string (stN n)) ∧ W = W' := by
  unfold stN
  by_cases h0 : 0 ≤ n
  · by_cases h1 : n < 4
    · rw [if_pos ⟨h0, h1⟩]
      have hc := h.s n.toNat (by omega)
      generalize stS n.toNat = S at *
      go_enter Tryd.func7, Tryd.ntmps7
      go_wp2_with fail
      go_ret
      exact ⟨rfl, rfl⟩
    · rw [if_neg (by omega)]
      go_enter Tryd.func7, Tryd.ntmps7
      go_wp2_with fail
      go_ret
      exact ⟨rfl, rfl⟩
  · rw [if_neg (by omega)]
    go_enter Tryd.func7, Tryd.ntmps7
    go_wp2_with fail
    go_ret
    exact ⟨rfl, rfl⟩
theorem rtyname_any (W : World) (h : Nr W) (n : Int) : Calls Tryd.prog 16 #[.int .i64 n] W fun e W' => e = .returned (.string (tyN n)) ∧ W = W' := by
  unfold tyN
  by_cases h0 : 0 ≤ n
  · by_cases h1 : n < 7
    · rw [if_pos ⟨h0, h1⟩]
      have hc := h.t n.toNat (by omega)
      generalize tyS n.toNat = S at *
      go_enter Tryd.func16, Tryd.ntmps16
      go_wp2_with fail
      go_ret
      exact ⟨rfl, rfl⟩
    · rw [if_neg (by omega)]
      go_enter Tryd.func16, Tryd.ntmps16
      go_wp2_with fail
      go_ret
      exact ⟨rfl, rfl⟩
  · rw [if_neg (by omega)]
    go_enter Tryd.func16, Tryd.ntmps16
    go_wp2_with fail
    go_ret
    exact ⟨rfl, rfl⟩
theorem rstname_any (W : World) (h : Nr W) (n : Int) : Calls Tryd.prog 17 #[.int .i64 n] W fun e W' => e = .returned (.string (stN n)) ∧ W = W' := by
  unfold stN
  by_cases h0 : 0 ≤ n
  · by_cases h1 : n < 4
    · rw [if_pos ⟨h0, h1⟩]
      have hc := h.s n.toNat (by omega)
      generalize stS n.toNat = S at *
      go_enter Tryd.func17, Tryd.ntmps17
      go_wp2_with fail
      go_ret
      exact ⟨rfl, rfl⟩
    · rw [if_neg (by omega)]
      go_enter Tryd.func17, Tryd.ntmps17
      go_wp2_with fail
      go_ret
      exact ⟨rfl, rfl⟩
  · rw [if_neg (by omega)]
    go_enter Tryd.func17, Tryd.ntmps17
    go_wp2_with fail
    go_ret
    exact ⟨rfl, rfl⟩
end Go.Proofs.YtpijfaffbnojnaaDoor
