/- alike 27: two lists of the same. -/
import Derived.Test.YtmmphmdmocfnpaaB3
import Derived.Test.YtmmphmdmocfnpaaIt6
namespace Go.Proofs.Ytmmphmdmocfnpaa
open Go.RowKit
set_option maxHeartbeats 8000000
set_option maxRecDepth 100000
/-- A list of mappings in a row. -/
def RowAt (W : World) (ao : Option Addr) (A : List (Int × Mp)) : Prop :=
  ∀ k x, A[k]? = some x → ∃ g, ao = some ⟨g, 0, none⟩ ∧ g < W.heap.size ∧ W.cell? ⟨g, k * 5, none⟩ = some (.int .u32 x.1) ∧ W.cell? ⟨g, k * 5 + 1, none⟩ = some (.bool x.2.s) ∧ W.cell? ⟨g, k * 5 + 2, none⟩ = some (.int .i64 x.2.p) ∧ W.cell? ⟨g, k * 5 + 3, none⟩ = some (.bool x.2.wr) ∧ W.cell? ⟨g, k * 5 + 4, none⟩ = some (.bool x.2.ex)
theorem RowAt.on {W w : World} {ao : Option Addr} {A : List (Int × Mp)} (h : RowAt W ao A) (hb : Below W.heap.size W w) : RowAt w ao A := fun k x hk => by
  obtain ⟨g, h1, h2, c0, c1, c2, c3, c4⟩ := h k x hk
  exact ⟨g, h1, Nat.lt_of_lt_of_le h2 hb.size, (hb.cell (p := ⟨g, k * 5, none⟩) h2).trans c0, (hb.cell (p := ⟨g, k * 5 + 1, none⟩) h2).trans c1, (hb.cell (p := ⟨g, k * 5 + 2, none⟩) h2).trans c2, (hb.cell (p := ⟨g, k * 5 + 3, none⟩) h2).trans c3, (hb.cell (p := ⟨g, k * 5 + 4, none⟩) h2).trans c4⟩
theorem flat_at : ∀ (A : List (Int × Mp)) (k : Nat) (x : Int × Mp) (i : Nat), A[k]? = some x → i < 5 → (flat A)[k * 5 + i]? = (atC x)[i]?
  | [], k, x, i, h, _ => by simp at h
  | y :: A, 0, x, i, h, hi => by
    simp only [List.getElem?_cons_zero, Option.some.injEq] at h
    subst h
    rw [flat, List.flatMap_cons, List.getElem?_append_left (by simp [atC]; omega)]
    simp
  | y :: A, k + 1, x, i, h, hi => by
    simp only [List.getElem?_cons_succ] at h
    rw [flat, List.flatMap_cons, List.getElem?_append_right (by simp [atC]; omega)]
    have e : (k + 1) * 5 + i - (atC y).length = k * 5 + i := by simp [atC]; omega
    rw [e]
    exact flat_at A k x i h hi
theorem RowAt.of {W : World} {base : Nat} {v : Value} {A : List (Int × Mp)} (h : W.ownsRow base 67 5 v A.length (flat A)) : ∃ ao c, v = .slice ao A.length c ∧ RowAt W ao A := by
  rcases h.2 with ⟨rfl, hn⟩ | ⟨g, cap, cur, rfl, _, hg, h1, _, h2, h3⟩
  · refine ⟨none, 0, by rw [hn], fun k x hk => ?_⟩
    have := (List.getElem?_eq_some_iff.1 hk).1
    omega
  · refine ⟨_, cap, rfl, fun k x hk => ⟨g, rfl, (Array.getElem?_eq_some_iff.1 hg).1, ?_⟩⟩
    have hkl := (List.getElem?_eq_some_iff.1 hk).1
    have hc : ∀ i u, i < 5 → (atC x)[i]? = some u → W.cell? ⟨g, k * 5 + i, none⟩ = some u := fun i u hi hu => by
      rw [cell_of_row W g _ _ 67 (0, 0) hg]
      have e := flat_at A k x i hk hi
      rw [hu, ← h3, List.getElem?_take_of_lt (by omega)] at e
      simpa using e
    exact ⟨hc 0 _ (by decide) rfl, hc 1 _ (by decide) rfl, hc 2 _ (by decide) rfl, hc 3 _ (by decide) rfl, hc 4 _ (by decide) rfl⟩
theorem alike_any (W : World) (A : List (Int × Mp)) (ao bo : Option Addr) (c d : Nat) (ha : RowAt W ao A) (hb : RowAt W bo A) (hn : (A.length : Int) ≤ 4611686018427387904) :
    Calls Try.prog 27 #[.slice ao A.length c, .slice bo A.length d] W fun e W' => e = .returned (.bool true) ∧ Below W.heap.size W W' := by
  have HA := hid ha
  have HB := hid hb
  clear ha hb
  obtain ⟨n, hnn⟩ : ∃ n, A.length = n := ⟨_, rfl⟩
  have HN := hid hnn
  rw [hnn] at hn ⊢
  clear hnn
  go_enter Try.func27, Try.ntmps27
  go_wp2_with fail
  go_loopw [5] (fun i wr => ∃ k : Nat, k ≤ n ∧ i = .int .i64 (k : Int) ∧ Hid (Below W.heap.size W wr)) (fun i _ => n - (intOf i).toNat)
  case atStart => exact ⟨0, Nat.zero_le _, rfl, hid (Below.refl _ _)⟩
  case round =>
    obtain ⟨k, hk, rfl, HQ⟩ := hrel
    by_cases hlt : k < n
    · have q1 : (k : Int) < (n : Int) := by omega
      obtain ⟨x, hx⟩ : ∃ x, A[k]? = some x := ⟨A[k]'(by rw [HN.out]; exact hlt), List.getElem?_eq_getElem _⟩
      obtain ⟨g, rfl, _, a0, a1, a2, a3, a4⟩ := HA.out.on HQ.out k x hx
      obtain ⟨g', rfl, _, b0, b1, b2, b3, b4⟩ := HB.out.on HQ.out k x hx
      go_wp2_with fail
      go_quiet (first | fail)
      go_wp2_with fail
      go_roundw
      case rel => exact ⟨k + 1, by omega, by simp, hid (below_drewN HQ.out _)⟩
      case measure => simp [intOf] <;> omega
    · have q1 : ¬ (k : Int) < (n : Int) := by omega
      go_wp2_with fail
      go_returns
      exact ⟨rfl, HQ.out⟩
end Go.Proofs.Ytmmphmdmocfnpaa
