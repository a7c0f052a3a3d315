import Derived.Test.YtlfnpllojinjdaaDoorBackMath
import Derived.Test.YtlfnpllojinjdaaDoorSumsPre
namespace Go.Proofs.YtlfnpllojinjdaaDoor
open Go.RowKit

/-- A slice's numbers: none, or they lie in a row that was there. -/
def At (W : World) (k : IntKind) (ao : Option Addr) (xs : List Int) : Prop := xs = [] ∨ ∃ b off, ao = some ⟨b, off, none⟩ ∧ b < W.heap.size ∧ Row W k b off xs
theorem At.below {W w : World} {k : IntKind} {ao : Option Addr} {xs : List Int} (h : At W k ao xs) (hb : Below W.heap.size W w) : At w k ao xs := by
  rcases h with h | ⟨b, off, h1, h2, h3⟩
  · exact .inl h
  · exact .inr ⟨b, off, h1, by have := hb.size; omega, h3.below hb h2⟩
theorem At.drewN {W : World} {k : IntKind} {ao : Option Addr} {xs : List Int} (h : At W k ao xs) (d : Nat) : At (W.drewN d) k ao xs := h.below (below_drewN (Below.refl _ _) d)

theorem lawSame_yes (W : World) (ao bo : Option Addr) (n c1 c2 : Nat) (xs : List Int) (hx : xs.length = n) (h1 : At W .u32 ao xs) (h2 : At W .u32 bo xs) (hn : n ≤ 140737488351232) :
    Calls Tryd.prog 18 #[.slice ao n c1, .slice bo n c2] W fun e W' => e = .returned (.bool true) ∧ ∃ k, W' = W.drewN k := by
  rcases h1 with rfl | ⟨b1, o1, rfl, g1, h1⟩
  · simp at hx
    subst hx
    go_enter Tryd.func18, Tryd.ntmps18
    go_wp2
    refine wp_loop_rounds 1 ?_
    rw [rounds_succ]
    go_wp2
    go_ret
    exact ⟨rfl, 0, rfl⟩
  · rcases h2 with rfl | ⟨b2, o2, rfl, g2, h2⟩
    · simp at hx
      subst hx
      go_enter Tryd.func18, Tryd.ntmps18
      go_wp2
      refine wp_loop_rounds 1 ?_
      rw [rounds_succ]
      go_wp2
      go_ret
      exact ⟨rfl, 0, rfl⟩
    · go_enter Tryd.func18, Tryd.ntmps18
      go_wp2
      go_loopw [5] (fun i wr => ∃ k : Nat, k ≤ n ∧ i = .int .i64 k ∧ ∃ d, wr = W.drewN d) (fun i _ => n - (intOf i).toNat)
      case atStart => exact ⟨0, Nat.zero_le _, rfl, 0, rfl⟩
      case round =>
        obtain ⟨k, hk, rfl, d, rfl⟩ := hrel
        by_cases hlt : k < n
        · have e1 := h1 k (by omega)
          have e2 := h2 k (by omega)
          generalize xs.getD k 0 = x at *
          go_wp2
          go_quiet (fail)
          go_wp2
          go_roundw
          case rel => exact ⟨k + 1, by omega, by go_num, _, rfl⟩
          case measure => simp [intOf]; omega
        · go_wp2
          go_ret
          exact ⟨rfl, _, rfl⟩

theorem hexAll_at (W : World) (hT : Tab W) (ao : Option Addr) (n cap : Nat) (xs : List Int) (hx : xs.length = n) (wx : Wds xs) (h1 : At W .u32 ao xs) (hn : 4 * n ≤ 140737488351232) (h0 : 0 < W.heap.size) :
    Calls Tryd.prog 15 #[.slice ao n cap] W fun e W' => e = .returned (.string (strOfNums (hexD xs))) ∧ Below W.heap.size W W' := by
  rcases h1 with rfl | ⟨b, off, rfl, hb, h1⟩
  · simp at hx
    subst hx
    exact hexAll_nil W ao cap
  · exact hexAll_any W hT b off n cap xs hx wx h1 hn hb h0
theorem bytes_at (W : World) (hT : Tab W) (ao : Option Addr) (n cap : Nat) (xs : List Int) (hx : xs.length = n) (wx : Wds xs) (h1 : At W .u32 ao xs) (hn : 4 * n ≤ 140737488351232) (h0 : 0 < W.heap.size) :
    Calls Tryd.prog 14 #[.slice ao n cap] W fun e W' => e = .returned (.slice (some ⟨W.heap.size, 0, none⟩) (4 * n) (4 * n)) ∧ Owned W W' .u8 5 (4 * n) (bytesD xs) := by
  rcases h1 with rfl | ⟨b, off, rfl, hb, h1⟩
  · simp at hx
    subst hx
    exact (bytes_nil W ao cap).mono fun e w' h => ⟨h.1, h.2.owned⟩
  · exact (bytes_any W hT b off n cap xs hx wx h1 hn hb h0).mono fun e w' h => ⟨h.1, h.2.owned⟩

end Go.Proofs.YtlfnpllojinjdaaDoor
