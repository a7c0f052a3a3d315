import Derived.Test.YtncnogndopgknaaGreatDoorP41
import Derived.Test.YtncnogndopgknaaGreatDoorP49
namespace Go.Proofs.YtncnogndopgknaaGreatDoor
open Go.ChangeShapes Go.WideShapes Go.ChangeAt Go.RowKit
set_option maxRecDepth 20000 in
theorem open_words_c {H : Type} {enc : TypeId × Value → H} {W : World} {base b0 : Nat} {held : Bool} {v : Value} {d : DataW H} {p : List MemPlace}
    (hv : Value.okWide Tryz.prog W .any base 24 v) (h : DataW.Trod enc Tryz.prog W b0 (fun _ => true) held 24 v d p) :
    ∃ (ao : Option Addr) (n cap : Nat) (xs : List Nat), v = .slice ao n cap ∧ n ≤ cap ∧ xs.length = n ∧ (∀ x ∈ xs, x < 4294967296) ∧ AtW W ao xs ∧ (ao = none → n = 0 ∧ cap = 0) ∧ (n = 0 ∨ ∃ elems spare, d = .slice elems spare ∧ elems.length = n) := by
  obtain ⟨ao, n, cap, rfl⟩ := okWide_slice Tryz.underlying24 hv
  obtain ⟨fuel, hf⟩ := h
  rcases open_ints Tryz.underlying24 Tryz.underlying22 cellsU hf with ⟨hcs, hx⟩ | ⟨x, l, c, zs, hcs, hb, hl, hm, hz, hx, hcell, hwz⟩
  · simp [Value.cells] at hcs
    obtain ⟨rfl, rfl, rfl⟩ := hcs
    exact ⟨none, 0, 0, [], rfl, Nat.le_refl _, rfl, fun x hx => by simp at hx, .inl rfl, fun _ => ⟨rfl, rfl⟩, .inl rfl⟩
  · simp [Value.cells] at hcs
    obtain ⟨rfl, rfl, rfl⟩ := hcs
    have hz' : n ≤ zs.length := by split at hz <;> omega
    have hlen : (zs.take n).length = n := by simp; omega
    refine ⟨some x, n, cap, (zs.take n).map Int.toNat, rfl, by omega, by rw [List.length_map, hlen], fun y hy => by obtain ⟨z, hz1, rfl⟩ := List.mem_map.1 hy; have := bounds_u32 (hwz z (List.mem_of_mem_take hz1)); omega, ?_, fun h => (by cases h), ?_⟩
    · rcases Nat.eq_zero_or_pos n with rfl | hn
      · exact .inl (by simp)
      · obtain ⟨b, off, spot⟩ := x
        have h0 := hcell 0 (by omega)
        have hspot : spot = none := by simpa [Addr.add] using World.cell?_spot h0
        subst hspot
        refine .inr ⟨b, off, rfl, ?_, ?_⟩
        · rcases Nat.lt_or_ge b W.heap.size with h | h
          · exact h
          · simp [Addr.add, World.cell?, Array.getElem?_eq_none h] at h0
        · intro i hi
          rw [List.length_map, hlen] at hi
          have := hcell i (by omega)
          have e1 : (⟨b, off, none⟩ : Addr).add i = ⟨b, off + i, none⟩ := by unfold Addr.add; split <;> simp_all
          rw [e1] at this
          have hb2 := bounds_u32 (hwz zs[i] (List.getElem_mem (by omega)))
          rw [this, List.getElem_map, List.getElem_take, List.getD_eq_getElem?_getD, List.getElem?_eq_getElem (by omega), Option.getD_some]
          congr 2
          omega
    · right
      simp only [Prod.mk.injEq] at hx
      exact ⟨_, _, hx.1, by simp [lits]; omega⟩
theorem AtW.take {W : World} {ao : Option Addr} {l : List Nat} (h : AtW W ao l) (n : Nat) : AtW W ao (l.take n) := by
  rcases h with rfl | ⟨b, o, rfl, hb, hc⟩
  · exact .inl (by simp)
  · refine .inr ⟨b, o, rfl, hb, fun i hi => ?_⟩
    rw [List.getElem_take]
    exact hc i (by simp at hi; omega)
theorem sel_of (m : Nat) : ∃ n, (m ≤ 2048 ∧ n = m ∨ 2048 < m ∧ n = 2048) ∧ n ≤ m := by
  by_cases h : m ≤ 2048
  · exact ⟨m, .inl ⟨h, rfl⟩, Nat.le_refl _⟩
  · exact ⟨2048, .inr ⟨by omega, rfl⟩, by omega⟩
end Go.Proofs.YtncnogndopgknaaGreatDoor
