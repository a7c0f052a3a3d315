/- within 25, built 24. -/
import Derived.Test.YtgbpbfnpeeciaaaW7
import Derived.Test.YtgbpbfnpeeciaaaM5M6
namespace Go.Proofs.Ytgbpbfnpeeciaaa
open Go.RowKit
set_option maxHeartbeats 8000000
set_option maxRecDepth 100000
/-- Pokes that came in. -/
theorem wd_set (L : List Int) (i j : Nat) (v : Int) : wd (L.set i v) j = if i = j ∧ j < L.length then v else wd L j := by
  unfold wd
  simp only [List.getD_eq_getElem?_getD, List.getElem?_set]
  split
  · rename_i h
    subst h
    by_cases hl : i < L.length
    · simp [hl]
    · simp [hl]
  · rename_i h
    simp [h]
theorem MS.write_p (m : MS) (s : Bool) (p o v : Int) (k j : Nat) : wd ((m.write s p o v).p k) j = v ∨ wd ((m.write s p o v).p k) j = wd (m.p k) j := by
  unfold MS.write
  split
  · exact .inr rfl
  · rename_i q hq
    split
    · simp only [MS.p, List.getD_eq_getElem?_getD, List.getElem?_set]
      split
      · split
        · rename_i h1 h2
          subst h1
          simp only [Option.getD_some]
          rw [wd_set]
          split
          · exact .inl rfl
          · exact .inr rfl
        · rename_i h1 h2
          refine .inr ?_
          subst h1
          rw [List.getElem?_eq_none (by omega)]
      · exact .inr rfl
    · exact .inr rfl
theorem MS.U.write {m : MS} (h : m.U) (s : Bool) (p o v : Int) (h0 : 0 ≤ v) (h1 : v < 4294967296) : (m.write s p o v).U := fun k j => by
  rcases m.write_p s p o v k j with e | e <;> rw [e]
  · exact ⟨h0, h1⟩
  · exact h k j
theorem MS.U.new (s n : Nat) : (MS.new s n).U := fun k j => by
  unfold MS.new MS.p
  simp only [List.getD_eq_getElem?_getD, List.getElem?_replicate]
  have hz : wd zs j = 0 := by unfold wd zs; rw [List.getD_eq_getElem?_getD, List.getElem?_replicate]; split <;> rfl
  split
  · simp only [Option.getD_some]; rw [hz]; decide
  · simp [wd]
theorem w64b {x : Int} (h : -9223372036854775808 ≤ x) (h2 : x ≤ 9223372036854775807) : wrap64 x = x := by
  unfold wrap64
  omega
theorem MS.write_c (m : MS) (s : Bool) (p o v : Int) (n : Nat) (h : 0 ≤ m.c ∧ m.c ≤ (n : Int)) (hn : n < 9223372036854775807) : 0 ≤ (m.write s p o v).c ∧ (m.write s p o v).c ≤ ((n + 1 : Nat) : Int) := by
  unfold MS.write
  split
  · omega
  · split
    · simp only [MS.tick]
      rw [w64b (by omega) (by omega)]
      omega
    · omega
theorem NewMem.write {W w w' : World} {f : Fp} {m m' : MS} (h : NewMem W w f m) (hm : Mem w' f m') (hb : ButL f.w w w') : NewMem W w' f m' :=
  ⟨hm, h.below.trans (hb.below (fun k hk => h.new k (by simp only [Fp.w, Fp.all, List.mem_cons] at hk ⊢; rcases hk with hk | hk <;> simp [hk])) h.below.size), h.new⟩
theorem NewMem.on {W w w' : World} {f : Fp} {m : MS} (h : NewMem W w f m) (hb : Below w.heap.size w w') : NewMem W w' f m := ⟨h.mem.on hb, below_on h.below hb, h.new⟩
end Go.Proofs.Ytgbpbfnpeeciaaa
