import Derived.Test.YtlfnpllojinjdaaDoorHead
namespace Go.Proofs.YtlfnpllojinjdaaDoor
open Go.RowKit

theorem bcell {W w1 : World} (hb : Below W.heap.size W w1) : (∀ b o, b < W.heap.size → w1.cell? ⟨b, o, none⟩ = W.cell? ⟨b, o, none⟩) ∧ (∀ b o, b < W.heap.size → w1.frozen? ⟨b, o, none⟩ = W.frozen? ⟨b, o, none⟩) :=
  ⟨fun b o h => hb.cell (p := ⟨b, o, none⟩) h, fun b o h => hb.frozen (p := ⟨b, o, none⟩) h⟩

theorem overlap_yes (W : World) (a n b m : Int) (ha0 : 0 ≤ a) (ha : a < 4294967296) (hb0 : 0 ≤ b) (hb : b < 4294967296) (hn0 : 0 ≤ n) (hn : n < 4294967296) (hm0 : 0 ≤ m) (hm : m < 4294967296)
    (h : a < a + n ∧ a < b + m ∧ b < a + n ∧ b < b + m) :
    Calls Tryd.prog 12 #[.int .u32 a, .int .u32 n, .int .u32 b, .int .u32 m] W fun e W' => e = .returned (.bool true) ∧ W = W' := by
  refine (overlap_any W a n b m ha0 ha hb0 hb hn0 hn hm0 hm).mono ?_
  rintro e w' ⟨rfl, rfl⟩
  exact ⟨ret_bool (decide_eq_true h), rfl⟩
theorem overlap_no (W : World) (a n b m : Int) (ha0 : 0 ≤ a) (ha : a < 4294967296) (hb0 : 0 ≤ b) (hb : b < 4294967296) (hn0 : 0 ≤ n) (hn : n < 4294967296) (hm0 : 0 ≤ m) (hm : m < 4294967296)
    (h : ¬ (a < a + n ∧ a < b + m ∧ b < a + n ∧ b < b + m)) :
    Calls Tryd.prog 12 #[.int .u32 a, .int .u32 n, .int .u32 b, .int .u32 m] W fun e W' => e = .returned (.bool false) ∧ W = W' := by
  refine (overlap_any W a n b m ha0 ha hb0 hb hn0 hn hm0 hm).mono ?_
  rintro e w' ⟨rfl, rfl⟩
  exact ⟨ret_bool (decide_eq_false h), rfl⟩
theorem wds_four {a b c d : Int} (ha : 0 ≤ a ∧ a < 4294967296) (hb : 0 ≤ b ∧ b < 4294967296) (hc : 0 ≤ c ∧ c < 4294967296) (hd : 0 ≤ d ∧ d < 4294967296) : Wds [a, b, c, d] := by
  intro i
  match i with
  | 0 => exact ha
  | 1 => exact hb
  | 2 => exact hc
  | 3 => exact hd
  | i + 4 => simp
theorem two_rows (w : World) (k : IntKind) (e : TypeId) (xs ys : List Int) (C D : Array Value) (hC : C = (xs.map (Value.int k)).toArray) (hD : D = (ys.map (Value.int k)).toArray) :
    Row ((w.alloc (.cells C e)).alloc (.cells D e)) k w.heap.size 0 xs ∧ Row ((w.alloc (.cells C e)).alloc (.cells D e)) k (w.heap.size + 1) 0 ys := by
  refine ⟨(row_new w k e xs C hC).alloc (by simp) _, ?_⟩
  have := row_new (w.alloc (.cells C e)) k e ys D hD
  rwa [World.size_alloc] at this
theorem below_two (w : World) (C D : Obj) : Below w.heap.size w ((w.alloc C).alloc D) := ((Below.refl w.heap.size w).alloc (Nat.le_refl _) C).alloc (by simp) D
theorem below_after_two {w w2 : World} {C D : Obj} (h : Below ((w.alloc C).alloc D).heap.size ((w.alloc C).alloc D) w2) : Below w.heap.size w w2 := (below_two w C D).trans (h.mono (by simp; omega))
theorem same_like' (W : World) (b1 o1 b2 o2 : Nat) (n c1 c2 : Nat) (xs ys : List Int) (hx : xs.length = n) (hy : ys.length = n) (wx : Wds xs) (wy : Wds ys) (h1 : Row W .u32 b1 o1 xs) (h2 : Row W .u32 b2 o2 ys) (hn : n ≤ 140737488351232) :
    Calls Tryd.prog 13 #[.slice (some ⟨b1, o1, none⟩) n c1, .slice (some ⟨b2, o2, none⟩) n c2] W fun e W' => e = .returned (.tuple #[.bool (decide (xs = ys)), .int .i64 n]) ∧ Below W.heap.size W W' := by
  refine (same_like W b1 o1 b2 o2 n c1 c2 xs ys hx hy wx wy h1 h2 hn).mono ?_
  rintro e w' ⟨rfl, k, rfl⟩
  exact ⟨rfl, below_drewN (Below.refl _ _) k⟩
theorem div_none (W : World) (a b : Int) (ha0 : 0 ≤ a) (ha : a < 4294967296) (hb0 : 0 ≤ b) (hb : b ≤ 0) : Calls Tryd.prog 10 #[.int .u32 a, .int .u32 b] W fun e W' => e = .returned (.int .u32 4294967295) ∧ W = W' := by
  have := div_any W a b ha0 ha (by omega) (by omega)
  rwa [if_pos (by omega)] at this
theorem div_pos (W : World) (a b : Int) (ha0 : 0 ≤ a) (ha : a < 4294967296) (hb0 : 0 < b) (hb : b < 4294967296) : Calls Tryd.prog 10 #[.int .u32 a, .int .u32 b] W fun e W' => e = .returned (.int .u32 (a / b)) ∧ W = W' := by
  have := div_any W a b ha0 ha (by omega) hb
  rwa [if_neg (by omega)] at this

end Go.Proofs.YtlfnpllojinjdaaDoor
