/- Package word: Same; package mac: Same. -/
import Derived.Test.YtialckmoigcdeaaDoorMKey
import Derived.Laws.BitsAllLaws
namespace Go.Proofs.YtialckmoigcdeaaDoor
open Go.RowKit

theorem ret_bool_int {k : IntKind} {a b : Bool} {n : Int} (h : a = b) : Ending.returned (.tuple #[.bool a, .int k n]) = .returned (.tuple #[.bool b, .int k n]) := by rw [h]
theorem or_xor_zero (p x y : Int) (p0 : 0 ≤ p) (p1 : p < 4294967296) (x0 : 0 ≤ x) (x1 : x < 4294967296) (y0 : 0 ≤ y) (y1 : y < 4294967296) :
    0 ≤ bits .or .u32 p (bits .xor .u32 x y) ∧ bits .or .u32 p (bits .xor .u32 x y) < 4294967296 ∧ (bits .or .u32 p (bits .xor .u32 x y) = 0 ↔ p = 0 ∧ x = y) := by
  obtain ⟨p, rfl⟩ := Int.eq_ofNat_of_zero_le p0
  obtain ⟨x, rfl⟩ := Int.eq_ofNat_of_zero_le x0
  obtain ⟨y, rfl⟩ := Int.eq_ofNat_of_zero_le y0
  have hx : x ^^^ y < 4294967296 := Nat.xor_lt_two_pow (n := 32) (by omega) (by omega)
  have ho : p ||| (x ^^^ y) < 4294967296 := Nat.or_lt_two_pow (n := 32) (by omega) (by omega)
  rw [u32_xor_nat _ _ (by omega) (by omega), u32_or_nat _ _ (by omega) hx]
  refine ⟨by omega, by omega, ?_⟩
  rw [show ((p ||| (x ^^^ y) : Nat) : Int) = 0 ↔ p ||| (x ^^^ y) = 0 by omega, Nat.or_eq_zero_iff]
  have e : x ^^^ y = 0 ↔ x = y := by
    constructor
    · intro h
      have h2 : x ^^^ y ^^^ y = 0 ^^^ y := by rw [h]
      rwa [Nat.xor_assoc, Nat.xor_self, Nat.xor_zero, Nat.zero_xor] at h2
    · rintro rfl; exact Nat.xor_self _
  rw [e]
  omega

theorem take_same (xs ys : List Int) (n k : Nat) (hx : xs.length = n) (hy : ys.length = n) (hk : k < n) : xs.take (k + 1) = ys.take (k + 1) ↔ xs.take k = ys.take k ∧ xs.getD k 0 = ys.getD k 0 := by
  rw [List.take_succ_eq_append_getElem (by omega), List.take_succ_eq_append_getElem (by omega)]
  have e1 : xs.getD k 0 = xs[k] := by simp [List.getD_eq_getElem?_getD, show k < xs.length by omega]
  have e2 : ys.getD k 0 = ys[k] := by simp [List.getD_eq_getElem?_getD, show k < ys.length by omega]
  rw [e1, e2]
  constructor
  · intro h
    obtain ⟨a, b⟩ := List.append_inj' h rfl
    exact ⟨a, by simpa using b⟩
  · rintro ⟨a, b⟩
    rw [a, b]

theorem same_like (W : World) (b1 o1 b2 o2 : Nat) (n c1 c2 : Nat) (xs ys : List Int) (hx : xs.length = n) (hy : ys.length = n) (wx : Wds xs) (wy : Wds ys) (h1 : Row W .u32 b1 o1 xs) (h2 : Row W .u32 b2 o2 ys) (hn : n ≤ 140737488351232) :
    Calls Tryd.prog 52 #[.slice (some ⟨b1, o1, none⟩) n c1, .slice (some ⟨b2, o2, none⟩) n c2] W fun e W' => e = .returned (.tuple #[.bool (decide (xs = ys)), .int .i64 n]) ∧ ∃ k, W' = W.drewN k := by
  go_enter Tryd.func52, Tryd.ntmps52
  go_wp2
  go_loopw [5, 6, 15] (fun l p i wr => ∃ k : Nat, k ≤ n ∧ i = .int .i64 k ∧ l = .int .i64 k ∧ (∃ q : Int, p = .int .u32 q ∧ 0 ≤ q ∧ q < 4294967296 ∧ (q = 0 ↔ xs.take k = ys.take k)) ∧ ∃ d, wr = W.drewN d) (fun _ _ i _ => n - (intOf i).toNat)
  case atStart => exact ⟨0, Nat.zero_le _, rfl, rfl, ⟨0, rfl, by decide, by decide, by simp⟩, 0, rfl⟩
  case round =>
    obtain ⟨k, hk, rfl, rfl, ⟨q, rfl, q0, q1, hq⟩, d, rfl⟩ := hrel
    have HQ : Hid (q = 0 ↔ xs.take k = ys.take k) := hq
    clear hq
    by_cases hlt : k < n
    · have g1 := h1 k (by omega)
      have g2 := h2 k (by omega)
      have HX := or_xor_zero q _ _ q0 q1 (wx k).1 (wx k).2 (wy k).1 (wy k).2
      have HT := take_same xs ys n k hx hy hlt
      generalize xs.getD k 0 = x at *
      generalize ys.getD k 0 = y at *
      have HH : Hid (0 ≤ bits .or .u32 q (bits .xor .u32 x y) ∧ bits .or .u32 q (bits .xor .u32 x y) < 4294967296 ∧ (bits .or .u32 q (bits .xor .u32 x y) = 0 ↔ xs.take (k + 1) = ys.take (k + 1))) := by
        refine ⟨HX.1, HX.2.1, ?_⟩
        rw [HX.2.2, HT, HQ.out]
      clear HX HT HQ
      go_wp2
      go_quiet (fail)
      go_wp2
      go_roundw
      case rel => exact ⟨k + 1, by omega, by go_num, by go_num, ⟨_, rfl, HH.out.1, HH.out.2.1, HH.out.2.2⟩, _, rfl⟩
      case measure => simp [intOf]; omega
    · obtain rfl : k = n := by omega
      have HQ' : Hid (∀ x : Bool, x = (q == 0) → x = decide (xs = ys)) := by
        intro x hx'
        have := HQ.out
        rw [List.take_of_length_le (by omega), List.take_of_length_le (by omega)] at this
        rw [hx', Bool.eq_iff_iff, beq_iff_eq, this, decide_eq_true_eq]
      clear HQ
      go_wp2
      go_ret2
      exact ⟨ret_bool_int (HQ'.out _ rfl), _, rfl⟩

attribute [-simp] Tryd.isAgg26 Tryd.sizeOf26 Tryd.zeroValue26
set_option maxRecDepth 20000 in
theorem macSame_any (W : World) (xs ys : List Int) (hx : xs.length = 8) (hy : ys.length = 8) (wx : Wds xs) (wy : Wds ys) :
    Calls Tryd.prog 40 #[.agg (xs.map (Value.int .u32)).toArray, .agg (ys.map (Value.int .u32)).toArray] W fun e W' => e = .returned (.tuple #[.bool (decide (xs = ys)), .int .i64 8]) ∧ Below W.heap.size W W' := by
  have B1 : Blk ((W.alloc (Obj.cells (List.map (Value.int IntKind.u32) xs).toArray 26)).alloc (Obj.cells (List.map (Value.int IntKind.u32) ys).toArray 26)) W.heap.size .u32 26 xs := (Blk.new W .u32 26 xs).alloc _
  have B2 : Blk ((W.alloc (Obj.cells (List.map (Value.int IntKind.u32) xs).toArray 26)).alloc (Obj.cells (List.map (Value.int IntKind.u32) ys).toArray 26)) (W.heap.size + 1) .u32 26 ys := Blk.newAt (by simp) .u32 26 ys
  have HB : Below W.heap.size W ((W.alloc (Obj.cells (List.map (Value.int IntKind.u32) xs).toArray 26)).alloc (Obj.cells (List.map (Value.int IntKind.u32) ys).toArray 26)) := (below_one W _).alloc (by simp) _
  go_enter Tryd.func40, Tryd.ntmps40
  go_wp2_with fail
  generalize ((W.alloc (Obj.cells (List.map (Value.int IntKind.u32) xs).toArray 26)).alloc (Obj.cells (List.map (Value.int IntKind.u32) ys).toArray 26)) = X at *
  have SM : Hid (∀ n, Calls Tryd.prog 52 #[.slice (some ⟨W.heap.size, 0, none⟩) 8 8, .slice (some ⟨W.heap.size + 1, 0, none⟩) 8 8] (X.drewN n) fun e W' => e = .returned (.tuple #[.bool (decide (xs = ys)), .int .i64 8]) ∧ ∃ m, W' = X.drewN m) := by
    intro n
    refine (same_like _ _ _ _ _ 8 8 8 xs ys hx hy wx wy (B1.row.drewN n) (B2.row.drewN n) (by decide)).mono ?_
    rintro e w ⟨rfl, k, rfl⟩
    exact ⟨rfl, _, World.drewN_drewN _ _ _⟩
  clear B1 B2 wx wy hx hy
  obtain ⟨r, hr⟩ : ∃ r, decide (xs = ys) = r := ⟨_, rfl⟩
  have HR : Hid (decide (xs = ys) = r) := hr
  rw [hr] at SM
  clear hr
  go_quiet (first | (go_at_call 52; exact SM.out _))
  go_wp2
  go_ret2
  exact ⟨by rw [HR.out]; rfl, below_drewN HB _⟩

end Go.Proofs.YtialckmoigcdeaaDoor
