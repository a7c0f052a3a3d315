import Derived.Laws.BitsAllLaws
import Derived.WalkKit
import Derived.Test.YtbpdmkohihgnjaaGreatDoorChecked
import Derived.WalkSpells
import Derived.WalkLawsBesides
import Derived.Deep.QuietTactic
import Derived.BigQuiet
import Derived.Handy
import Derived.BigRegion
import Derived.Lib.Strings
namespace Go.Proofs.YtbpdmkohihgnjaaGreatDoor.V.M
open Go.RowKit

theorem two_pos (n : Nat) : (0 : Int) < 2 ^ n := Int.pow_pos (by decide)
theorem two_nat (n : Nat) : ((2 ^ n : Nat) : Int) = 2 ^ n := by push_cast; rfl
theorem two_le {a b : Nat} (h : a ≤ b) : (2 : Int) ^ a ≤ 2 ^ b := by
  have := Nat.pow_le_pow_right (n := 2) (by decide) h
  have h1 := two_nat a; have h2 := two_nat b
  omega
theorem two_32 : (2 : Int) ^ 32 = 4294967296 := by decide
theorem two_add (a b : Nat) : (2 : Int) ^ (a + b) = 2 ^ a * 2 ^ b := Int.pow_add 2 a b
theorem and_low (x : Int) (n : Nat) (h0 : 0 ≤ x) (h1 : x < 4294967296) (hn : n ≤ 32) : bits .and .u32 x (2 ^ n - 1) = x % 2 ^ n := by
  have hp := two_pos n
  have hq := two_le hn
  have h32 := two_32
  rw [u32_and x _ h0 h1 (by omega) (by omega)]
  obtain ⟨a, rfl⟩ := Int.eq_ofNat_of_zero_le h0
  have e : ((2 : Int) ^ n - 1).toNat = 2 ^ n - 1 := by have := two_nat n; omega
  rw [e, Int.toNat_natCast, Nat.and_two_pow_sub_one_eq_mod]
  push_cast; rfl

def Fld (w : Int) (lo n : Nat) : Int := w / 2 ^ lo % 2 ^ n
theorem fld_bounds (w : Int) (lo n : Nat) (hn : n ≤ 32) : 0 ≤ Fld w lo n ∧ Fld w lo n < 2 ^ n ∧ Fld w lo n < 4294967296 := by
  have hp := two_pos n
  have hq := two_le hn
  have h32 := two_32
  have a := Int.emod_nonneg (w / 2 ^ lo) (show (2 : Int) ^ n ≠ 0 by omega)
  have b := Int.emod_lt_of_pos (w / 2 ^ lo) hp
  unfold Fld; omega
theorem div_bounds (w : Int) (lo : Nat) (h0 : 0 ≤ w) (h1 : w < 4294967296) : 0 ≤ w / 2 ^ lo ∧ w / 2 ^ lo < 4294967296 := by
  have hp := two_pos lo
  refine ⟨Int.ediv_nonneg h0 (by omega), ?_⟩
  have := Int.ediv_le_self (2 ^ lo) h0
  omega
theorem cut_eq (w : Int) (lo n : Nat) (h0 : 0 ≤ w) (h1 : w < 4294967296) (hn : n ≤ 32) : bits .and .u32 (w / 2 ^ lo) (2 ^ n - 1) = Fld w lo n := by
  have := div_bounds w lo h0 h1
  exact and_low _ n this.1 this.2 hn

def SetF (w : Int) (lo n : Nat) (v : Int) : Int := w + (v % 2 ^ n - Fld w lo n) * 2 ^ lo

theorem parts (w A B : Int) (hA : 0 < A) (hB : 0 < B) (v : Int) : let x := w + (v % B - w / A % B) * A
    x % A = w % A ∧ x / A = w / A / B * B + v % B ∧ x / A % B = v % B ∧ x / A / B = w / A / B := by
  intro x
  have e1 := Int.emod_add_mul_ediv w A
  have e2 := Int.emod_add_mul_ediv (w / A) B
  have l0 := Int.emod_nonneg w (show A ≠ 0 by omega)
  have l1 := Int.emod_lt_of_pos w hA
  have v0 := Int.emod_nonneg v (show B ≠ 0 by omega)
  have v1 := Int.emod_lt_of_pos v hB
  have hx : x = w % A + A * (w / A / B * B + v % B) := by
    show w + (v % B - w / A % B) * A = _
    generalize w / A % B = m at *
    generalize w / A / B = h at *
    generalize v % B = u at *
    generalize w % A = l at *
    generalize hq : w / A = q at *
    subst e2
    rw [← e1]
    grind
  have x1 : x % A = w % A := by rw [hx, Int.add_mul_emod_self_left, Int.emod_emod]
  have x2 : x / A = w / A / B * B + v % B := by
    rw [hx, Int.add_mul_ediv_left _ _ (by omega), Int.ediv_eq_zero_of_lt l0 l1, Int.zero_add]
  refine ⟨x1, x2, ?_, ?_⟩
  · rw [x2, Int.add_comm, Int.add_mul_emod_self_right, Int.emod_emod]
  · rw [x2, Int.add_comm, Int.add_mul_ediv_right _ _ (by omega), Int.ediv_eq_zero_of_lt v0 v1, Int.zero_add]

theorem div_div (w : Int) (a b : Nat) : w / 2 ^ (a + b) = w / 2 ^ a / 2 ^ b := by
  rw [two_add, Int.ediv_ediv_of_nonneg (Int.le_of_lt (two_pos a))]
def Rot (w : Int) (k : Nat) : Int := w / 2 ^ k + w % 2 ^ k * 2 ^ (32 - k)
def Ext (w : Int) (n : Nat) : Int := if w % 2 ^ n < 2 ^ (n - 1) then w % 2 ^ n else w % 2 ^ n - 2 ^ n
end Go.Proofs.YtbpdmkohihgnjaaGreatDoor.V.M
namespace Go.Proofs.YtbpdmkohihgnjaaGreatDoor.V
open Go.RowKit

def Tab (W : World) : Prop := ∀ i : Nat, i ≤ 32 → W.cell? ⟨7, i, none⟩ = some (.int .u32 (2 ^ i - 1))
theorem Tab.drewN {W : World} (h : Tab W) (k : Nat) : Tab (W.drewN k) := fun i hi => (World.cell?_drewN W k _).trans (h i hi)
theorem Tab.below {W w : World} {B : Nat} (h : Tab W) (hb : Below B W w) (hB : 7 < B) : Tab w := fun i hi => (hb.cell (p := ⟨7, i, none⟩) hB).trans (h i hi)
theorem ret_int {k : IntKind} {a b : Int} (h : a = b) : Ending.returned (.int k a) = .returned (.int k b) := by rw [h]
theorem ret_bool {a b : Bool} (h : a = b) : Ending.returned (.bool a) = .returned (.bool b) := by rw [h]

theorem cut_any (W : World) (hT : Tab W) (w lo n : Int) (w0 : 0 ≤ w) (w1 : w < 4294967296) (l0 : 0 ≤ lo) (n0 : 0 ≤ n) (hn : n ≤ 32) (l1 : lo ≤ 31) :
    Calls Tryz.prog 83 #[.int .u32 w, .int .i64 lo, .int .i64 n] W fun e W' => e = .returned (.int .u32 (M.Fld w lo.toNat n.toNat)) ∧ ∃ k, W' = W.drewN k := by
  obtain ⟨l, rfl⟩ := Int.eq_ofNat_of_zero_le l0
  obtain ⟨m, rfl⟩ := Int.eq_ofNat_of_zero_le n0
  have h := hT m (by omega)
  have H : Hid (bits .and .u32 (w / 2 ^ l) (2 ^ m - 1) = M.Fld w l m) := M.cut_eq w l m w0 w1 (by omega)
  clear hT
  go_enter Tryz.func83, Tryz.ntmps83
  go_wp2
  go_quiet (fail)
  go_wp2
  go_ret
  exact ⟨ret_int (by rw [Int.toNat_natCast, Int.toNat_natCast]; exact H.out), _, rfl⟩

end Go.Proofs.YtbpdmkohihgnjaaGreatDoor.V
namespace Go.Proofs.YtbpdmkohihgnjaaGreatDoor.V
open Go.RowKit

theorem ret_bool_int {k : IntKind} {a b : Bool} {n : Int} (h : a = b) : Ending.returned (.tuple #[.bool a, .int k n]) = .returned (.tuple #[.bool b, .int k n]) := by rw [h]
theorem or_xor_zero (p x y : Int) (p0 : 0 ≤ p) (p1 : p < 4294967296) (x0 : 0 ≤ x) (x1 : x < 4294967296) (y0 : 0 ≤ y) (y1 : y < 4294967296) :
    0 ≤ bits .or .u32 p (bits .xor .u32 x y) ∧ bits .or .u32 p (bits .xor .u32 x y) < 4294967296 ∧ (bits .or .u32 p (bits .xor .u32 x y) = 0 ↔ p = 0 ∧ x = y) := by
  obtain ⟨p, rfl⟩ := Int.eq_ofNat_of_zero_le p0
  obtain ⟨x, rfl⟩ := Int.eq_ofNat_of_zero_le x0
  obtain ⟨y, rfl⟩ := Int.eq_ofNat_of_zero_le y0
  have hx : x ^^^ y < 4294967296 := Nat.xor_lt_two_pow (n := 32) (by omega) (by omega)
  have ho : p ||| (x ^^^ y) < 4294967296 := Nat.or_lt_two_pow (n := 32) (by omega) (by omega)
  rw [u32_xor_nat _ _ (by omega) (by omega), u32_or_nat _ _ (by omega) hx]
  refine ⟨by omega, by omega, ?_⟩
  rw [show ((p ||| (x ^^^ y) : Nat) : Int) = 0 ↔ p ||| (x ^^^ y) = 0 by omega, Nat.or_eq_zero_iff]
  have e : x ^^^ y = 0 ↔ x = y := by
    constructor
    · intro h
      have h2 : x ^^^ y ^^^ y = 0 ^^^ y := by rw [h]
      rwa [Nat.xor_assoc, Nat.xor_self, Nat.xor_zero, Nat.zero_xor] at h2
    · rintro rfl; exact Nat.xor_self _
  rw [e]
  omega

def Row (W : World) (k : IntKind) (b off : Nat) (xs : List Int) : Prop := ∀ i, i < xs.length → W.cell? ⟨b, off + i, none⟩ = some (.int k (xs.getD i 0))
def Wds (xs : List Int) : Prop := ∀ i, 0 ≤ xs.getD i 0 ∧ xs.getD i 0 < 4294967296
theorem Row.drewN {W : World} {k : IntKind} {b off : Nat} {xs : List Int} (h : Row W k b off xs) (d : Nat) : Row (W.drewN d) k b off xs := fun i hi => (World.cell?_drewN W d _).trans (h i hi)
theorem Row.below {W w : World} {B : Nat} {k : IntKind} {b off : Nat} {xs : List Int} (h : Row W k b off xs) (hb : Below B W w) (hB : b < B) : Row w k b off xs := fun i hi => (hb.cell (p := ⟨b, off + i, none⟩) hB).trans (h i hi)

theorem take_same (xs ys : List Int) (n k : Nat) (hx : xs.length = n) (hy : ys.length = n) (hk : k < n) : xs.take (k + 1) = ys.take (k + 1) ↔ xs.take k = ys.take k ∧ xs.getD k 0 = ys.getD k 0 := by
  rw [List.take_succ_eq_append_getElem (by omega), List.take_succ_eq_append_getElem (by omega)]
  have e1 : xs.getD k 0 = xs[k] := by simp [List.getD_eq_getElem?_getD, show k < xs.length by omega]
  have e2 : ys.getD k 0 = ys[k] := by simp [List.getD_eq_getElem?_getD, show k < ys.length by omega]
  rw [e1, e2]
  constructor
  · intro h
    obtain ⟨a, b⟩ := List.append_inj' h rfl
    exact ⟨a, by simpa using b⟩
  · rintro ⟨a, b⟩
    rw [a, b]

theorem same_like (W : World) (b1 o1 b2 o2 : Nat) (n c1 c2 : Nat) (xs ys : List Int) (hx : xs.length = n) (hy : ys.length = n) (wx : Wds xs) (wy : Wds ys) (h1 : Row W .u32 b1 o1 xs) (h2 : Row W .u32 b2 o2 ys) (hn : n ≤ 140737488351232) :
    Calls Tryz.prog 116 #[.slice (some ⟨b1, o1, none⟩) n c1, .slice (some ⟨b2, o2, none⟩) n c2] W fun e W' => e = .returned (.tuple #[.bool (decide (xs = ys)), .int .i64 n]) ∧ ∃ k, W' = W.drewN k := by
  go_enter Tryz.func116, Tryz.ntmps116
  go_wp2
  go_loopw [5, 6, 15] (fun l p i wr => ∃ k : Nat, k ≤ n ∧ i = .int .i64 k ∧ l = .int .i64 k ∧ (∃ q : Int, p = .int .u32 q ∧ 0 ≤ q ∧ q < 4294967296 ∧ (q = 0 ↔ xs.take k = ys.take k)) ∧ ∃ d, wr = W.drewN d) (fun _ _ i _ => n - (intOf i).toNat)
  case atStart => exact ⟨0, Nat.zero_le _, rfl, rfl, ⟨0, rfl, by decide, by decide, by simp⟩, 0, rfl⟩
  case round =>
    obtain ⟨k, hk, rfl, rfl, ⟨q, rfl, q0, q1, hq⟩, d, rfl⟩ := hrel
    have HQ : Hid (q = 0 ↔ xs.take k = ys.take k) := hq
    clear hq
    by_cases hlt : k < n
    · have g1 := h1 k (by omega)
      have g2 := h2 k (by omega)
      have HX := or_xor_zero q _ _ q0 q1 (wx k).1 (wx k).2 (wy k).1 (wy k).2
      have HT := take_same xs ys n k hx hy hlt
      generalize xs.getD k 0 = x at *
      generalize ys.getD k 0 = y at *
      have HH : Hid (0 ≤ bits .or .u32 q (bits .xor .u32 x y) ∧ bits .or .u32 q (bits .xor .u32 x y) < 4294967296 ∧ (bits .or .u32 q (bits .xor .u32 x y) = 0 ↔ xs.take (k + 1) = ys.take (k + 1))) := by
        refine ⟨HX.1, HX.2.1, ?_⟩
        rw [HX.2.2, HT, HQ.out]
      clear HX HT HQ
      go_wp2
      go_quiet (fail)
      go_wp2
      go_roundw
      case rel => exact ⟨k + 1, by omega, by go_num, by go_num, ⟨_, rfl, HH.out.1, HH.out.2.1, HH.out.2.2⟩, _, rfl⟩
      case measure => simp [intOf]; omega
    · obtain rfl : k = n := by omega
      have HQ' : Hid (∀ x : Bool, x = (q == 0) → x = decide (xs = ys)) := by
        intro x hx'
        have := HQ.out
        rw [List.take_of_length_le (by omega), List.take_of_length_le (by omega)] at this
        rw [hx', Bool.eq_iff_iff, beq_iff_eq, this, decide_eq_true_eq]
      clear HQ
      go_wp2
      go_ret2
      exact ⟨ret_bool_int (HQ'.out _ rfl), _, rfl⟩
end Go.Proofs.YtbpdmkohihgnjaaGreatDoor.V
namespace Go.Proofs.YtbpdmkohihgnjaaGreatDoor.V
set_option maxRecDepth 100000
open Go.RowKit

theorem Tryz.info5 : (Tryz.prog.info? 5).map (fun i => (i.zero, i.size, i.bytes)) = some (some (.int .u8 0), 1, 1) := by kernel_rfl
theorem Tryz.info25 : (Tryz.prog.info? 25).map (fun i => (i.zero, i.size, i.bytes)) = some (some (.int .u32 0), 1, 4) := by kernel_rfl

def fill (D : List Int) (t : Nat) : List Int := D.take t ++ List.replicate (D.length - t) 0
theorem fill_length (D : List Int) (t : Nat) (h : t ≤ D.length) : (fill D t).length = D.length := by simp [fill]; omega
theorem fill_zero (D : List Int) : fill D 0 = List.replicate D.length 0 := by simp [fill]
theorem fill_all (D : List Int) : fill D D.length = D := by simp [fill]
theorem fill_set (D : List Int) (t : Nat) (h : t < D.length) : (fill D t).set t (D.getD t 0) = fill D (t + 1) := by
  unfold fill
  rw [List.set_append_right _ _ (by simp; omega)]
  rw [List.take_succ_eq_append_getElem h, List.append_assoc]
  congr 1
  obtain ⟨m, hm⟩ : ∃ m, D.length - t = m + 1 := ⟨D.length - t - 1, by omega⟩
  rw [hm, List.replicate_succ, show t - (D.take t).length = 0 by simp; omega, List.set_cons_zero, show D.length - (t + 1) = m by omega]
  simp [List.getD_eq_getElem?_getD, h]

structure Filled (W wr : World) (k : IntKind) (e : TypeId) (N : Nat) (D : List Int) (t : Nat) : Prop where
  len : D.length = N
  le : t ≤ N
  own : wr.ownsRow W.heap.size e 1 (.slice (some ⟨W.heap.size, 0, none⟩) N N) N ((fill D t).map (Value.int k))
  below : Below W.heap.size W wr
theorem Filled.cell {W wr : World} {k : IntKind} {e : TypeId} {N : Nat} {D : List Int} {t : Nat} (h : Filled W wr k e N D t) (j : Nat) (hj : j < N) : wr.cell? ⟨W.heap.size, j, none⟩ = some (.int k ((fill D t).getD j 0)) := by
  rw [h.own.cellAt j (by omega)]
  have := fill_length D t (by rw [h.len]; exact h.le)
  have := h.len
  simp [List.getD_eq_getElem?_getD, show j < (fill D t).length by omega]
theorem Filled.free {W wr : World} {k : IntKind} {e : TypeId} {N : Nat} {D : List Int} {t : Nat} (h : Filled W wr k e N D t) (j : Nat) : wr.frozen? ⟨W.heap.size, j, none⟩ = false := h.own.frozenAt j
theorem Filled.drewN {W wr : World} {k : IntKind} {e : TypeId} {N : Nat} {D : List Int} {t : Nat} (h : Filled W wr k e N D t) (d : Nat) : Filled W (wr.drewN d) k e N D t :=
  ⟨h.len, h.le, h.own, below_drewN h.below d⟩
theorem Filled.step {W wr : World} {k : IntKind} {e : TypeId} {N : Nat} {D : List Int} {t : Nat} (h : Filled W wr k e N D t) (ht : t < N) {u : Int} (hu : u = D.getD t 0) : Filled W (wr.setCell ⟨W.heap.size, t, none⟩ (.int k u)) k e N D (t + 1) := by
  subst hu
  refine ⟨h.len, ht, ?_, h.below.setCell (Nat.le_refl _) _⟩
  have := (h.own.stored t (.int k (D.getD t 0))).1
  rwa [← List.map_set, fill_set D t (by rw [h.len]; exact ht)] at this
theorem Filled.start {W w : World} {k : IntKind} {e : TypeId} {N : Nat} {D : List Int} (hN : D.length = N) (h : w.ownsRow W.heap.size e 1 (.slice (some ⟨W.heap.size, 0, none⟩) N N) N (madeCells #[Value.int k 0] N).toList) (hg : W.grownBy w none) : Filled W w k e N D 0 := by
  refine ⟨hN, Nat.zero_le _, ?_, (Below.refl _ W).grown hg (Nat.le_refl _) (fun _ h => by cases h)⟩
  rw [toList_madeCells_one] at h
  rw [fill_zero, hN, List.map_replicate]
  exact h

def dig (n : Int) : Int := if n < 10 then 48 + n else 87 + n
def hexW (w : Int) : List Int := [dig (M.Fld w 28 4), dig (M.Fld w 24 4), dig (M.Fld w 20 4), dig (M.Fld w 16 4), dig (M.Fld w 12 4), dig (M.Fld w 8 4), dig (M.Fld w 4 4), dig (M.Fld w 0 4)]
def hexD (xs : List Int) : List Int := (xs.map hexW).flatten
theorem hexD_length (xs : List Int) : (hexD xs).length = 8 * xs.length := by
  induction xs with
  | nil => rfl
  | cons x xs ih => simp only [hexD, List.map_cons, List.flatten_cons, List.length_append] at ih ⊢; rw [ih]; simp [hexW]; omega

theorem flat_getD (f : Int → List Int) (c : Nat) (hf : ∀ x, (f x).length = c) : ∀ (xs : List Int) (i j : Nat), i < xs.length → j < c → ((xs.map f).flatten).getD (c * i + j) 0 = (f (xs.getD i 0)).getD j 0
  | [], i, j, hi, _ => by simp at hi
  | x :: xs, 0, j, _, hj => by
    rw [List.map_cons, List.flatten_cons, Nat.mul_zero, Nat.zero_add]
    simp [List.getD_eq_getElem?_getD, List.getElem?_append_left (show j < (f x).length by rw [hf]; exact hj)]
  | x :: xs, i + 1, j, hi, hj => by
    have ih := flat_getD f c hf xs i j (by simpa using hi) hj
    rw [List.map_cons, List.flatten_cons]
    rw [List.getD_eq_getElem?_getD, List.getElem?_append_right (by rw [hf, Nat.mul_add]; omega), hf, show c * (i + 1) + j - c = c * i + j by rw [Nat.mul_add]; omega, ← List.getD_eq_getElem?_getD, ih]
    simp
theorem hexD_at (xs : List Int) (i j : Nat) (hi : i < xs.length) (hj : j < 8) : (hexD xs).getD (8 * i + j) 0 = dig (M.Fld (xs.getD i 0) (28 - 4 * j) 4) := by
  unfold hexD
  rw [flat_getD hexW 8 (fun _ => rfl) xs i j hi hj]
  generalize xs.getD i 0 = x
  match j, hj with
  | 0, _ | 1, _ | 2, _ | 3, _ | 4, _ | 5, _ | 6, _ | 7, _ => rfl
theorem dig_at (f : Int) (h0 : 0 ≤ f) (h1 : f < 16) (hp : f.toNat < (⟨#[48, 49, 50, 51, 52, 53, 54, 55, 56, 57, 97, 98, 99, 100, 101, 102]⟩ : ByteArray).size) : (((⟨#[48, 49, 50, 51, 52, 53, 54, 55, 56, 57, 97, 98, 99, 100, 101, 102]⟩ : ByteArray)[f.toNat]'hp).toNat : Int) = dig f := by
  obtain ⟨m, rfl⟩ := Int.eq_ofNat_of_zero_le h0
  have hm : m < 16 := by omega
  match m, hm with
  | 0, _ | 1, _ | 2, _ | 3, _ | 4, _ | 5, _ | 6, _ | 7, _ | 8, _ | 9, _ | 10, _ | 11, _ | 12, _ | 13, _ | 14, _ | 15, _ => rfl

set_option maxHeartbeats 400000 in
theorem hexAll_any (W : World) (hT : Tab W) (b off n cap : Nat) (xs : List Int) (hx : xs.length = n) (wx : Wds xs) (h1 : Row W .u32 b off xs) (hn : 4 * n ≤ 140737488351232) (hb : b < W.heap.size) (h0 : 7 < W.heap.size) :
    Calls Tryz.prog 60 #[.slice (some ⟨b, off, none⟩) n cap] W fun e W' => e = .returned (.string (strOfNums (hexD xs))) ∧ Below W.heap.size W W' := by
  obtain ⟨i0, hi, hz0, hz1, hz2⟩ := info_parts Tryz.info5
  have hL := hexD_length xs
  rw [hx] at hL
  go_enter Tryz.func60, Tryz.ntmps60
  go_wp2_with (first | (at_make; refine wpList_make_full _ rfl _ _ 124 rfl W.heap.size 5 i0 (.int .u8 0) 1 Tryz.underlying124 hi hz0 hz1 .i64 .i64 _ _ (8 * n) rfl rfl (by push_cast; rfl) (by push_cast; rfl) ?c1 ?c2 (Nat.le_refl _) ?_))
  case c1 => rw [hz2]; omega
  case c2 => unfold maxLen; omega
  intro w' hown hg
  have F0 := Filled.start hL hown hg
  clear hown hg hi hz0 hz1 hz2
  go_wp2
  go_loopw [12] (fun i wr => ∃ k : Nat, k ≤ n ∧ i = .int .i64 k ∧ Filled W wr .u8 5 (8 * n) (hexD xs) (8 * k)) (fun i _ => n - (intOf i).toNat)
  case atStart => exact ⟨0, Nat.zero_le _, rfl, F0⟩
  case round =>
    obtain ⟨i, hin, rfl, F⟩ := hrel
    by_cases hlt : i < n
    · go_wp2
      go_loopw [15] (fun j wr => ∃ k : Nat, k ≤ 8 ∧ j = .int .i64 k ∧ Filled W wr .u8 5 (8 * n) (hexD xs) (8 * i + k)) (fun j _ => 8 - (intOf j).toNat)
      case atStart => exact ⟨0, Nat.zero_le _, rfl, F⟩
      case round =>
        clear F
        obtain ⟨j, hj8, rfl, F⟩ := hrel
        by_cases hjlt : j < 8
        · have hc := h1.below F.below hb i (by omega)
          have hT' := hT.below F.below h0
          obtain ⟨q0, q1⟩ := wx i
          have hcell := F.cell (8 * i + j) (by omega)
          have hfree := F.free (8 * i + j)
          have HD := hexD_at xs i j (by omega) hjlt
          generalize xs.getD i 0 = x at *
          obtain ⟨f0, f1, _⟩ := M.fld_bounds x (28 - 4 * j) 4 (by decide)
          rw [show (2 : Int) ^ 4 = 16 from rfl] at f1
          have HS : Hid (∀ (d : Nat) hp, Filled W ((wr.drewN d).setCell ⟨W.heap.size, 8 * i + j, none⟩ (.int .u8 (((⟨#[48, 49, 50, 51, 52, 53, 54, 55, 56, 57, 97, 98, 99, 100, 101, 102]⟩ : ByteArray)[(M.Fld x (28 - 4 * j) 4).toNat]'hp).toNat : Int))) .u8 5 (8 * n) (hexD xs) (8 * i + (j + 1))) :=
            fun d hp => (F.drewN d).step (by omega) ((dig_at _ f0 f1 hp).trans HD.symm)
          clear HD F
          go_wp2_with (first | (go_at_call 83; refine (cut_any _ hT' _ _ _ q0 q1 (by omega) (by omega) (by omega) (by omega)).mono ?_; rintro e w' ⟨rfl, d, rfl⟩))
          go_roundw
          case rel => exact ⟨j + 1, by omega, by go_num, HS.out d _⟩
          case measure => simp [intOf]; omega
        · obtain rfl : j = 8 := by omega
          go_wp2
          go_roundw
          case rel => exact ⟨i + 1, by omega, by go_num, F⟩
          case measure => simp [intOf]; omega
    · obtain rfl : i = n := by omega
      have hcv := run_convert_bytes_arg (P := Tryz.prog) wr 124 5 Tryz.underlying124 Tryz.underlying5 W.heap.size 0 (8 * i) (8 * i) (hexD xs) hL (fun j hj => by rw [Nat.zero_add, F.cell j hj, ← hL, fill_all]) 9 Tryz.underlying9
      have HB := F.below
      clear F
      go_wp2
      go_ret
      exact ⟨rfl, HB⟩
end Go.Proofs.YtbpdmkohihgnjaaGreatDoor.V
namespace Go.Proofs.YtbpdmkohihgnjaaGreatDoor.V
set_option maxRecDepth 100000
open Go.RowKit

theorem cell_new (W : World) (C : Array Value) (e : TypeId) (i : Nat) : (W.alloc (.cells C e)).cell? ⟨W.heap.size, i, none⟩ = C[i]? := World.cell?_alloc_mark W C e (0, 0) i
theorem row_new (W : World) (k : IntKind) (e : TypeId) (xs : List Int) (C : Array Value) (hC : C = (xs.map (Value.int k)).toArray) : Row (W.alloc (.cells C e)) k W.heap.size 0 xs := by
  intro i hi
  rw [Nat.zero_add, cell_new, hC]
  simp [List.getD_eq_getElem?_getD, hi]
theorem Tab.alloc {W : World} (h : Tab W) (h0 : 7 < W.heap.size) (o : Obj) : Tab (W.alloc o) := h.below ((Below.refl W.heap.size W).alloc (Nat.le_refl _) o) h0
theorem Row.alloc {W : World} {k : IntKind} {b off : Nat} {xs : List Int} (h : Row W k b off xs) (hb : b < W.heap.size) (o : Obj) : Row (W.alloc o) k b off xs := h.below ((Below.refl W.heap.size W).alloc (Nat.le_refl _) o) hb
end Go.Proofs.YtbpdmkohihgnjaaGreatDoor.V
namespace Go.Proofs.YtbpdmkohihgnjaaGreatDoor.V
set_option maxRecDepth 100000
open Go.RowKit

def byteW (w : Int) : List Int := [M.Fld w 24 8, M.Fld w 16 8, M.Fld w 8 8, M.Fld w 0 8]
def bytesD (xs : List Int) : List Int := (xs.map byteW).flatten
theorem bytesD_length (xs : List Int) : (bytesD xs).length = 4 * xs.length := by
  induction xs with
  | nil => rfl
  | cons x xs ih => simp only [bytesD, List.map_cons, List.flatten_cons, List.length_append] at ih ⊢; rw [ih]; simp [byteW]; omega
theorem bytesD_at (xs : List Int) (i j : Nat) (hi : i < xs.length) (hj : j < 4) : (bytesD xs).getD (4 * i + j) 0 = M.Fld (xs.getD i 0) (24 - 8 * j) 8 := by
  unfold bytesD
  rw [flat_getD byteW 4 (fun _ => rfl) xs i j hi hj]
  generalize xs.getD i 0 = x
  match j, hj with
  | 0, _ | 1, _ | 2, _ | 3, _ => rfl

theorem Filled.row {W wr : World} {k : IntKind} {e : TypeId} {N : Nat} {D : List Int} (h : Filled W wr k e N D N) : Row wr k W.heap.size 0 D := by
  intro i hi
  have := h.cell i (by rw [← h.len]; exact hi)
  rw [← h.len, fill_all] at this
  rw [Nat.zero_add]
  exact this
theorem Filled.lt {W wr : World} {k : IntKind} {e : TypeId} {N : Nat} {D : List Int} {t : Nat} (h : Filled W wr k e N D t) : W.heap.size < wr.heap.size := (h.own.lt W.heap.size rfl).2

set_option maxHeartbeats 400000 in
theorem bytes_any (W : World) (hT : Tab W) (b off n cap : Nat) (xs : List Int) (hx : xs.length = n) (wx : Wds xs) (h1 : Row W .u32 b off xs) (hn : 4 * n ≤ 140737488351232) (hb : b < W.heap.size) (h0 : 7 < W.heap.size) :
    Calls Tryz.prog 137 #[.slice (some ⟨b, off, none⟩) n cap] W fun e W' => e = .returned (.slice (some ⟨W.heap.size, 0, none⟩) (4 * n) (4 * n)) ∧ Filled W W' .u8 5 (4 * n) (bytesD xs) (4 * n) := by
  obtain ⟨i0, hi, hz0, hz1, hz2⟩ := info_parts Tryz.info5
  have hL := bytesD_length xs
  rw [hx] at hL
  go_enter Tryz.func137, Tryz.ntmps137
  go_wp2_with (first | (at_make; refine wpList_make_full _ rfl _ _ 124 rfl W.heap.size 5 i0 (.int .u8 0) 1 Tryz.underlying124 hi hz0 hz1 .i64 .i64 _ _ (4 * n) rfl rfl (by push_cast; rfl) (by push_cast; rfl) ?c1 ?c2 (Nat.le_refl _) ?_))
  case c1 => rw [hz2]; omega
  case c2 => unfold maxLen; omega
  intro w' hown hg
  have F0 := Filled.start hL hown hg
  clear hown hg hi hz0 hz1 hz2
  go_wp2
  go_loopw [12] (fun i wr => ∃ k : Nat, k ≤ n ∧ i = .int .i64 k ∧ Filled W wr .u8 5 (4 * n) (bytesD xs) (4 * k)) (fun i _ => n - (intOf i).toNat)
  case atStart => exact ⟨0, Nat.zero_le _, rfl, F0⟩
  case round =>
    obtain ⟨i, hin, rfl, F⟩ := hrel
    by_cases hlt : i < n
    · go_wp2
      go_loopw [15] (fun j wr => ∃ k : Nat, k ≤ 4 ∧ j = .int .i64 k ∧ Filled W wr .u8 5 (4 * n) (bytesD xs) (4 * i + k)) (fun j _ => 4 - (intOf j).toNat)
      case atStart => exact ⟨0, Nat.zero_le _, rfl, F⟩
      case round =>
        clear F
        obtain ⟨j, hj8, rfl, F⟩ := hrel
        by_cases hjlt : j < 4
        · have hc := h1.below F.below hb i (by omega)
          have hT' := hT.below F.below h0
          obtain ⟨q0, q1⟩ := wx i
          have hcell := F.cell (4 * i + j) (by omega)
          have hfree := F.free (4 * i + j)
          have HD := bytesD_at xs i j (by omega) hjlt
          generalize xs.getD i 0 = x at *
          obtain ⟨f0, f1, _⟩ := M.fld_bounds x (24 - 8 * j) 8 (by decide)
          rw [show (2 : Int) ^ 8 = 256 from rfl] at f1
          have HS : Hid (∀ (d : Nat), Filled W ((wr.drewN d).setCell ⟨W.heap.size, 4 * i + j, none⟩ (.int .u8 (M.Fld x (24 - 8 * j) 8))) .u8 5 (4 * n) (bytesD xs) (4 * i + (j + 1))) :=
            fun d => (F.drewN d).step (by omega) HD.symm
          clear HD F
          go_wp2_with (first | (go_at_call 83; refine (cut_any _ hT' _ _ _ q0 q1 (by omega) (by omega) (by omega) (by omega)).mono ?_; rintro e w' ⟨rfl, d, rfl⟩))
          go_roundw
          case rel => exact ⟨j + 1, by omega, by go_num, HS.out d⟩
          case measure => simp [intOf]; omega
        · obtain rfl : j = 4 := by omega
          go_wp2
          go_roundw
          case rel => exact ⟨i + 1, by omega, by go_num, F⟩
          case measure => simp [intOf]; omega
    · obtain rfl : i = n := by omega
      have HB : Hid (Filled W wr .u8 5 (4 * i) (bytesD xs) (4 * i)) := F
      clear F
      go_wp2
      go_ret
      exact ⟨rfl, HB⟩
theorem bytes_nil (W : World) (ao : Option Addr) (cap : Nat) :
    Calls Tryz.prog 137 #[.slice ao 0 cap] W fun e W' => e = .returned (.slice (some ⟨W.heap.size, 0, none⟩) 0 0) ∧ Filled W W' .u8 5 0 (bytesD []) 0 := by
  obtain ⟨i0, hi, hz0, hz1, hz2⟩ := info_parts Tryz.info5
  go_enter Tryz.func137, Tryz.ntmps137
  go_wp2_with (first | (at_make; refine wpList_make_full _ rfl _ _ 124 rfl W.heap.size 5 i0 (.int .u8 0) 1 Tryz.underlying124 hi hz0 hz1 .i64 .i64 _ _ 0 rfl rfl rfl rfl ?c1 ?c2 (Nat.le_refl _) ?_))
  case c1 => omega
  case c2 => unfold maxLen; omega
  intro w' hown hg
  have F0 := Filled.start (D := bytesD []) rfl hown hg
  clear hown hg hi hz0 hz1 hz2
  go_wp2
  refine wp_loop_rounds 1 ?_
  rw [rounds_succ]
  have HB : Hid (Filled W w' .u8 5 0 (bytesD []) 0) := F0
  clear F0
  go_wp2
  go_ret
  exact ⟨rfl, HB⟩
end Go.Proofs.YtbpdmkohihgnjaaGreatDoor.V
namespace Go.Proofs.YtbpdmkohihgnjaaGreatDoor.V
set_option maxRecDepth 100000
open Go.RowKit

structure Owned (W wr : World) (k : IntKind) (e : TypeId) (N : Nat) (L : List Int) : Prop where
  len : L.length = N
  own : wr.ownsRow W.heap.size e 1 (.slice (some ⟨W.heap.size, 0, none⟩) N N) N (L.map (Value.int k))
  below : Below W.heap.size W wr
theorem Owned.cell {W wr : World} {k : IntKind} {e : TypeId} {N : Nat} {L : List Int} (h : Owned W wr k e N L) (j : Nat) (hj : j < N) : wr.cell? ⟨W.heap.size, j, none⟩ = some (.int k (L.getD j 0)) := by
  rw [h.own.cellAt j (by omega)]
  have := h.len
  simp [List.getD_eq_getElem?_getD, show j < L.length by omega]
theorem Owned.free {W wr : World} {k : IntKind} {e : TypeId} {N : Nat} {L : List Int} (h : Owned W wr k e N L) (j : Nat) : wr.frozen? ⟨W.heap.size, j, none⟩ = false := h.own.frozenAt j
theorem Owned.drewN {W wr : World} {k : IntKind} {e : TypeId} {N : Nat} {L : List Int} (h : Owned W wr k e N L) (d : Nat) : Owned W (wr.drewN d) k e N L := ⟨h.len, h.own, below_drewN h.below d⟩
theorem Owned.drew {W wr : World} {k : IntKind} {e : TypeId} {N : Nat} {L : List Int} (h : Owned W wr k e N L) : Owned W wr.drew k e N L := ⟨h.len, h.own, h.below.drew⟩
theorem Owned.step {W wr : World} {k : IntKind} {e : TypeId} {N : Nat} {L L' : List Int} (h : Owned W wr k e N L) (j : Nat) (u : Int) (hL : L.set j u = L') : Owned W (wr.setCell ⟨W.heap.size, j, none⟩ (.int k u)) k e N L' := by
  subst hL
  refine ⟨by simp [h.len], ?_, h.below.setCell (Nat.le_refl _) _⟩
  have := (h.own.stored j (.int k u)).1
  rwa [← List.map_set] at this
theorem Owned.start {W w : World} {k : IntKind} {e : TypeId} {N : Nat} (h : w.ownsRow W.heap.size e 1 (.slice (some ⟨W.heap.size, 0, none⟩) N N) N (madeCells #[Value.int k 0] N).toList) (hg : W.grownBy w none) : Owned W w k e N (List.replicate N 0) := by
  refine ⟨by simp, ?_, (Below.refl _ W).grown hg (Nat.le_refl _) (fun _ h => by cases h)⟩
  rw [toList_madeCells_one] at h
  rw [List.map_replicate]
  exact h
theorem Owned.row {W wr : World} {k : IntKind} {e : TypeId} {N : Nat} {L : List Int} (h : Owned W wr k e N L) : Row wr k W.heap.size 0 L := by
  intro i hi
  rw [Nat.zero_add]
  exact h.cell i (by rw [← h.len]; exact hi)
theorem Owned.lt {W wr : World} {k : IntKind} {e : TypeId} {N : Nat} {L : List Int} (h : Owned W wr k e N L) : W.heap.size < wr.heap.size := (h.own.lt W.heap.size rfl).2
theorem Filled.owned {W wr : World} {k : IntKind} {e : TypeId} {N : Nat} {D : List Int} (h : Filled W wr k e N D N) : Owned W wr k e N D := by
  refine ⟨h.len, ?_, h.below⟩
  have := h.own
  rwa [← h.len, fill_all, h.len] at this

def Bts (xs : List Int) : Prop := ∀ i, 0 ≤ xs.getD i 0 ∧ xs.getD i 0 < 256
def wordAt (bs : List Int) (t i : Nat) : Int :=
  let f := fun (a : Int) (j : Nat) => if 4 * i + j < t then a * 256 + bs.getD (4 * i + j) 0 else a
  f (f (f (f 0 0) 1) 2) 3
def partW (bs : List Int) (n t : Nat) : List Int := (List.range n).map (wordAt bs t)
def wordsD (bs : List Int) (n : Nat) : List Int := partW bs n (4 * n)
theorem partW_length (bs : List Int) (n t : Nat) : (partW bs n t).length = n := by simp [partW]
theorem partW_getD (bs : List Int) (n t i : Nat) (hi : i < n) : (partW bs n t).getD i 0 = wordAt bs t i := by simp [partW, List.getD_eq_getElem?_getD, hi]
theorem wordAt_zero (bs : List Int) (i : Nat) : wordAt bs 0 i = 0 := by simp [wordAt]
theorem wordAt_other (bs : List Int) (t i : Nat) (h : i ≠ t / 4) : wordAt bs (t + 1) i = wordAt bs t i := by
  have e : ∀ j, j < 4 → (4 * i + j < t + 1 ↔ 4 * i + j < t) := fun j hj => by omega
  simp only [wordAt, e 0 (by decide), e 1 (by decide), e 2 (by decide), e 3 (by decide)]
theorem wordAt_step (bs : List Int) (i j : Nat) (hj : j < 4) : wordAt bs (4 * i + j + 1) i = wordAt bs (4 * i + j) i * 256 + bs.getD (4 * i + j) 0 := by
  match j, hj with
  | 0, _ => simp (disch := omega) only [wordAt, if_pos, if_neg]
  | 1, _ => simp (disch := omega) only [wordAt, if_pos, if_neg]
  | 2, _ => simp (disch := omega) only [wordAt, if_pos, if_neg]
  | 3, _ => simp (disch := omega) only [wordAt, if_pos, if_neg]
theorem wordAt_bound (bs : List Int) (hb : Bts bs) (i j : Nat) (hj : j < 4) : 0 ≤ wordAt bs (4 * i + j) i ∧ wordAt bs (4 * i + j) i < 16777216 := by
  have h0 := hb (4 * i + 0)
  have h1 := hb (4 * i + 1)
  have h2 := hb (4 * i + 2)
  match j, hj with
  | 0, _ => simp (disch := omega) only [wordAt, if_neg]; omega
  | 1, _ => simp (disch := omega) only [wordAt, if_pos, if_neg]; omega
  | 2, _ => simp (disch := omega) only [wordAt, if_pos, if_neg]; omega
  | 3, _ => simp (disch := omega) only [wordAt, if_pos, if_neg]; omega
theorem partW_zero (bs : List Int) (n : Nat) : partW bs n 0 = List.replicate n 0 := by
  apply List.ext_getElem
  · simp [partW]
  · intro i h1 h2
    simp [partW, wordAt_zero]
theorem partW_step (bs : List Int) (n i j : Nat) (hi : i < n) (hj : j < 4) (u : Int) (hu : u = wordAt bs (4 * i + j) i * 256 + bs.getD (4 * i + j) 0) : (partW bs n (4 * i + j)).set i u = partW bs n (4 * i + j + 1) := by
  apply List.ext_getElem
  · simp [partW]
  · intro a h1 h2
    rw [List.getElem_set]
    simp only [partW, List.getElem_map, List.getElem_range]
    split
    · subst_vars
      rw [wordAt_step bs _ j hj]
    · rw [wordAt_other bs _ a (by omega)]
theorem or_byte (x b : Int) (x0 : 0 ≤ x) (x1 : x < 16777216) (b0 : 0 ≤ b) (b1 : b < 256) : bits .or .u32 (x * 256) b = x * 256 + b := by
  rw [u32_or _ _ (by omega) (by omega) b0 (by omega), nat_join 8 _ _ (by omega) (by omega)]
  omega

set_option maxHeartbeats 400000 in
theorem words_any (W : World) (b off n cap : Nat) (bs : List Int) (hl : bs.length = 4 * n) (hbs : Bts bs) (h1 : Row W .u8 b off bs) (hn : 4 * n ≤ 1048576) (hb : b < W.heap.size) :
    Calls Tryz.prog 145 #[.slice (some ⟨b, off, none⟩) (4 * n) cap] W fun e W' => e = .returned (.tuple #[.slice (some ⟨W.heap.size, 0, none⟩) n n, .int .i64 0]) ∧ Owned W W' .u32 25 n (wordsD bs n) := by
  obtain ⟨i0, hi, hz0, hz1, hz2⟩ := info_parts Tryz.info25
  have h4 : (((4 * n : Nat) : Int) % 4 != 0) = false := by simp
  have h5 : ((4 * n : Nat) : Int) / 4 = (n : Int) := by omega
  go_enter Tryz.func145, Tryz.ntmps145
  go_wp2_with (first | (at_make; refine wpList_make_full _ rfl _ _ 127 rfl W.heap.size 25 i0 (.int .u32 0) 1 Tryz.underlying127 hi hz0 hz1 .i64 .i64 _ _ n rfl rfl (by omega) (by omega) ?c1 ?c2 (Nat.le_refl _) ?_))
  case c1 => rw [hz2]; omega
  case c2 => unfold maxLen; omega
  intro w' hown hg
  have F0 := Owned.start hown hg
  rw [← partW_zero bs n] at F0
  clear hown hg hi hz0 hz1 hz2
  go_wp2
  go_loopw [19] (fun i wr => ∃ t : Nat, t ≤ 4 * n ∧ i = .int .i64 t ∧ Owned W wr .u32 25 n (partW bs n t)) (fun i _ => 4 * n - (intOf i).toNat)
  case atStart => exact ⟨0, Nat.zero_le _, rfl, F0⟩
  case round =>
    obtain ⟨t, ht, rfl, F⟩ := hrel
    by_cases hlt : t < 4 * n
    · have hc := h1.below F.below hb t (by omega)
      obtain ⟨q0, q1⟩ := hbs t
      obtain ⟨x0, x1⟩ := wordAt_bound bs hbs (t / 4) (t % 4) (by omega)
      have hps := partW_step bs n (t / 4) (t % 4) (by omega) (by omega)
      rw [show 4 * (t / 4) + t % 4 = t by omega] at x0 x1 hps
      have hcell := F.cell (t / 4) (by omega)
      rw [partW_getD bs n _ (t / 4) (by omega)] at hcell
      have hfree := F.free (t / 4)
      have hor : Hid _ := or_byte _ _ x0 x1 q0 q1
      have HS : Hid (∀ u, u = wordAt bs t (t / 4) * 256 + bs.getD t 0 → Owned W (wr.drew.setCell ⟨W.heap.size, t / 4, none⟩ (.int .u32 u)) .u32 25 n (partW bs n (t + 1))) :=
        fun u hu => F.drew.step (t / 4) u (hps u hu)
      clear F hps
      generalize wordAt bs t (t / 4) = x at *
      generalize bs.getD t 0 = y at *
      go_wp2
      go_region
      go_wp2
      go_roundw
      case rel => exact ⟨t + 1, by omega, by go_num, HS.out _ hor.out⟩
      case measure => simp [intOf]; omega
    · obtain rfl : t = 4 * n := by omega
      have HB : Hid (Owned W wr .u32 25 n (wordsD bs n)) := F
      clear F
      go_wp2
      go_ret2
      exact ⟨rfl, HB⟩
theorem words_bytes (xs : List Int) (wx : Wds xs) : wordsD (bytesD xs) xs.length = xs := by
  apply List.ext_getElem
  · simp [wordsD, partW]
  · intro i h1 h2
    have e : xs[i] = xs.getD i 0 := by simp [List.getD_eq_getElem?_getD, h2]
    simp only [wordsD, partW, List.getElem_map, List.getElem_range]
    rw [e]
    obtain ⟨x0, x1⟩ := wx i
    simp (disch := omega) only [wordAt, if_pos]
    rw [bytesD_at xs i 0 h2 (by decide), bytesD_at xs i 1 h2 (by decide), bytesD_at xs i 2 h2 (by decide), bytesD_at xs i 3 h2 (by decide)]
    simp only [M.Fld]
    omega
theorem bytesD_bts (xs : List Int) : Bts (bytesD xs) := by
  intro t
  by_cases h : t < 4 * xs.length
  · have := bytesD_at xs (t / 4) (t % 4) (by omega) (by omega)
    rw [show 4 * (t / 4) + t % 4 = t by omega] at this
    rw [this]
    have := M.fld_bounds (xs.getD (t / 4) 0) (24 - 8 * (t % 4)) 8 (by decide)
    rw [show (2 : Int) ^ 8 = 256 from rfl] at this
    omega
  · have := bytesD_length xs
    simp [List.getD_eq_getElem?_getD, List.getElem?_eq_none (show (bytesD xs).length ≤ t by omega)]
end Go.Proofs.YtbpdmkohihgnjaaGreatDoor.V
namespace Go.Proofs.YtbpdmkohihgnjaaGreatDoor.V
set_option maxRecDepth 100000
open Go.RowKit

def dv (c : Int) : Int := if 48 ≤ c ∧ c ≤ 57 then c - 48 else if 97 ≤ c ∧ c ≤ 102 then c - 87 else -1
theorem dv_bounds (c : Int) : -1 ≤ dv c ∧ dv c < 16 := by unfold dv; split <;> (try split) <;> omega
theorem dv_dig (d : Int) (h0 : 0 ≤ d) (h1 : d < 16) : dv (dig d) = d := by unfold dv dig; split <;> (repeat (first | rw [if_pos (by omega)] | rw [if_neg (by omega)])) <;> omega
theorem dig_dv (c : Int) (h : 0 ≤ dv c) : dig (dv c) = c := by
  unfold dv at h ⊢
  split at h
  · rw [if_pos ‹_›]; unfold dig; rw [if_pos (by omega)]; omega
  · rw [if_neg ‹_›]
    split at h
    · rw [if_pos ‹_›]; unfold dig; rw [if_neg (by omega)]; omega
    · omega

theorem ret_int_bool {k : IntKind} {a b : Int} {x : Bool} (h : a = b) : Ending.returned (.tuple #[.int k a, .bool x]) = .returned (.tuple #[.int k b, .bool x]) := by rw [h]
theorem ret_two {k k' : IntKind} {a b : Int} {x : Int} (h : a = b) : Ending.returned (.tuple #[.int k a, .int k' x]) = .returned (.tuple #[.int k b, .int k' x]) := by rw [h]
theorem digit_yes (W : World) (c : Int) (c0 : 0 ≤ c) (c1 : c < 256) (h : 0 ≤ dv c) :
    Calls Tryz.prog 126 #[.int .u8 c] W fun e W' => e = .returned (.tuple #[.int .u32 (dv c), .bool true]) ∧ W = W' := by
  unfold dv at *
  split at h
  · rename_i hc
    obtain ⟨h1, h2⟩ := hc
    rw [if_pos ⟨h1, h2⟩]
    clear h
    go_enter Tryz.func126, Tryz.ntmps126
    go_wp2
    go_ret2
    exact ⟨rfl, rfl⟩
  · split at h
    · rename_i hn hc
      obtain ⟨h1, h2⟩ := hc
      rw [if_neg hn, if_pos ⟨h1, h2⟩]
      have h3 : 57 < c := by omega
      clear h hn
      go_enter Tryz.func126, Tryz.ntmps126
      go_wp2
      go_ret2
      exact ⟨ret_int_bool (by omega), rfl⟩
    · omega
theorem digit_no (W : World) (c : Int) (h : dv c < 0) :
    Calls Tryz.prog 126 #[.int .u8 c] W fun e W' => e = .returned (.tuple #[.int .u32 0, .bool false]) ∧ W = W' := by
  have h' : c < 48 ∨ (57 < c ∧ c < 97) ∨ 102 < c := by
    unfold dv at h
    split at h
    · omega
    · split at h <;> omega
  clear h
  rcases h' with h | ⟨h1, h2⟩ | h
  all_goals
    go_enter Tryz.func126, Tryz.ntmps126
    go_wp2
    go_ret2
    exact ⟨rfl, rfl⟩

def strL (s : ByteArray) : List Int := s.data.toList.map fun c => (c.toNat : Int)
theorem strL_at (s : ByteArray) (k : Nat) (h : k < s.size) : (strL s).getD k 0 = (s[k].toNat : Int) := by
  simp only [strL, List.getD_eq_getElem?_getD, List.getElem?_map]
  rw [List.getElem?_eq_getElem (show k < s.data.toList.length by rw [Array.length_toList]; exact h)]
  rfl
def pv (l : List Int) (a : Nat) : Nat → Option Int
  | 0 => some 0
  | k + 1 => match pv l a k with
    | some n => if dv (l.getD (a + k) 0) < 0 then none else some (n * 16 + dv (l.getD (a + k) 0))
    | none => none
theorem pv_bound (l : List Int) (a : Nat) : ∀ (k : Nat) (n : Int), pv l a k = some n → 0 ≤ n ∧ n < 16 ^ k := by
  intro k
  induction k with
  | zero => intro n h; simp [pv] at h; subst h; decide
  | succ k ih =>
    intro n h
    unfold pv at h
    split at h
    · rename_i m hm
      have h1 := ih m hm
      have h2 := dv_bounds (l.getD (a + k) 0)
      split at h
      · cases h
      · have h3 := Option.some.inj h
        rw [Int.pow_succ]
        omega
    · cases h
theorem pv_none (l : List Int) (a k : Nat) (h : pv l a k = none) : ∀ j, pv l a (k + j) = none
  | 0 => h
  | j + 1 => by
    rw [← Nat.add_assoc, pv, pv_none l a k h j]
theorem pv_step {l : List Int} {a k : Nat} {n : Int} (h : pv l a k = some n) (hd : 0 ≤ dv (l.getD (a + k) 0)) : pv l a (k + 1) = some (n * 16 + dv (l.getD (a + k) 0)) := by
  rw [pv, h]
  exact if_neg (by omega)
theorem pv_stop {l : List Int} {a k : Nat} {n : Int} (h : pv l a k = some n) (hd : dv (l.getD (a + k) 0) < 0) : pv l a (k + 1) = none := by
  rw [pv, h]
  exact if_pos hd
theorem or_digit (x b : Int) (x0 : 0 ≤ x) (x1 : x < 268435456) (b0 : 0 ≤ b) (b1 : b < 16) : bits .or .u32 (x * 16) b = x * 16 + b := by
  rw [u32_or _ _ (by omega) (by omega) b0 (by omega), nat_join 4 _ _ (by omega) (by omega)]
  omega

def pvAns : Option Int → Ending
  | some n => .returned (.tuple #[.int .u32 n, .int .i64 0])
  | none => .returned (.tuple #[.int .u32 0, .int .i64 10])
set_option maxHeartbeats 400000 in
theorem parseHex_eight (W : World) (s : ByteArray) (h : s.size = 8) :
    Calls Tryz.prog 110 #[.string s] W fun e W' => e = pvAns (pv (strL s) 0 8) ∧ W = W' := by
  have h' : ((s.size : Int) != 8) = false := by simp; omega
  have H : Hid (s.size = 8) := h
  have HL : Hid (∀ k (hk : k < s.size), (strL s).getD (0 + k) 0 = (s[k].toNat : Int)) := fun k hk => by rw [Nat.zero_add]; exact strL_at s k hk
  have hs : 8 ≤ s.size := by omega
  clear h
  generalize strL s = l at *
  go_enter Tryz.func110, Tryz.ntmps110
  go_wp2
  go_loop [4, 11] (fun x i => ∃ (k : Nat) (n : Int), k ≤ 8 ∧ i = .int .i64 k ∧ x = .int .u32 n ∧ pv l 0 k = some n) (fun _ i => 8 - (intOf i).toNat)
  case atStart => exact ⟨0, 0, by decide, rfl, rfl, rfl⟩
  case round =>
    obtain ⟨k, n, hk, rfl, rfl, hp⟩ := hrel
    have HP : Hid (pv l 0 k = some n) := hp
    obtain ⟨n0, n1⟩ := pv_bound l 0 k n hp
    clear hp
    by_cases hlt : k < 8
    · have n2 : n < 268435456 := by
        have : (16 : Int) ^ k ≤ 16 ^ 7 := by
          have := Nat.pow_le_pow_right (n := 16) (by decide) (show k ≤ 7 by omega)
          have e : ∀ j : Nat, ((16 ^ j : Nat) : Int) = 16 ^ j := fun j => by push_cast; rfl
          have e1 := e k
          have e2 := e 7
          omega
        have e : (16 : Int) ^ 7 = 268435456 := by decide
        omega
      clear n1
      have hl := HL.out k (by omega)
      have hks : k < s.size := by omega
      have c1 : s[k].toNat < 256 := s[k].toNat_lt
      by_cases hd : 0 ≤ dv (l.getD (0 + k) 0)
      · have HS := pv_step HP.out hd
        rw [hl] at hd HS
        have db := dv_bounds (s[k].toNat : Int)
        have HO := or_digit n _ n0 n2 hd db.2
        have HS' : Hid (pv l 0 (k + 1) = some (bits .or .u32 (n * 16) (dv (s[k].toNat : Int)))) := by rw [HO]; exact HS
        clear HS HO hl db
        go_wp2_with (first | (go_at_call 126; refine (digit_yes _ _ (by omega) (by omega) hd).mono ?_; rintro e w' ⟨rfl, rfl⟩))
        go_round
        case rel => exact ⟨k + 1, _, by omega, by go_num, rfl, HS'.out⟩
        case measure => simp [intOf]; omega
      · have hd' : dv (l.getD (0 + k) 0) < 0 := by omega
        have HS := pv_stop HP.out hd'
        have HN : Hid (pv l 0 8 = none) := by
          have := pv_none l 0 (k + 1) HS (7 - k)
          rwa [show k + 1 + (7 - k) = 8 by omega] at this
        rw [hl] at hd'
        clear HS hl hd
        go_wp2_with (first | (go_at_call 126; refine (digit_no _ _ hd').mono ?_; rintro e w' ⟨rfl, rfl⟩))
        go_ret2
        exact ⟨by rw [HN.out]; rfl, rfl⟩
    · obtain rfl : k = 8 := by omega
      go_wp2
      go_ret2
      exact ⟨by rw [HP.out]; rfl, rfl⟩
end Go.Proofs.YtbpdmkohihgnjaaGreatDoor.V
namespace Go.Proofs.YtbpdmkohihgnjaaGreatDoor.V
set_option maxRecDepth 100000
open Go.RowKit

theorem pv_congr (l l' : List Int) (a a' : Nat) : ∀ k, (∀ j, j < k → l.getD (a + j) 0 = l'.getD (a' + j) 0) → pv l a k = pv l' a' k
  | 0, _ => rfl
  | k + 1, h => by
    rw [pv, pv, pv_congr l l' a a' k (fun j hj => h j (by omega)), h k (by omega)]
theorem strL_extract (s : ByteArray) (a b j : Nat) (hb : b ≤ s.size) (hj : a + j < b) : (strL (s.extract a b)).getD j 0 = (strL s).getD (a + j) 0 := by
  rw [strL_at _ j (by rw [ByteArray.size_extract]; omega), strL_at s (a + j) (by omega)]
  rw [ByteArray.getElem_extract]
theorem pv_extract (s : ByteArray) (a : Nat) (h : a + 8 ≤ s.size) : pv (strL (s.extract a (a + 8))) 0 8 = pv (strL s) a 8 :=
  pv_congr _ _ _ _ 8 (fun j hj => by rw [Nat.zero_add]; exact strL_extract s a (a + 8) j h (by omega))

def hexWs (l : List Int) (n : Nat) : List Int := (List.range n).map fun i => (pv l (8 * i) 8).getD 0
theorem hexWs_length (l : List Int) (n : Nat) : (hexWs l n).length = n := by simp [hexWs]
theorem hexWs_at (l : List Int) (n i : Nat) (hi : i < n) : (hexWs l n).getD i 0 = (pv l (8 * i) 8).getD 0 := by simp [hexWs, List.getD_eq_getElem?_getD, hi]

theorem parseAll_long (W : World) (s : ByteArray) (h : 2097152 < s.size) (h2 : s.size ≤ 281474976710656) :
    Calls Tryz.prog 93 #[.string s] W fun e W' => e = .returned (.tuple #[.slice none 0 0, .int .i64 2]) ∧ W = W' := by
  go_enter Tryz.func93, Tryz.ntmps93
  go_wp2
  go_ret2
  exact ⟨rfl, rfl⟩
theorem parseAll_part (W : World) (s : ByteArray) (h : s.size ≤ 2097152) (h8 : s.size % 8 ≠ 0) :
    Calls Tryz.prog 93 #[.string s] W fun e W' => e = .returned (.tuple #[.slice none 0 0, .int .i64 10]) ∧ W = W' := by
  have h' : ((s.size : Int) % 8 != 0) = true := by simp; omega
  go_enter Tryz.func93, Tryz.ntmps93
  go_wp2
  go_ret2
  exact ⟨rfl, rfl⟩
set_option maxHeartbeats 800000 in
theorem parseAll_any (W : World) (s : ByteArray) (n : Nat) (hs : s.size = 8 * n) (hn : 8 * n ≤ 2097152) :
    Calls Tryz.prog 93 #[.string s] W fun e W' =>
      ((∀ i, i < n → pv (strL s) (8 * i) 8 ≠ none) ∧ e = .returned (.tuple #[.slice (some ⟨W.heap.size, 0, none⟩) n n, .int .i64 0]) ∧ Owned W W' .u32 25 n (hexWs (strL s) n)) ∨
      ((∃ i, i < n ∧ pv (strL s) (8 * i) 8 = none) ∧ e = .returned (.tuple #[.slice none 0 0, .int .i64 10]) ∧ Below W.heap.size W W') := by
  obtain ⟨i0, hi, hz0, hz1, hz2⟩ := info_parts Tryz.info25
  have h4 : ((s.size : Int) % 8 != 0) = false := by simp; omega
  have h5 : (s.size : Int) / 8 = (n : Int) := by omega
  have hN : s.size ≤ 2097152 := by omega
  have HSZ : Hid (s.size = 8 * n) := hs
  clear hs
  have hLL := hexWs_length (strL s) n
  go_enter Tryz.func93, Tryz.ntmps93
  go_wp2_with (first | (at_make; refine wpList_make_full _ rfl _ _ 127 rfl W.heap.size 25 i0 (.int .u32 0) 1 Tryz.underlying127 hi hz0 hz1 .i64 .i64 _ _ n rfl rfl (by omega) (by omega) ?c1 ?c2 (Nat.le_refl _) ?_))
  case c1 => rw [hz2]; omega
  case c2 => unfold maxLen; omega
  intro w' hown hg
  have F0 := Filled.start hLL hown hg
  clear hown hg hi hz0 hz1 hz2
  go_wp2
  go_loopw [21] (fun i wr => ∃ k : Nat, k ≤ n ∧ i = .int .i64 k ∧ Filled W wr .u32 25 n (hexWs (strL s) n) k ∧ ∀ j, j < k → pv (strL s) (8 * j) 8 ≠ none) (fun i _ => n - (intOf i).toNat)
  case atStart => exact ⟨0, Nat.zero_le _, rfl, F0, fun j hj => by omega⟩
  case round =>
    obtain ⟨i, hin, rfl, F, hall⟩ := hrel
    have HA : Hid (∀ j, j < i → pv (strL s) (8 * j) 8 ≠ none) := hall
    clear hall
    by_cases hlt : i < n
    · have hsz : (s.extract (8 * i) (8 * (i + 1))).size = 8 := by rw [ByteArray.size_extract]; have := HSZ.out; omega
      have HX : pv (strL (s.extract (8 * i) (8 * (i + 1)))) 0 8 = pv (strL s) (8 * i) 8 := by have := HSZ.out; exact pv_extract s (8 * i) (by omega)
      have P := fun w => parseHex_eight w (s.extract (8 * i) (8 * (i + 1))) hsz
      rw [HX] at P
      have hcell := F.cell i hlt
      have hfree := F.free i
      have hle : 8 * i + 8 ≤ s.size := by have := HSZ.out; omega
      have HW := hexWs_at (strL s) n i hlt
      cases hp : pv (strL s) (8 * i) 8 with
      | some x =>
        rw [hp] at P HW
        have HS : Hid (Filled W (wr.setCell ⟨W.heap.size, i, none⟩ (.int .u32 x)) .u32 25 n (hexWs (strL s) n) (i + 1)) := F.step hlt HW.symm
        have HA' : Hid (∀ j, j < i + 1 → pv (strL s) (8 * j) 8 ≠ none) := fun j hj => by
          by_cases e : j = i
          · subst e; rw [hp]; exact fun h => by cases h
          · exact HA.out j (by omega)
        clear HW F HX hp HA
        have P' : Hid (∀ w, Calls Tryz.prog 110 #[.string (s.extract (8 * i) (8 * (i + 1)))] w fun e W' => e = .returned (.tuple #[.int .u32 x, .int .i64 0]) ∧ w = W') := P
        clear P
        go_wp2_with (first | (go_at_call 110; refine (P'.out _).mono ?_; rintro e w' ⟨rfl, rfl⟩))
        go_roundw
        case rel => exact ⟨i + 1, by omega, by go_num, HS.out, HA'.out⟩
        case measure => simp [intOf]; omega
      | none =>
        rw [hp] at P
        have HN : Hid (∃ i, i < n ∧ pv (strL s) (8 * i) 8 = none) := ⟨i, hlt, hp⟩
        have HB : Hid (Below W.heap.size W wr) := F.below
        clear HW F HX hp HA
        have P' : Hid (∀ w, Calls Tryz.prog 110 #[.string (s.extract (8 * i) (8 * (i + 1)))] w fun e W' => e = .returned (.tuple #[.int .u32 0, .int .i64 10]) ∧ w = W') := P
        clear P
        go_wp2_with (first | (go_at_call 110; refine (P'.out _).mono ?_; rintro e w' ⟨rfl, rfl⟩))
        go_ret2
        exact Or.inr ⟨HN.out, rfl, HB.out⟩
    · obtain rfl : i = n := by omega
      have HB : Hid (Owned W wr .u32 25 i (hexWs (strL s) i)) := F.owned
      clear F
      go_wp2
      go_ret2
      exact Or.inl ⟨HA.out, rfl, HB.out⟩
end Go.Proofs.YtbpdmkohihgnjaaGreatDoor.V
namespace Go.Proofs.YtbpdmkohihgnjaaGreatDoor.V
set_option maxRecDepth 100000
open Go.RowKit

theorem strL_strOfNums (l : List Int) (h : Bts l) : strL (strOfNums l) = l := by
  unfold strOfNums strL
  rw [List.map_map]
  apply List.ext_getElem
  · simp
  · intro i h1 h2
    have := h i
    have e : l.getD i 0 = l[i] := by simp [List.getD_eq_getElem?_getD, h2]
    rw [e] at this
    simp only [List.getElem_map, Function.comp]
    rw [UInt8.toNat_ofNat']
    omega
theorem dig_byte (d : Int) (h0 : 0 ≤ d) (h1 : d < 16) : 0 ≤ dig d ∧ dig d < 256 := by unfold dig; split <;> omega
theorem hexD_bts (xs : List Int) : Bts (hexD xs) := by
  intro t
  by_cases h : t < 8 * xs.length
  · have := hexD_at xs (t / 8) (t % 8) (by omega) (by omega)
    rw [show 8 * (t / 8) + t % 8 = t by omega] at this
    rw [this]
    have := M.fld_bounds (xs.getD (t / 8) 0) (28 - 4 * (t % 8)) 4 (by decide)
    rw [show (2 : Int) ^ 4 = 16 from rfl] at this
    exact dig_byte _ this.1 this.2.1
  · have := hexD_length xs
    simp [List.getD_eq_getElem?_getD, List.getElem?_eq_none (show (hexD xs).length ≤ t by omega)]
end Go.Proofs.YtbpdmkohihgnjaaGreatDoor.V
