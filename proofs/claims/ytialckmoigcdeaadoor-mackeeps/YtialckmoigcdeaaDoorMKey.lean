/- Keys and pads as lists: no function of the program. -/
import Derived.Test.YtialckmoigcdeaaDoorWrd
import Derived.Test.YtialckmoigcdeaaDoorDigL
namespace Go.Proofs.YtialckmoigcdeaaDoor
open Go.RowKit

/-- The tables lie where their initialisers laid them. -/
structure Tabs (W : World) : Prop where
  sha : Tab W
  lows : TabW W
  sz : 2 < W.heap.size
theorem Tabs.below {W w : World} {B : Nat} (h : Tabs W) (hb : Below B W w) (hB : 2 < B) : Tabs w := ⟨h.sha.below hb hB, h.lows.below hb (by omega), by have := hb.size; have := h.sz; omega⟩
theorem Tabs.on {W w : World} (h : Tabs W) (hb : Below W.heap.size W w) : Tabs w := h.below hb h.sz
theorem Tabs.but {W w : World} {g : Nat} (h : Tabs W) (hb : But g W w) (hg : 3 ≤ g) : Tabs w := h.below (hb.below (B := 3) hg (by have := h.sz; omega)) (by decide)

/-- The key as 64 bytes. -/
def keyB (k : List Int) : List Int := if 64 < k.length then bytesD (sumB k) else k
def key64 (k : List Int) : List Int := keyB k ++ List.replicate (64 - (keyB k).length) 0
def keyW (k : List Int) : List Int := wordsD (key64 k) 16
def xorL (p : Int) (xs : List Int) : List Int := xs.map fun x => bits .xor .u32 x p
def xorB (p : Int) (bs : List Int) : List Int := bs.map fun x => bits .xor .u8 x p
def hmac (k m : List Int) : List Int := sumB (xorB 92 (key64 k) ++ bytesD (sumB (xorB 54 (key64 k) ++ m)))
theorem hmac_length (k m : List Int) : (hmac k m).length = 8 := sumB_length _
theorem xorL_length (p : Int) (xs : List Int) : (xorL p xs).length = xs.length := by simp [xorL]
theorem xorB_length (p : Int) (xs : List Int) : (xorB p xs).length = xs.length := by simp [xorB]
theorem keyB_length (k : List Int) : (keyB k).length ≤ 64 := by
  unfold keyB
  split
  · rw [bytesD_length, sumB_length]; decide
  · omega
theorem key64_length (k : List Int) : (key64 k).length = 64 := by
  have := keyB_length k
  simp [key64]; omega
theorem keyW_length (k : List Int) : (keyW k).length = 16 := wordsD_length _ _
theorem bts_zeros (n : Nat) : Bts (List.replicate n 0) := fun i => by
  simp only [List.getD_eq_getElem?_getD, List.getElem?_replicate]
  split <;> simp
theorem key64_bts {k : List Int} (h : Bts k) : Bts (key64 k) := by
  unfold key64
  refine bts_append ?_ (bts_zeros _)
  unfold keyB
  split
  · exact bytesD_bts _
  · exact h
theorem w4_wd {a b c d : Int} (a0 : 0 ≤ a) (a1 : a < 256) (b0 : 0 ≤ b) (b1 : b < 256) (c0 : 0 ≤ c) (c1 : c < 256) (d0 : 0 ≤ d) (d1 : d < 256) : 0 ≤ w4 a b c d ∧ w4 a b c d < 4294967296 := by
  unfold w4; omega
theorem wordsD_wds {bs : List Int} (h : Bts bs) (n : Nat) : Wds (wordsD bs n) := fun i => by
  by_cases hi : i < n
  · rw [wordsD_getD _ _ _ hi]
    have q := fun j => h j
    exact w4_wd (h _).1 (h _).2 (h _).1 (h _).2 (h _).1 (h _).2 (h _).1 (h _).2
  · have := wordsD_length bs n
    simp [List.getD_eq_getElem?_getD, List.getElem?_eq_none (show (wordsD bs n).length ≤ i by omega)]
theorem xor_u32 (x p : Int) (x0 : 0 ≤ x) (x1 : x < 4294967296) (p0 : 0 ≤ p) (p1 : p < 4294967296) : 0 ≤ bits .xor .u32 x p ∧ bits .xor .u32 x p < 4294967296 := by
  obtain ⟨x, rfl⟩ := Int.eq_ofNat_of_zero_le x0
  obtain ⟨p, rfl⟩ := Int.eq_ofNat_of_zero_le p0
  have hx : x ^^^ p < 4294967296 := Nat.xor_lt_two_pow (n := 32) (by omega) (by omega)
  rw [u32_xor_nat _ _ (by omega) (by omega)]
  omega
theorem xorL_wds {xs : List Int} (p : Int) (p0 : 0 ≤ p) (p1 : p < 4294967296) (h : Wds xs) : Wds (xorL p xs) := fun i => by
  by_cases hi : i < xs.length
  · have e : (xorL p xs).getD i 0 = bits .xor .u32 (xs.getD i 0) p := by simp [xorL, List.getD_eq_getElem?_getD, hi]
    rw [e]
    exact xor_u32 _ _ (h i).1 (h i).2 p0 p1
  · simp [xorL, List.getD_eq_getElem?_getD, List.getElem?_eq_none (show xs.length ≤ i by omega)]
theorem xor_u8 (x p : Int) (x0 : 0 ≤ x) (x1 : x < 256) (p0 : 0 ≤ p) (p1 : p < 256) : bits .xor .u8 x p = ((x.toNat ^^^ p.toNat : Nat) : Int) ∧ x.toNat ^^^ p.toNat < 256 := by
  obtain ⟨x, rfl⟩ := Int.eq_ofNat_of_zero_le x0
  obtain ⟨p, rfl⟩ := Int.eq_ofNat_of_zero_le p0
  have hx : x ^^^ p < 256 := Nat.xor_lt_two_pow (n := 8) (by omega) (by omega)
  refine ⟨?_, by simpa using hx⟩
  rw [u8_xor_nat _ _ (by omega) (by omega)]
  simp
/-- A pad laid over a word is laid over each of its bytes. -/
theorem xor_w4 (a b c d p q : Nat) (hb : b < 256) (hc : c < 256) (hd : d < 256) (hp : p < 256) (hq : q = ((p * 256 + p) * 256 + p) * 256 + p) :
    (((a * 256 + b) * 256 + c) * 256 + d) ^^^ q = (((a ^^^ p) * 256 + (b ^^^ p)) * 256 + (c ^^^ p)) * 256 + (d ^^^ p) := by
  have step : ∀ x y u v : Nat, u < 256 → v < 256 → (x * 256 + u) ^^^ (y * 256 + v) = (x ^^^ y) * 256 + (u ^^^ v) := by
    intro x y u v hu hv
    have hl : u ^^^ v < 256 := Nat.xor_lt_two_pow (n := 8) hu hv
    have h1 : ((x * 256 + u) ^^^ (y * 256 + v)) / 2 ^ 8 = x ^^^ y := by
      rw [Nat.xor_div_two_pow]
      rw [show (x * 256 + u) / 2 ^ 8 = x by omega, show (y * 256 + v) / 2 ^ 8 = y by omega]
    have h2 : ((x * 256 + u) ^^^ (y * 256 + v)) % 2 ^ 8 = u ^^^ v := by
      rw [Nat.xor_mod_two_pow]
      rw [show (x * 256 + u) % 2 ^ 8 = u by omega, show (y * 256 + v) % 2 ^ 8 = v by omega]
    omega
  subst hq
  rw [step _ _ _ _ hd hp, step _ _ _ _ hc hp, step _ _ _ _ hb hp]
theorem bytes_xor (bs : List Int) (h : Bts bs) (n : Nat) (hl : bs.length = 4 * n) (p q : Nat) (hp : p < 256) (hq : q = ((p * 256 + p) * 256 + p) * 256 + p) : bytesD (xorL (q : Int) (wordsD bs n)) = xorB (p : Int) bs := by
  have hL : (xorL (q : Int) (wordsD bs n)).length = n := by rw [xorL_length, wordsD_length]
  apply list_ext_getD
  · rw [bytesD_length, hL, xorB_length, hl]
  · intro t ht
    rw [bytesD_length, hL] at ht
    have e0 := bytesD_getD (xorL (q : Int) (wordsD bs n)) (t / 4) (by omega) (t % 4) (by omega)
    rw [show 4 * (t / 4) + t % 4 = t by omega] at e0
    rw [e0]
    have e1 : (xorL (q : Int) (wordsD bs n)).getD (t / 4) 0 = bits .xor .u32 ((wordsD bs n).getD (t / 4) 0) q := by
      simp [xorL, List.getD_eq_getElem?_getD, List.getElem?_eq_getElem (show t / 4 < (wordsD bs n).length by rw [wordsD_length]; omega)]
    have e2 : (xorB (p : Int) bs).getD t 0 = bits .xor .u8 (bs.getD t 0) p := by
      simp [xorB, List.getD_eq_getElem?_getD, List.getElem?_eq_getElem (show t < bs.length by omega)]
    rw [e1, e2, wordsD_getD _ _ _ (by omega)]
    obtain ⟨a0, a1⟩ := h (4 * (t / 4))
    obtain ⟨b0, b1⟩ := h (4 * (t / 4) + 1)
    obtain ⟨c0, c1⟩ := h (4 * (t / 4) + 2)
    obtain ⟨d0, d1⟩ := h (4 * (t / 4) + 3)
    have et : bs.getD t 0 = bs.getD (4 * (t / 4) + t % 4) 0 := by rw [show 4 * (t / 4) + t % 4 = t by omega]
    rw [et]
    have hr : t % 4 < 4 := by omega
    generalize t % 4 = r at hr ⊢
    generalize 4 * (t / 4) = i at *
    obtain ⟨a, ha⟩ := Int.eq_ofNat_of_zero_le a0
    obtain ⟨b, hb⟩ := Int.eq_ofNat_of_zero_le b0
    obtain ⟨c, hc⟩ := Int.eq_ofNat_of_zero_le c0
    obtain ⟨d, hd⟩ := Int.eq_ofNat_of_zero_le d0
    rw [ha, hb, hc, hd]
    have ew : w4 (a : Int) b c d = (((((a * 256 + b) * 256 + c) * 256 + d : Nat)) : Int) := by unfold w4; omega
    have hqn : q < 4294967296 := by omega
    rw [ew, u32_xor_nat _ _ (by omega) hqn, xor_w4 a b c d p q (by omega) (by omega) (by omega) hp hq]
    have la : a ^^^ p < 256 := Nat.xor_lt_two_pow (n := 8) (by omega) (by omega)
    have lb : b ^^^ p < 256 := Nat.xor_lt_two_pow (n := 8) (by omega) (by omega)
    have lc : c ^^^ p < 256 := Nat.xor_lt_two_pow (n := 8) (by omega) (by omega)
    have ld : d ^^^ p < 256 := Nat.xor_lt_two_pow (n := 8) (by omega) (by omega)
    match r, hr with
    | 0, _ => rw [Nat.add_zero, ha, u8_xor_nat _ _ (by omega) (by omega)]; simp only [byteW, List.getD_cons_zero]; generalize a ^^^ p = a' at *; generalize b ^^^ p = b' at *; generalize c ^^^ p = c' at *; generalize d ^^^ p = d' at *; omega
    | 1, _ => rw [hb, u8_xor_nat _ _ (by omega) (by omega)]; simp only [byteW, List.getD_cons_zero, List.getD_cons_succ]; generalize a ^^^ p = a' at *; generalize b ^^^ p = b' at *; generalize c ^^^ p = c' at *; generalize d ^^^ p = d' at *; omega
    | 2, _ => rw [hc, u8_xor_nat _ _ (by omega) (by omega)]; simp only [byteW, List.getD_cons_zero, List.getD_cons_succ]; generalize a ^^^ p = a' at *; generalize b ^^^ p = b' at *; generalize c ^^^ p = c' at *; generalize d ^^^ p = d' at *; omega
    | 3, _ => rw [hd, u8_xor_nat _ _ (by omega) (by omega)]; simp only [byteW, List.getD_cons_zero, List.getD_cons_succ]; generalize a ^^^ p = a' at *; generalize b ^^^ p = b' at *; generalize c ^^^ p = c' at *; generalize d ^^^ p = d' at *; omega
theorem bytes_inner {k : List Int} (h : Bts k) : bytesD (xorL 909522486 (keyW k)) = xorB 54 (key64 k) := bytes_xor _ (key64_bts h) 16 (key64_length k) 54 909522486 (by decide) (by decide)
theorem bytes_outer {k : List Int} (h : Bts k) : bytesD (xorL 1549556828 (keyW k)) = xorB 92 (key64 k) := bytes_xor _ (key64_bts h) 16 (key64_length k) 92 1549556828 (by decide) (by decide)
theorem bytesD_append (xs ys : List Int) : bytesD (xs ++ ys) = bytesD xs ++ bytesD ys := by simp [bytesD]
theorem wds_append {xs ys : List Int} (h : Wds xs) (h' : Wds ys) : Wds (xs ++ ys) := fun i => by
  by_cases hi : i < xs.length
  · simpa [List.getD_eq_getElem?_getD, List.getElem?_append_left hi] using h i
  · simpa [List.getD_eq_getElem?_getD, List.getElem?_append_right (show xs.length ≤ i by omega)] using h' (i - xs.length)
theorem keyW_wds {k : List Int} (h : Bts k) : Wds (keyW k) := wordsD_wds (key64_bts h) 16
end Go.Proofs.YtialckmoigcdeaaDoor
