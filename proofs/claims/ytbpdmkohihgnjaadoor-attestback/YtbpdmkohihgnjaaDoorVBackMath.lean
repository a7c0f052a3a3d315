import Derived.Test.YtbpdmkohihgnjaaDoorVParseAll
namespace Go.Proofs.YtbpdmkohihgnjaaDoor.V
set_option maxRecDepth 100000
open Go.RowKit

theorem pv_some_digits (l : List Int) (a : Nat) : ∀ (k : Nat) (n : Int), pv l a k = some n → ∀ j, j < k → 0 ≤ dv (l.getD (a + j) 0) := by
  intro k
  induction k with
  | zero => intro n _ j hj; omega
  | succ k ih =>
    intro n h j hj
    unfold pv at h
    split at h
    · rename_i m hm
      split at h
      · cases h
      · by_cases e : j = k
        · subst e; omega
        · exact ih m hm j (by omega)
    · cases h
theorem pv_eight (l : List Int) (a : Nat) (n : Int) (h : pv l a 8 = some n) : let d := fun j => dv (l.getD (a + j) 0)
    n = ((((((d 0 * 16 + d 1) * 16 + d 2) * 16 + d 3) * 16 + d 4) * 16 + d 5) * 16 + d 6) * 16 + d 7 := by
  intro d
  have hd := pv_some_digits l a 8 n h
  have s1 := pv_step (l := l) (a := a) (k := 0) (n := 0) rfl (hd 0 (by decide))
  have s2 := pv_step (k := 1) s1 (hd 1 (by decide))
  have s3 := pv_step (k := 2) s2 (hd 2 (by decide))
  have s4 := pv_step (k := 3) s3 (hd 3 (by decide))
  have s5 := pv_step (k := 4) s4 (hd 4 (by decide))
  have s6 := pv_step (k := 5) s5 (hd 5 (by decide))
  have s7 := pv_step (k := 6) s6 (hd 6 (by decide))
  have s8 := pv_step (k := 7) s7 (hd 7 (by decide))
  have := Option.some.inj (h.symm.trans s8)
  rw [this]
  show _ = ((((((d 0 * 16 + d 1) * 16 + d 2) * 16 + d 3) * 16 + d 4) * 16 + d 5) * 16 + d 6) * 16 + d 7
  simp only [d]
  omega
/-- What is read prints as it was. -/
theorem hex_of_pv (l : List Int) (a : Nat) (n : Int) (h : pv l a 8 = some n) (j : Nat) (hj : j < 8) : (hexW n).getD j 0 = l.getD (a + j) 0 := by
  have hd := pv_some_digits l a 8 n h
  have e := pv_eight l a n h
  have b : ∀ j, dv (l.getD (a + j) 0) < 16 := fun j => (dv_bounds _).2
  have h0 := hd 0 (by decide); have b0 := b 0
  have h1 := hd 1 (by decide); have b1 := b 1
  have h2 := hd 2 (by decide); have b2 := b 2
  have h3 := hd 3 (by decide); have b3 := b 3
  have h4 := hd 4 (by decide); have b4 := b 4
  have h5 := hd 5 (by decide); have b5 := b 5
  have h6 := hd 6 (by decide); have b6 := b 6
  have h7 := hd 7 (by decide); have b7 := b 7
  have key : ∀ j, j < 8 → M.Fld n (28 - 4 * j) 4 = dv (l.getD (a + j) 0) := by
    intro j hj
    simp only at e
    match j, hj with
    | 0, _ | 1, _ | 2, _ | 3, _ | 4, _ | 5, _ | 6, _ | 7, _ => simp only [M.Fld]; omega
  have hw : (hexW n).getD j 0 = dig (M.Fld n (28 - 4 * j) 4) := by
    match j, hj with
    | 0, _ | 1, _ | 2, _ | 3, _ | 4, _ | 5, _ | 6, _ | 7, _ => rfl
  rw [hw, key j hj]
  exact dig_dv _ (hd j hj)
/-- What is printed reads as it was. -/
theorem pv_of_hex (l : List Int) (a : Nat) (x : Int) (x0 : 0 ≤ x) (x1 : x < 4294967296) (h : ∀ j, j < 8 → l.getD (a + j) 0 = dig (M.Fld x (28 - 4 * j) 4)) : pv l a 8 = some x := by
  have f : ∀ j, 0 ≤ M.Fld x (28 - 4 * j) 4 ∧ M.Fld x (28 - 4 * j) 4 < 16 := fun j => by
    have := M.fld_bounds x (28 - 4 * j) 4 (by decide)
    rw [show (2 : Int) ^ 4 = 16 from rfl] at this
    omega
  have g : ∀ j, j < 8 → dv (l.getD (a + j) 0) = M.Fld x (28 - 4 * j) 4 := fun j hj => by rw [h j hj, dv_dig _ (f j).1 (f j).2]
  have hd : ∀ j, j < 8 → 0 ≤ dv (l.getD (a + j) 0) := fun j hj => by rw [g j hj]; exact (f j).1
  have s1 := pv_step (l := l) (a := a) (k := 0) (n := 0) rfl (hd 0 (by decide))
  have s2 := pv_step (k := 1) s1 (hd 1 (by decide))
  have s3 := pv_step (k := 2) s2 (hd 2 (by decide))
  have s4 := pv_step (k := 3) s3 (hd 3 (by decide))
  have s5 := pv_step (k := 4) s4 (hd 4 (by decide))
  have s6 := pv_step (k := 5) s5 (hd 5 (by decide))
  have s7 := pv_step (k := 6) s6 (hd 6 (by decide))
  have s8 := pv_step (k := 7) s7 (hd 7 (by decide))
  rw [s8, g 0 (by decide), g 1 (by decide), g 2 (by decide), g 3 (by decide), g 4 (by decide), g 5 (by decide), g 6 (by decide), g 7 (by decide)]
  simp only [M.Fld]
  congr 1
  omega
theorem strOfNums_strL (s : ByteArray) : strOfNums (strL s) = s := by
  unfold strOfNums strL
  rw [List.map_map]
  have : ((fun n : Int => UInt8.ofNat n.toNat) ∘ fun c : UInt8 => (c.toNat : Int)) = id := by funext c; simp
  rw [this, List.map_id]
theorem strL_strOfNums (l : List Int) (h : Bts l) : strL (strOfNums l) = l := by
  unfold strOfNums strL
  rw [List.map_map]
  apply List.ext_getElem
  · simp
  · intro i h1 h2
    have := h i
    have e : l.getD i 0 = l[i] := by simp [List.getD_eq_getElem?_getD, h2]
    rw [e] at this
    simp only [List.getElem_map, Function.comp]
    rw [UInt8.toNat_ofNat']
    omega
theorem dig_byte (d : Int) (h0 : 0 ≤ d) (h1 : d < 16) : 0 ≤ dig d ∧ dig d < 256 := by unfold dig; split <;> omega
theorem hexD_bts (xs : List Int) : Bts (hexD xs) := by
  intro t
  by_cases h : t < 8 * xs.length
  · have := hexD_at xs (t / 8) (t % 8) (by omega) (by omega)
    rw [show 8 * (t / 8) + t % 8 = t by omega] at this
    rw [this]
    have := M.fld_bounds (xs.getD (t / 8) 0) (28 - 4 * (t % 8)) 4 (by decide)
    rw [show (2 : Int) ^ 4 = 16 from rfl] at this
    exact dig_byte _ this.1 this.2.1
  · have := hexD_length xs
    simp [List.getD_eq_getElem?_getD, List.getElem?_eq_none (show (hexD xs).length ≤ t by omega)]
theorem pv_hexD (xs : List Int) (wx : Wds xs) (i : Nat) (hi : i < xs.length) : pv (hexD xs) (8 * i) 8 = some (xs.getD i 0) :=
  pv_of_hex _ _ _ (wx i).1 (wx i).2 (fun j hj => hexD_at xs i j hi hj)
theorem hexWs_hexD (xs : List Int) (wx : Wds xs) : hexWs (hexD xs) xs.length = xs := by
  apply List.ext_getElem
  · simp [hexWs]
  · intro i h1 h2
    simp only [hexWs, List.getElem_map, List.getElem_range]
    rw [pv_hexD xs wx i h2]
    simp [List.getD_eq_getElem?_getD, h2]
theorem hexD_hexWs (l : List Int) (n : Nat) (hl : l.length = 8 * n) (h : ∀ i, i < n → pv l (8 * i) 8 ≠ none) : hexD (hexWs l n) = l := by
  have hlen := hexD_length (hexWs l n)
  rw [hexWs_length] at hlen
  apply List.ext_getElem
  · omega
  · intro t h1 h2
    have e1 : (hexD (hexWs l n))[t] = (hexD (hexWs l n)).getD t 0 := by simp [List.getD_eq_getElem?_getD, h1]
    have e2 : l[t] = l.getD t 0 := by simp [List.getD_eq_getElem?_getD, h2]
    rw [e1, e2]
    have a := hexD_at (hexWs l n) (t / 8) (t % 8) (by rw [hexWs_length]; omega) (by omega)
    rw [show 8 * (t / 8) + t % 8 = t by omega, hexWs_at l n (t / 8) (by omega)] at a
    rw [a]
    cases hp : pv l (8 * (t / 8)) 8 with
    | none => exact absurd hp (h _ (by omega))
    | some x =>
      have b := hex_of_pv l _ x hp (t % 8) (by omega)
      rw [show 8 * (t / 8) + t % 8 = t by omega] at b
      rw [← b]
      have hm : t % 8 < 8 := by omega
      generalize t % 8 = j at hm
      match j, hm with
      | 0, _ | 1, _ | 2, _ | 3, _ | 4, _ | 5, _ | 6, _ | 7, _ => rfl
theorem hexWs_wds (l : List Int) (n : Nat) : Wds (hexWs l n) := by
  intro i
  by_cases h : i < n
  · rw [hexWs_at l n i h]
    cases hp : pv l (8 * i) 8 with
    | none => simp
    | some x =>
      have := pv_bound l _ 8 x hp
      rw [show (16 : Int) ^ 8 = 4294967296 by decide] at this
      exact this
  · have := hexWs_length l n
    simp [List.getD_eq_getElem?_getD, List.getElem?_eq_none (show (hexWs l n).length ≤ i by omega)]
end Go.Proofs.YtbpdmkohihgnjaaDoor.V
