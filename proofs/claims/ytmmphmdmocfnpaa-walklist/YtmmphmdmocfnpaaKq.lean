/- WalkKeeps 5: pure facts. -/
import Derived.Test.YtmmphmdmocfnpaaKp
namespace Go.Proofs.Ytmmphmdmocfnpaa
open Go.RowKit
set_option maxRecDepth 100000
theorem inn_wc (m : MS) (c i p : Int) : ∀ k, (m.wc c).inn i p k = m.inn i p k
  | 0 => rfl
  | k + 1 => by rw [MS.inn, MS.inn, inn_wc m c i p k]; rfl
theorem lst_wc (m : MS) (c l : Int) : ∀ k, (m.wc c).lst l k = m.lst l k
  | 0 => rfl
  | k + 1 => by
    rw [MS.lst, MS.lst, lst_wc m c l k]
    rw [show (m.wc c).f1E l (k : Int) = m.f1E l (k : Int) from rfl, show (m.wc c).f1 l (k : Int) = m.f1 l (k : Int) from rfl, inn_wc]
theorem enc_range (x : Mg) : 0 ≤ x.sd.enc ∧ x.sd.enc < 4294967296 := by
  have h1 := wi_range x.p 0 8 (by decide)
  have h2 := wi_range x.p 0 4 (by decide)
  unfold Mp.enc
  rw [if_pos x.sd_err]
  unfold Mp.code Mg.sd b2
  split <;> simp only <;> (repeat' split) <;> omega
theorem tabs_U : ∀ t, t ≤ 3 → (tabs t).U
  | 0, _ => MS.U.new 8 4
  | t + 1, h => (tabs_U t (by omega)).write _ _ _ _ (by omega) (by omega)
theorem mpd_U (L : Nat → Mg) : ∀ k, (mpd L k).U
  | 0 => tabs_U 3 (by decide)
  | k + 1 => (mpd_U L k).write _ _ _ _ (enc_range _).1 (enc_range _).2
def mk (x : Int) (n : Nat) : List (Int × Mp) := List.replicate n (x, Mp.z)
theorem mk_len (x : Int) (n : Nat) : (mk x n).length = n := by simp [mk]
theorem mk_succ (x : Int) (n : Nat) : mk x (n + 1) = mk x n ++ [(x, Mp.z)] := by simp [mk, List.replicate_succ']
theorem mk_at (x : Int) (n i : Nat) (h : i < n) : (mk x n)[i]? = some (x, Mp.z) := by simp [mk, h]
/-- Written so far. -/
def wr2 (x : Int) (A : List (Int × Mp)) (j : Nat) : List (Int × Mp) := mk x j ++ A.drop j
theorem wr2_len (x : Int) (A : List (Int × Mp)) (j : Nat) (h : j ≤ A.length) : (wr2 x A j).length = A.length := by rw [wr2, List.length_append, mk_len, List.length_drop]; omega
theorem wr2_zero (x : Int) (A : List (Int × Mp)) : wr2 x A 0 = A := rfl
theorem wr2_all (x : Int) (A : List (Int × Mp)) : wr2 x A A.length = mk x A.length := by simp [wr2]
theorem wr2_set (x : Int) (A : List (Int × Mp)) (j : Nat) (h : j < A.length) : (wr2 x A j).set j (x, Mp.z) = wr2 x A (j + 1) := by
  apply List.ext_getElem?
  intro i
  unfold wr2
  by_cases e : j = i
  · subst e
    rw [List.getElem?_set_self (by rw [List.length_append, mk_len, List.length_drop]; omega), List.getElem?_append_left (by rw [mk_len]; omega), mk_at _ _ _ (by omega)]
  · rw [List.getElem?_set_ne e]
    by_cases h1 : i < j
    · rw [List.getElem?_append_left (by rw [mk_len]; exact h1), List.getElem?_append_left (by rw [mk_len]; omega), mk_at _ _ _ h1, mk_at _ _ _ (by omega)]
    · rw [List.getElem?_append_right (by rw [mk_len]; omega), List.getElem?_append_right (by rw [mk_len]; omega), mk_len, mk_len, List.getElem?_drop, List.getElem?_drop]
      congr 1
      omega
theorem flat_set : ∀ (A : List (Int × Mp)) (j : Nat) (y : Int × Mp), j < A.length → (((((flat A).set (j * 5) (.int .u32 y.1)).set (j * 5 + 1) (.bool y.2.s)).set (j * 5 + 2) (.int .i64 y.2.p)).set (j * 5 + 3) (.bool y.2.wr)).set (j * 5 + 4) (.bool y.2.ex) = flat (A.set j y)
  | [], j, y, h => by simp at h
  | z :: A, 0, y, _ => by simp [flat, atC]
  | z :: A, j + 1, y, h => by
    have ih := flat_set A j y (by simpa using h)
    rw [List.set_cons_succ]
    show _ = atC z ++ flat (A.set j y)
    rw [← ih]
    have e : ∀ i, (j + 1) * 5 + i = (j * 5 + i) + 5 := fun i => by omega
    have e0 : (j + 1) * 5 = j * 5 + 5 := by omega
    rw [e 1, e 2, e 3, e 4, e0]
    show List.set (List.set (List.set (List.set (List.set (atC z ++ flat A) _ _) _ _) _ _) _ _) _ _ = _
    simp only [atC, List.cons_append, List.nil_append, List.set_cons_succ]
theorem own_store5 {x : World} {B : Nat} {g n cap : Nat} {C : List (Int × Mp)} (h : x.ownsRow B 67 5 (.slice (some ⟨g, 0, none⟩) n cap) n (flat C)) (j : Nat) (hj : j < C.length) (y : Int × Mp) {x' : World}
    (e : ((((x.setCell ⟨g, j * 5, none⟩ (.int .u32 y.1)).setCell ⟨g, j * 5 + 1, none⟩ (.bool y.2.s)).setCell ⟨g, j * 5 + 2, none⟩ (.int .i64 y.2.p)).setCell ⟨g, j * 5 + 3, none⟩ (.bool y.2.wr)).setCell ⟨g, j * 5 + 4, none⟩ (.bool y.2.ex) = x') :
    x'.ownsRow B 67 5 (.slice (some ⟨g, 0, none⟩) n cap) n (flat (C.set j y)) ∧ ButL [g] x x' := by
  subst e
  have h5 := ((((h.stored (j * 5) (.int .u32 y.1)).1.stored (j * 5 + 1) (.bool y.2.s)).1.stored (j * 5 + 2) (.int .i64 y.2.p)).1.stored (j * 5 + 3) (.bool y.2.wr)).1.stored (j * 5 + 4) (.bool y.2.ex)
  rw [flat_set C j y hj] at h5
  exact ⟨h5.1, ((((ButL.setCell x g (j * 5) _ (by simp)).trans (.setCell _ g (j * 5 + 1) _ (by simp))).trans (.setCell _ g (j * 5 + 2) _ (by simp))).trans (.setCell _ g (j * 5 + 3) _ (by simp))).trans (.setCell _ g (j * 5 + 4) _ (by simp))⟩
/-- The cells of an element of a row. -/
theorem row5 {x : World} {B : Nat} {g n cap : Nat} {C : List (Int × Mp)} (h : x.ownsRow B 67 5 (.slice (some ⟨g, 0, none⟩) n cap) n (flat C)) {j : Nat} {y : Int × Mp} (hj : C[j]? = some y) :
    x.cell? ⟨g, j * 5, none⟩ = some (.int .u32 y.1) ∧ x.cell? ⟨g, j * 5 + 1, none⟩ = some (.bool y.2.s) ∧ x.cell? ⟨g, j * 5 + 2, none⟩ = some (.int .i64 y.2.p) ∧ x.cell? ⟨g, j * 5 + 3, none⟩ = some (.bool y.2.wr) ∧ x.cell? ⟨g, j * 5 + 4, none⟩ = some (.bool y.2.ex) :=
  ⟨own_cell h (flatq_at C j y 0 hj (by decide)), own_cell h (flatq_at C j y 1 hj (by decide)), own_cell h (flatq_at C j y 2 hj (by decide)), own_cell h (flatq_at C j y 3 hj (by decide)), own_cell h (flatq_at C j y 4 hj (by decide))⟩
/-- Rows by their lists. -/
structure ZI (Z : List RowT) (Vs : List Value) (f : Nat → List (Int × Mp)) : Prop where
  len : Z.length = Vs.length
  at_ : ∀ i v, Vs[i]? = some v → Z[i]? = some (v, f i)
theorem ZI.mono {Z : List RowT} {Vs : List Value} {f f' : Nat → List (Int × Mp)} (h : ZI Z Vs f) (he : ∀ i, i < Vs.length → f i = f' i) : ZI Z Vs f' := ⟨h.len, fun i v hv => by rw [h.at_ i v hv, he i (List.getElem?_eq_some_iff.1 hv).1]⟩
theorem ZI.snoc {Z : List RowT} {Vs : List Value} {A : List (Int × Mp)} (h : ZI Z Vs (fun _ => A)) (v : Value) : ZI (Z ++ [(v, A)]) (Vs ++ [v]) (fun _ => A) := by
  refine ⟨by simp [h.len], fun i u hu => ?_⟩
  by_cases hi : i < Vs.length
  · rw [List.getElem?_append_left hi] at hu
    rw [List.getElem?_append_left (by rw [h.len]; exact hi)]
    exact h.at_ i u hu
  · rw [List.getElem?_append_right (by omega)] at hu
    rw [List.getElem?_append_right (by rw [h.len]; omega), h.len]
    obtain ⟨h1, h2⟩ := List.getElem?_eq_some_iff.1 hu
    simp only [List.length_singleton] at h1
    have hz : i - Vs.length = 0 := by omega
    rw [hz] at hu ⊢
    simp only [List.getElem?_cons_zero, Option.some.injEq] at hu ⊢
    rw [hu]
theorem ZI.set {Z : List RowT} {Vs : List Value} {f f' : Nat → List (Int × Mp)} (h : ZI Z Vs f) {t : Nat} {v : Value} (hv : Vs[t]? = some v) (he : ∀ i, i ≠ t → f i = f' i) : ZI (Z.set t (v, f' t)) Vs f' := by
  refine ⟨by simp [h.len], fun i u hu => ?_⟩
  by_cases e : t = i
  · subst e
    rw [hv] at hu
    rw [List.getElem?_set_self (by rw [h.len]; exact (List.getElem?_eq_some_iff.1 hv).1), Option.some.inj hu]
  · rw [List.getElem?_set_ne e, h.at_ i u hu, he i (fun h => e h.symm)]
end Go.Proofs.Ytmmphmdmocfnpaa
