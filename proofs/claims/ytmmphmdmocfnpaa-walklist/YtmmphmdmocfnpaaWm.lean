/- WalkList: what is listed; how many. -/
import Derived.Test.YtmmphmdmocfnpaaWl
namespace Go.Proofs.Ytmmphmdmocfnpaa
open Go.RowKit
set_option maxRecDepth 100000
theorem inn_mem (m : MS) (i p : Int) (z : Int × Mp) : ∀ n, z ∈ m.inn i p n ↔ ∃ j : Nat, j < n ∧ m.f2E p (j : Int) = 0 ∧ z = (jW i (j : Int) 0, m.f2 p (j : Int))
  | 0 => by simp [MS.inn]
  | n + 1 => by
    rw [MS.inn, List.mem_append, inn_mem m i p z n]
    constructor
    · rintro (⟨j, h1, h2⟩ | h)
      · exact ⟨j, by omega, h2⟩
      · split at h
        · rename_i he
          rw [List.mem_singleton] at h
          exact ⟨n, by omega, he, h⟩
        · cases h
    · rintro ⟨j, h1, h2, h3⟩
      by_cases e : j = n
      · subst e
        right
        rw [if_pos h2, h3]
        simp
      · exact .inl ⟨j, by omega, h2, h3⟩
theorem lst_mem (m : MS) (l : Int) (z : Int × Mp) : ∀ n, z ∈ m.lst l n ↔ ∃ i : Nat, i < n ∧ m.f1E l (i : Int) = 0 ∧ z ∈ m.inn (i : Int) (m.f1 l (i : Int)) 1024
  | 0 => by simp [MS.lst]
  | n + 1 => by
    rw [MS.lst, List.mem_append, lst_mem m l z n]
    constructor
    · rintro (⟨j, h1, h2⟩ | h)
      · exact ⟨j, by omega, h2⟩
      · split at h
        · rename_i he
          exact ⟨n, by omega, he, h⟩
        · cases h
    · rintro ⟨j, h1, h2, h3⟩
      by_cases e : j = n
      · subst e
        right
        rw [if_pos h2]
        exact h3
      · exact .inl ⟨j, by omega, h2, h3⟩
theorem jW_eq (i j : Nat) (hi : i < 256) (hj : j < 1024) : jW (i : Int) (j : Int) 0 = (i : Int) * 4194304 + (j : Int) * 4096 := by
  unfold jW
  rw [if_pos (by unfold JoinOk; omega)]
  omega
theorem inn_sorted (m : MS) (i : Nat) (hi : i < 256) (p : Int) : ∀ n, n ≤ 1024 → (m.inn (i : Int) p n).Pairwise (fun x y => x.1 < y.1) ∧ ∀ z ∈ m.inn (i : Int) p n, (i : Int) * 4194304 ≤ z.1 ∧ z.1 < (i : Int) * 4194304 + (n : Int) * 4096
  | 0, _ => by simp [MS.inn]
  | n + 1, hn => by
    obtain ⟨h1, h2⟩ := inn_sorted m i hi p n (by omega)
    rw [MS.inn]
    refine ⟨?_, fun z hz => ?_⟩
    · rw [List.pairwise_append]
      refine ⟨h1, by split <;> simp, fun x hx y hy => ?_⟩
      split at hy
      · rw [List.mem_singleton] at hy
        subst hy
        simp only
        rw [jW_eq i n hi (by omega)]
        exact (h2 x hx).2
      · cases hy
    · rcases List.mem_append.1 hz with hz | hz
      · have := h2 z hz; omega
      · split at hz
        · rw [List.mem_singleton] at hz
          subst hz
          simp only
          rw [jW_eq i n hi (by omega)]
          omega
        · cases hz
theorem lst_sorted (m : MS) (l : Int) : ∀ n, n ≤ 256 → (m.lst l n).Pairwise (fun x y => x.1 < y.1) ∧ ∀ z ∈ m.lst l n, 0 ≤ z.1 ∧ z.1 < (n : Int) * 4194304
  | 0, _ => by simp [MS.lst]
  | n + 1, hn => by
    obtain ⟨h1, h2⟩ := lst_sorted m l n (by omega)
    obtain ⟨h3, h4⟩ := inn_sorted m n (by omega) (m.f1 l (n : Int)) 1024 (Nat.le_refl _)
    rw [MS.lst]
    refine ⟨?_, fun z hz => ?_⟩
    · rw [List.pairwise_append]
      refine ⟨h1, by split; exact h3; simp, fun x hx y hy => ?_⟩
      split at hy
      · have := h2 x hx; have := h4 y hy; omega
      · cases hy
    · rcases List.mem_append.1 hz with hz | hz
      · have := h2 z hz; omega
      · split at hz
        · have := h4 z hz; omega
        · cases hz
/-- The address of a place. -/
def pAd (a b : Int) : Int := ix a.toNat * 4194304 + b * 4096
theorem ix_cases (a : Nat) (ha : a < 3) : (a = 0 ∧ ix a = 5) ∨ (a = 1 ∧ ix a = 9) ∨ (a = 2 ∧ ix a = 255) := by
  rcases (show a = 0 ∨ a = 1 ∨ a = 2 by omega) with rfl | rfl | rfl
  · exact .inl ⟨rfl, rfl⟩
  · exact .inr (.inl ⟨rfl, rfl⟩)
  · exact .inr (.inr ⟨rfl, rfl⟩)
theorem mpd_mem (L : Nat → Mg) (n : Nat) (z : Int × Mp) : z ∈ (mpd L n).lst 0 256 ↔ ∃ (a b : Int) (x : Mg), (0 ≤ a ∧ a < 3) ∧ (0 ≤ b ∧ b < 1024) ∧ lastM L n a b = some x ∧ z = (pAd a b, x.sd) := by
  rw [lst_mem]
  constructor
  · rintro ⟨i, hi, h1, h2⟩
    have hx : ∃ a : Nat, a < 3 ∧ (i : Int) = ix a := by
      rcases Classical.em ((i : Int) = 5 ∨ (i : Int) = 9 ∨ (i : Int) = 255) with h | h
      · rcases h with h | h | h
        · exact ⟨0, by decide, h⟩
        · exact ⟨1, by decide, h⟩
        · exact ⟨2, by decide, h⟩
      · rw [mpd_f1n L n (i : Int) (by unfold In; omega) ⟨fun e => h (.inl e), fun e => h (.inr (.inl e)), fun e => h (.inr (.inr e))⟩] at h1
        cases h1
    obtain ⟨a, ha, hia⟩ := hx
    rw [hia, (mpd_f1 L n a ha).2, inn_mem] at h2
    obtain ⟨j, hj, h3, h4⟩ := h2
    cases hl : lastM L n (a : Int) (j : Int) with
    | none =>
      rw [mpd_f2n L n (a : Int) (j : Int) (by omega) (by unfold In; omega) hl] at h3
      cases h3
    | some x =>
      refine ⟨(a : Int), (j : Int), x, by omega, by omega, hl, ?_⟩
      rw [h4, (mpd_f2 L n (a : Int) (j : Int) (by omega) (by unfold In; omega) x hl).2, ← hia, jW_eq i j hi hj]
      unfold pAd
      rw [Int.toNat_natCast, hia]
  · rintro ⟨a, b, x, ha, hb, hl, rfl⟩
    have hia := ix_cases a.toNat (by omega)
    have hi0 : (0 : Int) ≤ ix a.toNat ∧ ix a.toNat < 256 := by omega
    refine ⟨(ix a.toNat).toNat, by omega, ?_⟩
    have e : (((ix a.toNat).toNat : Nat) : Int) = ix a.toNat := by omega
    rw [e]
    have h1 := mpd_f1 L n a.toNat (by omega)
    refine ⟨h1.1, ?_⟩
    rw [h1.2, inn_mem]
    have ea : ((a.toNat : Nat) : Int) = a := by omega
    have eb : ((b.toNat : Nat) : Int) = b := by omega
    have h2 := mpd_f2 L n a b ha (by unfold In; omega) x hl
    refine ⟨b.toNat, by omega, by rw [ea, eb]; exact h2.1, ?_⟩
    rw [ea, eb, h2.2]
    have hj := jW_eq (ix a.toNat).toNat b.toNat (by omega) (by omega)
    rw [e, eb] at hj
    rw [hj]
    rfl
def adr (x : Mg) (o : Int) : Int := ix (tI x).toNat * 4194304 + tJ x * 4096 + wi o 0 1024 * 4
theorem adr_zero (x : Mg) : adr x 0 = pAd (tI x) (tJ x) := by unfold adr pAd wi; simp
theorem pAd_inj {a b a' b' : Int} (ha : 0 ≤ a ∧ a < 3) (hb : 0 ≤ b ∧ b < 1024) (ha' : 0 ≤ a' ∧ a' < 3) (hb' : 0 ≤ b' ∧ b' < 1024) (h : pAd a b = pAd a' b') : a = a' ∧ b = b' := by
  unfold pAd at h
  have h1 := ix_cases a.toNat (by omega)
  have h2 := ix_cases a'.toNat (by omega)
  omega
def Pl (x y : Mg) : Prop := tI x = tI y ∧ tJ x = tJ y
theorem adr_same (x y : Mg) : adr x 0 = adr y 0 ↔ Pl x y := by
  rw [adr_zero, adr_zero]
  constructor
  · exact fun h => pAd_inj (tI_range x) (tJ_range x) (tI_range y) (tJ_range y) h
  · rintro ⟨h1, h2⟩; rw [h1, h2]
/-- What is asked for: the last map that was laid there. -/
def wnt (L : Nat → Mg) (i : Nat) : Nat → Bool × Mg
  | 0 => (false, L i)
  | n + 1 => if adr (L (i + 1 + n)) 0 = adr (L i) 0 then (true, L (i + 1 + n)) else wnt L i n
theorem wnt_last (L : Nat → Mg) (i : Nat) : ∀ n, lastM L (i + 1 + n) (tI (L i)) (tJ (L i)) = some (wnt L i n).2
  | 0 => by rw [Nat.add_zero, lastM, if_pos ⟨rfl, rfl⟩]; rfl
  | n + 1 => by
    rw [show i + 1 + (n + 1) = (i + 1 + n) + 1 from rfl, lastM, wnt]
    by_cases h : adr (L (i + 1 + n)) 0 = adr (L i) 0
    · rw [if_pos h, if_pos (show tI _ = tI _ ∧ tJ _ = tJ _ from (adr_same _ _).1 h)]
    · rw [if_neg h, if_neg (fun (hh : tI _ = tI _ ∧ tJ _ = tJ _) => h ((adr_same _ _).2 hh))]
      exact wnt_last L i n
theorem wnt_flag (L : Nat → Mg) (i : Nat) : ∀ n, (wnt L i n).1 = true ↔ ∃ k, i < k ∧ k < i + 1 + n ∧ Pl (L k) (L i)
  | 0 => by
    constructor
    · intro h; cases h
    · rintro ⟨k, h1, h2, _⟩; omega
  | n + 1 => by
    rw [wnt]
    by_cases h : adr (L (i + 1 + n)) 0 = adr (L i) 0
    · rw [if_pos h]
      exact ⟨fun _ => ⟨i + 1 + n, by omega, by omega, (adr_same _ _).1 h⟩, fun _ => rfl⟩
    · rw [if_neg h, wnt_flag L i n]
      constructor
      · rintro ⟨k, h1, h2, h3⟩; exact ⟨k, h1, by omega, h3⟩
      · rintro ⟨k, h1, h2, h3⟩
        by_cases e : k = i + 1 + n
        · subst e; exact absurd ((adr_same _ _).2 h3) h
        · exact ⟨k, h1, by omega, h3⟩
theorem last_idx (L : Nat → Mg) (a b : Int) : ∀ n x, lastM L n a b = some x → ∃ i, i < n ∧ L i = x ∧ (tI (L i) = a ∧ tJ (L i) = b) ∧ ∀ k, i < k → k < n → ¬ (tI (L k) = a ∧ tJ (L k) = b)
  | 0, x, h => by cases h
  | n + 1, x, h => by
    rw [lastM] at h
    by_cases e : tI (L n) = a ∧ tJ (L n) = b
    · rw [if_pos e] at h
      exact ⟨n, by omega, Option.some.inj h, e, fun k h1 h2 => by omega⟩
    · rw [if_neg e] at h
      obtain ⟨i, h1, h2, h3, h4⟩ := last_idx L a b n x h
      exact ⟨i, by omega, h2, h3, fun k k1 k2 hk => by
        by_cases ek : k = n
        · subst ek; exact e hk
        · exact h4 k k1 (by omega) hk⟩
theorem nodup_le : ∀ (l1 l2 : List Int), l1.Nodup → (∀ x ∈ l1, x ∈ l2) → l1.length ≤ l2.length
  | [], _, _, _ => Nat.zero_le _
  | a :: l1, l2, hn, hs => by
    have ha := hs a (by simp)
    obtain ⟨h1, h2⟩ := List.nodup_cons.1 hn
    have ih := nodup_le l1 (l2.erase a) h2 (fun x hx => (List.mem_erase_of_ne (fun e : x = a => h1 (e ▸ hx))).2 (hs x (by simp [hx])))
    rw [List.length_erase_of_mem ha] at ih
    have : 0 < l2.length := List.length_pos_of_mem ha
    simp only [List.length_cons]
    omega
/-- How many mappings of the first i are the last at their place. -/
def cnt (L : Nat → Mg) (K : Nat) (i : Nat) : Nat := ((List.range i).filter (fun i => !(wnt L i (K - (i + 1))).1)).length
theorem cnt_succ (L : Nat → Mg) (K i : Nat) : cnt L K (i + 1) = if (wnt L i (K - (i + 1))).1 = true then cnt L K i else cnt L K i + 1 := by
  unfold cnt
  rw [List.range_succ, List.filter_append, List.length_append]
  by_cases h : (wnt L i (K - (i + 1))).1 = true
  · rw [if_pos h]; simp [h]
  · rw [if_neg h]; simp [h]
theorem cnt_le (L : Nat → Mg) (K i : Nat) : cnt L K i ≤ i := by
  unfold cnt
  have := List.length_filter_le (fun i => !(wnt L i (K - (i + 1))).1) (List.range i)
  rw [List.length_range] at this
  exact this
theorem cnt_all (L : Nat → Mg) (K : Nat) : ((mpd L K).lst 0 256).length = cnt L K K := by
  have hs := (lst_sorted (mpd L K) 0 256 (Nat.le_refl _)).1
  let l2 : List Int := ((List.range K).filter (fun i => !(wnt L i (K - (i + 1))).1)).map (fun i => adr (L i) 0)
  have hf : ∀ i, i < K → ((wnt L i (K - (i + 1))).1 = false ↔ ∀ k, i < k → k < K → ¬ Pl (L k) (L i)) := fun i hi => by
    have h := wnt_flag L i (K - (i + 1))
    rw [show i + 1 + (K - (i + 1)) = K by omega] at h
    constructor
    · intro h1 k k1 k2 k3
      have := h.2 ⟨k, k1, k2, k3⟩
      rw [h1] at this
      cases this
    · intro h1
      cases hh : (wnt L i (K - (i + 1))).1 with
      | false => rfl
      | true =>
        obtain ⟨k, k1, k2, k3⟩ := h.1 hh
        exact absurd k3 (h1 k k1 k2)
  have n1 : (((mpd L K).lst 0 256).map (·.1)).Nodup := by
    unfold List.Nodup
    rw [List.pairwise_map]
    exact hs.imp (fun h e => by omega)
  have n2 : l2.Nodup := by
    unfold List.Nodup
    show List.Pairwise _ (List.map _ _)
    rw [List.pairwise_map]
    have hp : (List.filter (fun i => !(wnt L i (K - (i + 1))).1) (List.range K)).Pairwise (· < ·) := List.pairwise_lt_range.filter _
    refine hp.imp_of_mem (fun {i j} hi hj hlt e => ?_)
    simp only [List.mem_filter, List.mem_range, Bool.not_eq_true'] at hi hj
    have := (hf i hi.1).1 hi.2 j hlt hj.1
    exact this (((adr_same _ _).1 e.symm))
  have s12 : ∀ v ∈ ((mpd L K).lst 0 256).map (·.1), v ∈ l2 := by
    intro v hv
    obtain ⟨z, hz, rfl⟩ := List.mem_map.1 hv
    obtain ⟨a, b, x, ha, hb, hl, rfl⟩ := (mpd_mem L K z).1 hz
    obtain ⟨i, h1, h2, h3, h4⟩ := last_idx L a b K x hl
    show _ ∈ List.map _ _
    refine List.mem_map.2 ⟨i, ?_, ?_⟩
    · simp only [List.mem_filter, List.mem_range, Bool.not_eq_true']
      refine ⟨h1, (hf i h1).2 (fun k k1 k2 k3 => h4 k k1 k2 ⟨by rw [k3.1]; exact h3.1, by rw [k3.2]; exact h3.2⟩)⟩
    · simp only
      rw [adr_zero, h3.1, h3.2]
  have s21 : ∀ v ∈ l2, v ∈ ((mpd L K).lst 0 256).map (·.1) := by
    intro v hv
    obtain ⟨i, hi, rfl⟩ := List.mem_map.1 hv
    simp only [List.mem_filter, List.mem_range, Bool.not_eq_true'] at hi
    have hl := wnt_last L i (K - (i + 1))
    rw [show i + 1 + (K - (i + 1)) = K by omega] at hl
    refine List.mem_map.2 ⟨(pAd (tI (L i)) (tJ (L i)), (wnt L i (K - (i + 1))).2.sd), (mpd_mem L K _).2 ⟨_, _, _, tI_range _, tJ_range _, hl, rfl⟩, ?_⟩
    simp only
    rw [adr_zero]
  have e1 := nodup_le _ _ n1 s12
  have e2 := nodup_le _ _ n2 s21
  have e3 : l2.length = cnt L K K := by show (List.map _ _).length = _; rw [List.length_map]; rfl
  have e4 : (((mpd L K).lst 0 256).map (·.1)).length = ((mpd L K).lst 0 256).length := List.length_map ..
  rw [e3, e4] at e1 e2
  omega
end Go.Proofs.Ytmmphmdmocfnpaa
