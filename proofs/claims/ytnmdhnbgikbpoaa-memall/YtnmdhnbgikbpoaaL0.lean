/- Acts: ac plain lists. -/
import Derived.Test.YtnmdhnbgikbpoaaM8
namespace Go.Proofs.Ytnmdhnbgikbpoaa
open Go.RowKit
structure Ac where
  k : Int
  f : Int
  g : Int
  o : Int
  v : Int
def Ac.cs (a : Ac) : List Value := [.int .i64 a.k, .int .i64 a.f, .int .i64 a.g, .int .i64 a.o, .int .u32 a.v]
def rowL (v : Int) : List Int := (List.range 1024).map fun (i : Nat) => (v + (i : Int)) % 4294967296
theorem rowL_len (v : Int) : (rowL v).length = 1024 := by unfold rowL; rw [List.length_map, List.length_range]
theorem rowL_at (v : Int) (j : Nat) (hj : j < 1024) : wd (rowL v) j = (v + (j : Int)) % 4294967296 := by
  unfold wd rowL
  rw [List.getD_eq_getElem?_getD, List.getElem?_map, List.getElem?_range hj]
  rfl
def zp (P : List (List Int)) (k : Nat) : List Int := P.getD k []
def actP (P : List (List Int)) (a : Ac) : List (List Int) :=
  if a.k = 1 then P.set (a.f % 4).toNat ((zp P (a.f % 4).toNat).set (a.o % 1024).toNat a.v)
  else if a.k = 2 then P.set (a.f % 4).toNat zs
  else if a.k = 3 then P.set (a.f % 4).toNat (zp P (a.g % 4).toNat)
  else if a.k = 4 then P.set (a.f % 4).toNat (rowL a.v)
  else P
def P0 : List (List Int) := List.replicate 4 zs
def playP (ac : List Ac) (n : Nat) : List (List Int) := (ac.take n).foldl actP P0
theorem playP_zero (ac : List Ac) : playP ac 0 = P0 := rfl
theorem playP_succ (ac : List Ac) (n : Nat) (h : n < ac.length) : playP ac (n + 1) = actP (playP ac n) ac[n] := by
  unfold playP
  rw [List.take_succ_eq_append_getElem h, List.foldl_append]
  rfl
theorem actP_len (P : List (List Int)) (a : Ac) : (actP P a).length = P.length := by
  unfold actP
  split
  · simp
  split
  · simp
  split
  · simp
  split <;> simp
theorem playP_len (ac : List Ac) : ∀ n, (playP ac n).length = 4
  | 0 => by simp [playP_zero, P0]
  | n + 1 => by
    by_cases h : n < ac.length
    · rw [playP_succ ac n h, actP_len, playP_len ac n]
    · have e : playP ac (n + 1) = playP ac n := by
        unfold playP
        rw [List.take_of_length_le (by omega), List.take_of_length_le (by omega)]
      rw [e, playP_len ac n]
/-- What must stand there behind the first n acts. -/
def wordN (ac : List Ac) : Nat → Int → Int → Int
  | 0, _, _ => 0
  | n + 1, f, o => match ac[n]? with
    | none => wordN ac n f o
    | some a => if a.f % 4 ≠ f then wordN ac n f o
      else if a.k = 1 then (if a.o % 1024 = o then a.v else wordN ac n f o)
      else if a.k = 2 then 0
      else if a.k = 4 then (a.v + o) % 4294967296
      else if a.k = 3 then wordN ac n (a.g % 4) o
      else wordN ac n f o
theorem zp_set_self {P : List (List Int)} {k : Nat} {L : List Int} (h : k < P.length) : zp (P.set k L) k = L := by
  unfold zp; rw [List.getD_eq_getElem?_getD, List.getElem?_set_self h]; rfl
theorem zp_set_ne {P : List (List Int)} {k j : Nat} {L : List Int} (h : j ≠ k) : zp (P.set j L) k = zp P k := by
  unfold zp; rw [List.getD_eq_getElem?_getD, List.getElem?_set_ne h, ← List.getD_eq_getElem?_getD]
theorem wd_set_self {L : List Int} {k : Nat} {v : Int} (h : k < L.length) : wd (L.set k v) k = v := by
  unfold wd; rw [List.getD_eq_getElem?_getD, List.getElem?_set_self h]; rfl
theorem wd_set_ne {L : List Int} {k j : Nat} {v : Int} (h : j ≠ k) : wd (L.set j v) k = wd L k := by
  unfold wd; rw [List.getD_eq_getElem?_getD, List.getElem?_set_ne h, ← List.getD_eq_getElem?_getD]
theorem wd_zs (k : Nat) : wd zs k = 0 := by
  unfold wd zs; rw [List.getD_eq_getElem?_getD, List.getElem?_replicate]; split <;> rfl
theorem zp_P0 (k : Nat) (h : k < 4) : zp P0 k = zs := by
  unfold zp P0; rw [List.getD_eq_getElem?_getD, List.getElem?_replicate, if_pos h]; rfl
/-- All pages are whole. -/
def Full (P : List (List Int)) : Prop := P.length = 4 ∧ ∀ k, k < 4 → (zp P k).length = 1024
theorem full_act {P : List (List Int)} (h : Full P) (a : Ac) : Full (actP P a) := by
  refine ⟨by rw [actP_len, h.1], fun k hk => ?_⟩
  have hf : (a.f % 4).toNat < 4 := by omega
  have hg : (a.g % 4).toNat < 4 := by omega
  have key : ∀ L : List Int, L.length = 1024 → (zp (P.set (a.f % 4).toNat L) k).length = 1024 := fun L hL => by
    by_cases e : (a.f % 4).toNat = k
    · subst e; rw [zp_set_self (by rw [h.1]; exact hf), hL]
    · rw [zp_set_ne e]; exact h.2 k hk
  unfold actP
  split
  · exact key _ (by rw [List.length_set]; exact h.2 _ hf)
  split
  · exact key _ zs_len
  split
  · exact key _ (h.2 _ hg)
  split
  · exact key _ (rowL_len _)
  · exact h.2 k hk
theorem full_play (ac : List Ac) : ∀ n, Full (playP ac n)
  | 0 => ⟨by simp [playP_zero, P0], fun k hk => by rw [playP_zero, zp_P0 k hk, zs_len]⟩
  | n + 1 => by
    by_cases h : n < ac.length
    · rw [playP_succ ac n h]; exact full_act (full_play ac n) _
    · have e : playP ac (n + 1) = playP ac n := by
        unfold playP
        rw [List.take_of_length_le (by omega), List.take_of_length_le (by omega)]
      rw [e]; exact full_play ac n
theorem wordN_eq (ac : List Ac) : ∀ n, n ≤ ac.length → ∀ (f o : Int), 0 ≤ f → f < 4 → 0 ≤ o → o < 1024 → wd (zp (playP ac n) f.toNat) o.toNat = wordN ac n f o
  | 0, _, f, o, f0, f1, o0, o1 => by rw [playP_zero, zp_P0 _ (by omega), wd_zs]; rfl
  | n + 1, hn, f, o, f0, f1, o0, o1 => by
    have ih := wordN_eq ac n (by omega)
    have hF := full_play ac n
    rw [playP_succ ac n (by omega)]
    unfold wordN
    rw [List.getElem?_eq_getElem (by omega)]
    simp only
    generalize ac[n] = a at *
    by_cases hf : a.f % 4 = f
    · rw [if_neg (by simpa using hf)]
      have ef : (a.f % 4).toNat = f.toNat := by rw [hf]
      have hlt : f.toNat < (playP ac n).length := by rw [hF.1]; omega
      unfold actP
      rw [ef]
      by_cases h1 : a.k = 1
      · rw [if_pos h1, if_pos h1, zp_set_self hlt]
        by_cases ho : a.o % 1024 = o
        · rw [if_pos ho, ho, wd_set_self (by rw [hF.2 _ (by omega)]; omega)]
        · rw [if_neg ho, wd_set_ne (by omega)]
          exact ih f o f0 f1 o0 o1
      rw [if_neg h1, if_neg h1]
      by_cases h2 : a.k = 2
      · rw [if_pos h2, if_pos h2, zp_set_self hlt, wd_zs]
      rw [if_neg h2, if_neg h2]
      by_cases h3 : a.k = 3
      · have h4 : ¬ a.k = 4 := by omega
        rw [if_pos h3, if_neg h4, if_pos h3, zp_set_self hlt]
        exact ih _ o (by omega) (by omega) o0 o1
      rw [if_neg h3, if_neg h3]
      by_cases h4 : a.k = 4
      · rw [if_pos h4, if_pos h4, zp_set_self hlt, rowL_at _ _ (by omega)]
        congr 2; omega
      rw [if_neg h4, if_neg h4]
      exact ih f o f0 f1 o0 o1
    · rw [if_pos hf]
      have e : zp (actP (playP ac n) a) f.toNat = zp (playP ac n) f.toNat := by
        have hne : (a.f % 4).toNat ≠ f.toNat := by omega
        unfold actP
        split
        · exact zp_set_ne hne
        split
        · exact zp_set_ne hne
        split
        · exact zp_set_ne hne
        split
        · exact zp_set_ne hne
        · rfl
      rw [e]
      exact ih f o f0 f1 o0 o1
theorem wrap_wrap (n : Int) : wrap64 (wrap64 n) = wrap64 n := by unfold wrap64; omega
end Go.Proofs.Ytnmdhnbgikbpoaa
