import Derived.Test.YtncnogndopgknaaGreatDoorP31
import Derived.Test.YtncnogndopgknaaGreatDoorP29
namespace Go.Proofs.YtncnogndopgknaaGreatDoor
open Go.RowKit
namespace A
end A
end Go.Proofs.YtncnogndopgknaaGreatDoor
namespace Go.Proofs.YtncnogndopgknaaGreatDoor
open Go.RowKit
set_option maxRecDepth 100000
set_option maxHeartbeats 4000000
namespace T
structure Pw (w : List UInt8) : Prop where
  ne : w ≠ []
  gap : ∀ c ∈ w, isGap c = false
  h1 : (w.headD 0).toNat ≠ 35
  h2 : (w.headD 0).toNat ≠ 34
theorem plainN_append (w t : List UInt8) (h : ∀ c ∈ w, isGap c = false) (ht : parted t = true) : plainN (w ++ t) = w.length := by
  induction w with
  | nil =>
    cases t with
    | nil => rfl
    | cons c t =>
      simp only [parted] at ht
      simp [plainN, ht]
  | cons c w ih =>
    rw [List.cons_append, plainN_pos _ (h c (by simp)), ih (fun x hx => h x (by simp [hx]))]
    rfl
theorem rd_word (w t : List UInt8) (p : Nat) (h : Pw w) (ht : parted t = true) : rd (w ++ t) p = cons ⟨w, false, p + 1⟩ (rd t (p + w.length)) := by
  obtain ⟨ne, gap, h1, h2⟩ := h
  cases w with
  | nil => exact absurd rfl ne
  | cons c w =>
    have hp := plainN_append (c :: w) t gap ht
    rw [List.cons_append] at hp ⊢
    rw [rd_plain (w ++ t) p (gap c (by simp)) h1 h2, hp]
    rw [← List.cons_append, List.take_left' rfl, List.drop_left' rfl]
def wdsAt : List (List UInt8) → Nat → List Wd
  | [], _ => []
  | w :: ws, p => ⟨w, false, p + 2⟩ :: wdsAt ws (p + 1 + w.length)
def okb (c : UInt8) : Bool := isLet c || isDig c || c.toNat == 45 || c.toNat == 58
theorem okb_gap {c : UInt8} (h : okb c = true) : isGap c = false ∧ c.toNat ≠ 35 ∧ c.toNat ≠ 34 ∧ c ≠ 10 := by
  simp only [okb, isLet, isDig, Bool.or_eq_true, Bool.and_eq_true, decide_eq_true_eq, beq_iff_eq] at h
  refine ⟨?_, by omega, by omega, ?_⟩
  · simp only [isGap, Bool.or_eq_false_iff, beq_eq_false_iff_ne]
    omega
  · rintro rfl
    simp at h
theorem pw_of {w : List UInt8} (h0 : w ≠ []) (h : w.all okb = true) : Pw w := by
  rw [List.all_eq_true] at h
  cases w with
  | nil => exact absurd rfl h0
  | cons c t => exact ⟨h0, fun x hx => (okb_gap (h x hx)).1, (okb_gap (h c (by simp))).2.1, (okb_gap (h c (by simp))).2.2.1⟩
theorem dec_ok (u : Nat) : (Lib.decDigits u).all okb = true := by
  rw [List.all_eq_true]
  intro c hc
  have := List.all_eq_true.1 (decDigits_all u) c hc
  simp [okb, this]
theorem dec_name (u : Nat) (t : List UInt8) : name (Lib.decDigits u ++ t) = false := by
  have hn := decDigits_ne u
  have hd : isLet ((Lib.decDigits u ++ t).headD 0) = false := by
    rw [headD_append _ _ hn]
    cases hD : Lib.decDigits u with
    | nil => exact absurd hD hn
    | cons c r =>
      have := List.all_eq_true.1 (decDigits_all u) c (by rw [hD]; simp)
      simp only [isDig, Bool.and_eq_true, decide_eq_true_eq] at this
      have h97 : ¬ 97 ≤ c.toNat := by omega
      simp [isLet, h97]
  unfold name
  rw [hd]
  simp
end T
namespace S
open A
theorem u32_nat (n : Nat) (h : n < 4294967296) : u32 (n : Int) = n := by unfold u32; omega
theorem i32_u32 (v : Int) (h0 : -2147483648 ≤ v) (h1 : v ≤ 2147483647) : i32 (u32 v) = v := by
  unfold i32 u32
  split <;> omega
def vl (i : Ins) (l : Nat) : Nat := if l = 97 then i.a.toNat else if l = 98 then i.b.toNat else if l = 99 then i.c.toNat else if l = 107 then i.cond.toNat else u32 i.imm
theorem between_itoa (v lo hi : Int) (h0 : lo ≤ v) (h1 : v ≤ hi) (l0 : -2147483648 ≤ lo) (l1 : hi ≤ 2147483647) : between (Lib.itoa v) lo hi = some (u32 v) := by
  unfold between
  rw [T.signed_itoa v (by omega) (by omega)]
  simp only
  rw [if_pos ⟨h0, h1⟩]
theorem register_dec (a : Int) (h0 : 0 ≤ a) (h1 : a ≤ 14) : register (114 :: Lib.decDigits a.toNat) = some a.toNat := by
  obtain ⟨n, rfl⟩ := Int.eq_ofNat_of_zero_le h0
  have hb := between_itoa (n : Int) 0 14 h0 h1 (by decide) (by decide)
  rw [Lib.itoa_nonneg, u32_nat n (by omega)] at hb
  unfold register
  rw [if_pos (by simp [List.isPrefixOf])]
  exact hb
theorem cond_all : ∀ c < 7, condOf (condT.getD c []) = some c := by decide +kernel
theorem cndI_eq (c : Int) (h0 : 0 ≤ c) (h1 : c ≤ 6) : (cndI c).data.toList = condT.getD c.toNat [] := by
  unfold cndI cnd
  rw [if_pos (by omega)]
end S
end Go.Proofs.YtncnogndopgknaaGreatDoor
namespace Go.Proofs.YtncnogndopgknaaGreatDoor
open Go.RowKit
set_option maxRecDepth 100000
set_option maxHeartbeats 4000000
namespace S
open A
theorem name_okb : ∀ n < 25, 1 ≤ n → (nameT.getD n []).all T.okb = true ∧ nameT.getD n [] ≠ [] ∧ nameT.getD n [] ≠ wordN ∧ nameT.getD n [] ≠ liN ∧ nameT.getD n [] ≠ zeroN ∧ (nameT.getD n []).length ≤ 4 := by decide +kernel
theorem cond_okb : ∀ n < 7, (condT.getD n []).all T.okb = true ∧ condT.getD n [] ≠ [] ∧ (condT.getD n []).length ≤ 2 := by decide +kernel
def osAt (f : Nat → List UInt8) (g : Nat → Nat → Opn) : List Nat → Nat → List Opn
  | [], _ => []
  | l :: L, p => g l (p + 2) :: osAt f g L (p + 1 + (f l).length)
theorem lats_none (k : Kd) (os : List Opn) (p line : Nat) (h : ∀ o ∈ os, o.lab = []) : lats k os p line = [] := by
  unfold lats
  rw [List.map_eq_nil_iff, List.filter_eq_nil_iff]
  intro i hi
  rw [List.mem_range] at hi
  simp only [List.getD_eq_getElem?_getD, List.getElem?_eq_getElem hi, Option.getD_some, decide_eq_true_eq, Decidable.not_not]
  exact h _ (List.getElem_mem hi)
structure Fix (t : Lt) (w : Nat) (lb : List UInt8) : Prop where
  lab : (t.ops.getD t.at' ⟨0, [], 0⟩).lab = lb
  ltr : (t.k.shape.map (·.toNat)).getD t.at' 0 = 111
  wd : words t.k (t.ops.set t.at' { t.ops.getD t.at' ⟨0, [], 0⟩ with val := u32 (dec w).imm }) = [w]
theorem hexed_okb (w : Nat) : (T.hexed8 w).all T.okb = true ∧ T.hexed8 w ≠ [] ∧ T.name (T.hexed8 w) = false := by
  refine ⟨?_, by simp [T.hexed8], ?_⟩
  · unfold T.hexed8
    rw [List.all_append]
    rw [T.hexT8_hx, T.hx]
    rw [Bool.and_eq_true]
    refine ⟨by decide, ?_⟩
    rw [List.all_map, List.all_eq_true]
    intro i _
    have hd : ∀ d < 16, T.okb (T.hexD d) = true := by decide +kernel
    exact hd _ (Nat.mod_lt _ (by decide))
  · unfold T.name T.hexed8
    have : T.isLet (([48, 120] ++ T.hexT8 w 8 : List UInt8).headD 0) = false := by rw [List.cons_append, List.headD_cons]; decide
    rw [this]
    simp
end S
end Go.Proofs.YtncnogndopgknaaGreatDoor
namespace Go.Proofs.YtncnogndopgknaaGreatDoor
open Go.RowKit
set_option maxRecDepth 100000
set_option maxHeartbeats 4000000
namespace S
open A
theorem nm_iff (ws : List Nat) (j : Nat) : nmAt ws j ≠ [] ↔ met ws ws.length j = true := by
  unfold nmAt
  split
  · rename_i h; simp [h]
  · rename_i h; simp [h]
theorem dec_len5 (u k : Nat) (h : u < 10 ^ (k + 1)) : (Lib.decDigits u).length ≤ k + 1 := by
  rw [Lib.decDigits_length]
  exact T.nDigits_le k u h
theorem nm_good (ws : List Nat) (j : Nat) (hj : nmAt ws j ≠ []) (h : j ≤ 2048) : T.name (nmAt ws j) = true ∧ (nmAt ws j).all T.okb = true ∧ (nmAt ws j).length ≤ 5 := by
  have mj := (nm_iff ws j).1 hj
  have hc := cnt_le ws j
  have hl := dec_len5 (cnt ws j) 3 (by omega)
  unfold nmAt
  rw [if_pos mj]
  have hd := T.decDigits_all (cnt ws j)
  have hk : (Lib.decDigits (cnt ws j)).all T.okc = true := by
    rw [List.all_eq_true] at hd ⊢
    intro c hc
    simp [T.okc, hd c hc]
  refine ⟨?_, ?_, ?_⟩
  · unfold T.name
    rw [List.all_cons, hk, List.headD_cons, List.length_cons]
    simp only [Bool.and_eq_true, decide_eq_true_eq]
    exact ⟨⟨⟨by omega, by omega⟩, by decide⟩, by decide⟩
  · rw [List.all_cons, T.dec_ok]; decide
  · rw [List.length_cons]; omega
def labsU (ws : List Nat) : Nat → List (List UInt8 × Nat)
  | 0 => []
  | p + 1 => labsU ws p ++ (if nmAt ws p = [] then [] else [(nmAt ws p, p)])
theorem look_append (a b : List (List UInt8 × Nat)) (n : List UInt8) : look (a ++ b) n = match look a n with | some x => some x | none => look b n := by
  unfold look
  rw [List.find?_append]
  cases a.find? (fun x => x.1 == n) <;> rfl
theorem has_look : ∀ (a : List (List UInt8 × Nat)) (n : List UInt8), has a n = (look a n).isSome
  | [], n => rfl
  | x :: a, n => by
    have ih := has_look a n
    unfold has look at ih ⊢
    rw [List.any_cons, List.find?_cons]
    cases h : x.1 == n
    · simpa using ih
    · rfl
def rowL (ws : List Nat) (p : Nat) : List (List UInt8) := (if nmAt ws p = [] then [] else [nmAt ws p ++ [58]]) ++ (if p < ws.length then [lin (ws.getD p 0 : Nat) (lab ws p)] else [])
theorem cut_rows : ∀ (R : List (List UInt8)), (∀ l ∈ R, ∀ c ∈ l, c ≠ 10) → T.cutL (R.flatMap (· ++ [10])) = R ++ [[]]
  | [], _ => rfl
  | l :: R, h => by
    have ih := cut_rows R (fun x hx => h x (by simp [hx]))
    rw [List.flatMap_cons, List.append_assoc, List.singleton_append, T.cutL_line l _ (h l (by simp)), ih]
    rfl
theorem lines_rows (R : List (List UInt8)) (h : ∀ l ∈ R, ∀ c ∈ l, c ≠ 10) : T.lines (R.flatMap (· ++ [10])) = R := by
  have := cut_rows R h
  unfold T.lines
  simp only [this]
  simp
theorem okb_no10 {l : List UInt8} (h : l.all T.okb = true) : ∀ c ∈ l, c ≠ 10 := fun c hc => (T.okb_gap (List.all_eq_true.1 h c hc)).2.2.2
theorem tg_facts {ws : List Nat} {p g : Nat} (h : tg ws p = some g) : decE (ws.getD p 0 : Nat) = 0 ∧ ((dec (ws.getD p 0 : Nat)).op = 21 ∨ (dec (ws.getD p 0 : Nat)).op = 22) ∧ (g : Int) = p + 1 + (dec (ws.getD p 0 : Nat)).imm ∧ g ≤ ws.length := by
  have hle := tg_le h
  unfold tg tgt at h
  split at h
  · rename_i hc
    obtain ⟨h1, h2, h3, h4⟩ := hc
    injection h with h
    exact ⟨h1, h2, by omega, hle⟩
  · cases h
theorem met_tg {ws : List Nat} {p g : Nat} (hp : p < ws.length) (h : tg ws p = some g) : met ws ws.length g = true := by
  unfold met
  rw [List.any_eq_true]
  exact ⟨p, by simpa using hp, by rw [h]; simp⟩
theorem lab_facts (ws : List Nat) (hn : ws.length ≤ 2048) (p : Nat) (hp : p < ws.length) : (lab ws p).all T.okb = true ∧ (lab ws p ≠ [] → T.name (lab ws p) = true ∧ decE (ws.getD p 0 : Nat) = 0 ∧ ((dec (ws.getD p 0 : Nat)).op = 21 ∨ (dec (ws.getD p 0 : Nat)).op = 22)) ∧ (lab ws p).length ≤ 5 ∧ (lab ws p ≠ [] → ∃ g, tg ws p = some g ∧ lab ws p = nmAt ws g) := by
  unfold lab
  cases h : tg ws p with
  | none => exact ⟨rfl, fun h => absurd rfl h, by simp, fun h => absurd rfl h⟩
  | some g =>
    obtain ⟨h1, h2, h3, h4⟩ := tg_facts h
    have hm := (nm_iff ws g).2 (met_tg hp h)
    have hg := nm_good ws g hm (by omega)
    exact ⟨hg.2.1, fun _ => ⟨hg.1, h1, h2⟩, hg.2.2, fun _ => ⟨g, rfl, rfl⟩⟩
structure Rd (ws : List Nat) (p : Nat) (st : St) : Prop where
  len : st.ws.length = p
  labs : st.labs = labsU ws p
  lat : ∀ t ∈ st.lat, t.place < p ∧ ∃ g, tg ws t.place = some g ∧ nmAt ws g ≠ [] ∧ Fix t (ws.getD t.place 0) (nmAt ws g)
  cur : ∀ q, q < p → st.ws.getD q 0 = ws.getD q 0 ∨ ∃ t ∈ st.lat, t.place = q
theorem lines_cons2 (st : St) (n : Nat) (l : List UInt8) (ls : List (List UInt8)) {wds : List T.Wd} {st' : St} (h1 : T.rd l 0 = .inr wds) (h2 : lay (n + 1) st wds = .inr st') : lines st n (l :: ls) = lines st' (n + 1) ls := by
  rw [lines, h1]
  simp only [h2]
theorem over_one (cur : List Nat) (p w : Nat) (hp : p < cur.length) : over cur p [w] = cur.set p w := by
  unfold over
  have h1 : List.take (cur.length - p) [w] = [w] := List.take_of_length_le (by rw [List.length_singleton]; omega)
  rw [List.set_eq_take_append_cons_drop, if_pos hp, h1]
  simp
theorem opnd_len (i : Ins) (L : List Nat) (hL : L ∈ nine) (hg : Good i L) (lb : List UInt8) (hlb : lb.length ≤ 5) (l : Nat) : (opnd i l lb).length ≤ 6 ∧ (l = 97 ∨ l = 98 ∨ l = 99 → (opnd i l lb).length ≤ 3) := by
  have hb := good_bounds hL hg
  obtain ⟨a0, a1, b0, b1, c0, c1, k0, k1, m0, m1, _⟩ := hb
  have hd : ∀ a : Int, 0 ≤ a → a ≤ 14 → (114 :: Lib.decDigits a.toNat).length ≤ 3 := fun a h0 h1 => by
    have := dec_len5 a.toNat 1 (by omega)
    rw [List.length_cons]; omega
  have h1 := hd _ a0 a1
  have h2 := hd _ b0 b1
  have h3 := hd _ c0 c1
  have h4 : (Lib.itoa i.imm).length ≤ 6 := by
    by_cases h : 0 ≤ i.imm
    · obtain ⟨u, hu⟩ := Int.eq_ofNat_of_zero_le h
      rw [hu, Lib.itoa_nonneg]
      have := dec_len5 u 4 (by omega)
      omega
    · obtain ⟨u, hu⟩ := Int.eq_ofNat_of_zero_le (show 0 ≤ -i.imm by omega)
      rw [show i.imm = -(u : Int) by omega, Lib.itoa_neg u (by omega), List.length_cons]
      have := dec_len5 u 4 (by omega)
      omega
  unfold opnd
  split
  · exact ⟨by omega, fun _ => h1⟩
  · split
    · exact ⟨by omega, fun _ => h2⟩
    · split
      · exact ⟨by omega, fun _ => h3⟩
      · split
        · rw [cndI_eq i.cond k0 k1]
          have := (cond_okb i.cond.toNat (by omega)).2.2
          exact ⟨by omega, fun h => by omega⟩
        · split
          · exact ⟨by omega, fun h => by omega⟩
          · exact ⟨h4, fun h => by omega⟩
theorem lin_len (w : Nat) (lb : List UInt8) (hlb : lb.length ≤ 5) : (lin w lb).length ≤ 20 := by
  by_cases hw : decE w = 0
  · obtain ⟨he, hc⟩ := dec_yes hw
    obtain ⟨n, hn, n1, n2, hL, hg⟩ := chk_zero hc
    have e1 : (namI (dec w).op).data.toList = nameT.getD n [] := by unfold namI; rw [hn, if_pos (by omega)]; rfl
    have e2 : shpI (dec w).op = shp n := by unfold shpI; rw [hn, if_pos (by omega)]; rfl
    have hnm := (name_okb n n2 n1).2.2.2.2.2
    have ho := fun l => opnd_len (dec w) _ hL hg lb hlb l
    unfold lin
    rw [if_pos hw]
    unfold lineOf opnds
    rw [e1, e2, List.length_append]
    have h1 := ho 97
    have h2 := ho 98
    have h3 := ho 99
    have h4 := ho 107
    have h5 := ho 117
    have h6 := ho 115
    have h7 := ho 111
    simp only [nine, List.mem_cons, List.not_mem_nil, or_false] at hL
    have hs : ((ltr (shp n)).flatMap fun l => 32 :: opnd (dec w) l lb).length ≤ 15 := by
      rcases hL with h | h | h | h | h | h | h | h | h <;> rw [h] <;> simp only [List.flatMap_cons, List.flatMap_nil, List.length_append, List.length_cons, List.length_nil] <;> omega
    omega
  · unfold lin
    rw [if_neg hw]
    simp [T.hexed8_length]
theorem row_len (ws : List Nat) (hn : ws.length ≤ 2048) (p : Nat) (hp : p ≤ ws.length) : (row ws p).length ≤ 28 := by
  unfold row
  rw [List.length_append]
  have h1 : (if nmAt ws p = [] then ([] : List UInt8) else nmAt ws p ++ [58, 10]).length ≤ 7 := by
    split
    · simp
    · rename_i h
      have := (nm_good ws p h (by omega)).2.2
      simp only [List.length_append, List.length_cons, List.length_nil]
      omega
  have h2 : (if p < ws.length then lin (ws.getD p 0 : Nat) (lab ws p) ++ [10] else ([] : List UInt8)).length ≤ 21 := by
    split
    · rename_i h
      have := lin_len (ws.getD p 0) (lab ws p) (lab_facts ws hn p h).2.2.1
      simp only [List.length_append, List.length_cons, List.length_nil]
      omega
    · simp
  omega
theorem txt_len (ws : List Nat) (hn : ws.length ≤ 2048) : ∀ k, k ≤ ws.length + 1 → (txt ws k).length ≤ 28 * k
  | 0, _ => by simp [txt]
  | k + 1, hk => by
    have := txt_len ws hn k (by omega)
    have := row_len ws hn k (by omega)
    rw [txt_succ, List.length_append]
    omega
end S
end Go.Proofs.YtncnogndopgknaaGreatDoor
