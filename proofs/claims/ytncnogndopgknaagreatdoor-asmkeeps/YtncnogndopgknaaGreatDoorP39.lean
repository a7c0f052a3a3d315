import Derived.Test.YtncnogndopgknaaGreatDoorP38
namespace Go.Proofs.YtncnogndopgknaaGreatDoor
open Go.RowKit
set_option maxRecDepth 100000
set_option maxHeartbeats 4000000
namespace S
open A
theorem nm_iff (ws : List Nat) (j : Nat) : nmAt ws j ≠ [] ↔ met ws ws.length j = true := by
  unfold nmAt
  split
  · rename_i h; simp [h]
  · rename_i h; simp [h]
theorem cnt_mono (ws : List Nat) (j : Nat) : ∀ k, cnt ws j ≤ cnt ws (j + k)
  | 0 => Nat.le_refl _
  | k + 1 => by
    have := cnt_mono ws j k
    rw [← Nat.add_assoc, cnt_succ]
    split <;> omega
theorem cnt_lt (ws : List Nat) (j t : Nat) (hj : met ws ws.length j = true) (h : j < t) : cnt ws j < cnt ws t := by
  have h1 := cnt_mono ws (j + 1) (t - (j + 1))
  rw [show j + 1 + (t - (j + 1)) = t by omega, cnt_succ, if_pos hj] at h1
  omega
theorem nm_inj (ws : List Nat) (j t : Nat) (hj : nmAt ws j ≠ []) (h : nmAt ws j = nmAt ws t) : j = t := by
  have ht : nmAt ws t ≠ [] := by rw [← h]; exact hj
  have mj := (nm_iff ws j).1 hj
  have mt := (nm_iff ws t).1 ht
  unfold nmAt at h
  rw [if_pos mj, if_pos mt] at h
  have hc : cnt ws j = cnt ws t := by
    have := congrArg T.val (List.cons.inj h).2
    rw [T.decDigits_val, T.decDigits_val] at this
    exact this
  rcases Nat.lt_trichotomy j t with h1 | h1 | h1
  · have := cnt_lt ws j t mj h1; omega
  · exact h1
  · have := cnt_lt ws t j mt h1; omega
theorem dec_len5 (u k : Nat) (h : u < 10 ^ (k + 1)) : (Lib.decDigits u).length ≤ k + 1 := by
  rw [Lib.decDigits_length]
  exact T.nDigits_le k u h
theorem nm_good (ws : List Nat) (j : Nat) (hj : nmAt ws j ≠ []) (h : j ≤ 2048) : T.name (nmAt ws j) = true ∧ (nmAt ws j).all T.okb = true ∧ (nmAt ws j).length ≤ 5 := by
  have mj := (nm_iff ws j).1 hj
  have hc := cnt_le ws j
  have hl := dec_len5 (cnt ws j) 3 (by omega)
  unfold nmAt
  rw [if_pos mj]
  have hd := T.decDigits_all (cnt ws j)
  have hk : (Lib.decDigits (cnt ws j)).all T.okc = true := by
    rw [List.all_eq_true] at hd ⊢
    intro c hc
    simp [T.okc, hd c hc]
  refine ⟨?_, ?_, ?_⟩
  · unfold T.name
    rw [List.all_cons, hk, List.headD_cons, List.length_cons]
    simp only [Bool.and_eq_true, decide_eq_true_eq]
    exact ⟨⟨⟨by omega, by omega⟩, by decide⟩, by decide⟩
  · rw [List.all_cons, T.dec_ok]; decide
  · rw [List.length_cons]; omega
def labsU (ws : List Nat) : Nat → List (List UInt8 × Nat)
  | 0 => []
  | p + 1 => labsU ws p ++ (if nmAt ws p = [] then [] else [(nmAt ws p, p)])
theorem look_append (a b : List (List UInt8 × Nat)) (n : List UInt8) : look (a ++ b) n = match look a n with | some x => some x | none => look b n := by
  unfold look
  rw [List.find?_append]
  cases a.find? (fun x => x.1 == n) <;> rfl
theorem look_labs (ws : List Nat) (t : Nat) (ht : nmAt ws t ≠ []) : ∀ p, look (labsU ws p) (nmAt ws t) = if t < p then some t else none
  | 0 => rfl
  | p + 1 => by
    rw [labsU, look_append, look_labs ws t ht p]
    by_cases h1 : t < p
    · rw [if_pos h1]
      simp only
      rw [if_pos (show t < p + 1 by omega)]
    · rw [if_neg h1]
      simp only
      by_cases h2 : t = p
      · subst h2
        rw [if_neg ht, if_pos (by omega)]
        unfold look
        simp
      · rw [if_neg (show ¬ t < p + 1 by omega)]
        split
        · rfl
        · rename_i hp
          unfold look
          have : (nmAt ws p == nmAt ws t) = false := by
            rw [beq_eq_false_iff_ne]
            exact fun e => h2 (nm_inj ws p t hp e).symm
          simp [this]
theorem has_look : ∀ (a : List (List UInt8 × Nat)) (n : List UInt8), has a n = (look a n).isSome
  | [], n => rfl
  | x :: a, n => by
    have ih := has_look a n
    unfold has look at ih ⊢
    rw [List.any_cons, List.find?_cons]
    cases h : x.1 == n
    · simpa using ih
    · rfl
def rowL (ws : List Nat) (p : Nat) : List (List UInt8) := (if nmAt ws p = [] then [] else [nmAt ws p ++ [58]]) ++ (if p < ws.length then [lin (ws.getD p 0 : Nat) (lab ws p)] else [])
theorem row_rowL (ws : List Nat) (p : Nat) : row ws p = (rowL ws p).flatMap (· ++ [10]) := by
  unfold row rowL
  split <;> split <;> simp
theorem txt_rows (ws : List Nat) : ∀ k, txt ws k = ((List.range k).flatMap (rowL ws)).flatMap (· ++ [10])
  | 0 => rfl
  | k + 1 => by
    rw [txt_succ, txt_rows ws k, row_rowL, List.range_succ, List.flatMap_append, List.flatMap_append]
    simp
theorem cut_rows : ∀ (R : List (List UInt8)), (∀ l ∈ R, ∀ c ∈ l, c ≠ 10) → T.cutL (R.flatMap (· ++ [10])) = R ++ [[]]
  | [], _ => rfl
  | l :: R, h => by
    have ih := cut_rows R (fun x hx => h x (by simp [hx]))
    rw [List.flatMap_cons, List.append_assoc, List.singleton_append, T.cutL_line l _ (h l (by simp)), ih]
    rfl
theorem lines_rows (R : List (List UInt8)) (h : ∀ l ∈ R, ∀ c ∈ l, c ≠ 10) : T.lines (R.flatMap (· ++ [10])) = R := by
  have := cut_rows R h
  unfold T.lines
  simp only [this]
  simp
theorem okb_no10 {l : List UInt8} (h : l.all T.okb = true) : ∀ c ∈ l, c ≠ 10 := fun c hc => (T.okb_gap (List.all_eq_true.1 h c hc)).2.2.2
theorem lin_no10 (w : Nat) (lb : List UInt8) (hlb : lb.all T.okb = true) : (∀ c ∈ lin w lb, c ≠ 10) ∧ lin w lb ≠ [] := by
  by_cases hw : decE w = 0
  · obtain ⟨he, hc⟩ := dec_yes hw
    obtain ⟨n, hn, n1, n2, hL, hg⟩ := chk_zero hc
    have e1 : (namI (dec w).op).data.toList = nameT.getD n [] := by unfold namI; rw [hn, if_pos (by omega)]; rfl
    have hnm := name_okb n n2 n1
    unfold lin
    rw [if_pos hw]
    unfold lineOf opnds
    rw [e1]
    refine ⟨fun c hc => ?_, fun h => hnm.2.1 (List.append_eq_nil_iff.1 h).1⟩
    rw [List.mem_append, List.mem_flatMap] at hc
    rcases hc with hc | ⟨l, _, hc⟩
    · exact okb_no10 hnm.1 c hc
    · rcases List.mem_cons.1 hc with rfl | hc
      · decide
      · exact okb_no10 (opnd_okb (dec w) _ hL hg lb hlb l).1 c hc
  · have hx := hexed_okb w
    unfold lin
    rw [if_neg hw, Int.toNat_natCast]
    refine ⟨fun c hc => ?_, by simp⟩
    rw [List.mem_append] at hc
    rcases hc with hc | hc
    · revert c; decide
    · exact okb_no10 hx.1 c hc
theorem getD_lt {ws : List Nat} (hw : ∀ x ∈ ws, x < 4294967296) (p : Nat) : ws.getD p 0 < 4294967296 := by
  rw [List.getD_eq_getElem?_getD]
  cases h : ws[p]? with
  | none => decide
  | some x => exact hw x (List.mem_of_getElem? h)
theorem tg_facts {ws : List Nat} {p g : Nat} (h : tg ws p = some g) : decE (ws.getD p 0 : Nat) = 0 ∧ ((dec (ws.getD p 0 : Nat)).op = 21 ∨ (dec (ws.getD p 0 : Nat)).op = 22) ∧ (g : Int) = p + 1 + (dec (ws.getD p 0 : Nat)).imm ∧ g ≤ ws.length := by
  have hle := tg_le h
  unfold tg tgt at h
  split at h
  · rename_i hc
    obtain ⟨h1, h2, h3, h4⟩ := hc
    injection h with h
    exact ⟨h1, h2, by omega, hle⟩
  · cases h
theorem met_tg {ws : List Nat} {p g : Nat} (hp : p < ws.length) (h : tg ws p = some g) : met ws ws.length g = true := by
  unfold met
  rw [List.any_eq_true]
  exact ⟨p, by simpa using hp, by rw [h]; simp⟩
theorem lab_facts (ws : List Nat) (hn : ws.length ≤ 2048) (p : Nat) (hp : p < ws.length) : (lab ws p).all T.okb = true ∧ (lab ws p ≠ [] → T.name (lab ws p) = true ∧ decE (ws.getD p 0 : Nat) = 0 ∧ ((dec (ws.getD p 0 : Nat)).op = 21 ∨ (dec (ws.getD p 0 : Nat)).op = 22)) ∧ (lab ws p).length ≤ 5 ∧ (lab ws p ≠ [] → ∃ g, tg ws p = some g ∧ lab ws p = nmAt ws g) := by
  unfold lab
  cases h : tg ws p with
  | none => exact ⟨rfl, fun h => absurd rfl h, by simp, fun h => absurd rfl h⟩
  | some g =>
    obtain ⟨h1, h2, h3, h4⟩ := tg_facts h
    have hm := (nm_iff ws g).2 (met_tg hp h)
    have hg := nm_good ws g hm (by omega)
    exact ⟨hg.2.1, fun _ => ⟨hg.1, h1, h2⟩, hg.2.2, fun _ => ⟨g, rfl, rfl⟩⟩
structure Rd (ws : List Nat) (p : Nat) (st : St) : Prop where
  len : st.ws.length = p
  labs : st.labs = labsU ws p
  lat : ∀ t ∈ st.lat, t.place < p ∧ ∃ g, tg ws t.place = some g ∧ nmAt ws g ≠ [] ∧ Fix t (ws.getD t.place 0) (nmAt ws g)
  cur : ∀ q, q < p → st.ws.getD q 0 = ws.getD q 0 ∨ ∃ t ∈ st.lat, t.place = q
theorem label_line (n : Nat) (st : St) (nm : List UInt8) (h1 : T.name nm = true) (h2 : has st.labs nm = false) : lay n st [⟨nm ++ [58], false, 1⟩] = .inr { st with labs := st.labs ++ [(nm, st.ws.length)] } := by
  have hs : Lib.hasSuffix (nm ++ [58]) [58] = true := by unfold Lib.hasSuffix; simp
  have ht : Lib.trimSuffix (nm ++ [58]) [58] = nm := by unfold Lib.trimSuffix; rw [hs]; simp
  have hd : isDef ⟨nm ++ [58], false, 1⟩ = true := by unfold isDef; rw [hs]; rfl
  unfold lay
  rw [hd]
  simp only [if_true, ht, h1, h2, Bool.false_eq_true, if_false]
  rfl
theorem lines_cons2 (st : St) (n : Nat) (l : List UInt8) (ls : List (List UInt8)) {wds : List T.Wd} {st' : St} (h1 : T.rd l 0 = .inr wds) (h2 : lay (n + 1) st wds = .inr st') : lines st n (l :: ls) = lines st' (n + 1) ls := by
  rw [lines, h1]
  simp only [h2]
theorem lab_step (ws : List Nat) (p : Nat) (hp : p ≤ 2048) (st : St) (hl : st.labs = labsU ws p) (hw : st.ws.length = p) (n : Nat) (rest : List (List UInt8)) :
    ∃ n', lines st n ((if nmAt ws p = [] then [] else [nmAt ws p ++ [58]]) ++ rest) = lines { st with labs := labsU ws (p + 1) } n' rest := by
  by_cases h : nmAt ws p = []
  · refine ⟨n, ?_⟩
    rw [if_pos h, labsU, if_pos h, List.append_nil, List.nil_append, ← hl]
  · have hg := nm_good ws p h hp
    refine ⟨n + 1, ?_⟩
    rw [if_neg h, labsU, if_neg h, List.singleton_append]
    have hh : has st.labs (nmAt ws p) = false := by
      rw [has_look, hl, look_labs ws p h p, if_neg (Nat.lt_irrefl _)]
      rfl
    have hr := T.rd_one (nmAt ws p ++ [58]) (T.pw_of (by simp) (by rw [List.all_append, hg.2.1]; decide))
    rw [lines_cons2 st n _ rest hr (label_line (n + 1) st (nmAt ws p) hg.1 hh), hl, hw]
theorem row_step (ws : List Nat) (hn : ws.length ≤ 2048) (hw : ∀ x ∈ ws, x < 4294967296) (p : Nat) (hp : p < ws.length) (st : St) (h : Rd ws p st) (n : Nat) (rest : List (List UInt8)) :
    ∃ st' n', Rd ws (p + 1) st' ∧ lines st n (rowL ws p ++ rest) = lines st' n' rest := by
  obtain ⟨n1, h1⟩ := lab_step ws p (by omega) st h.labs h.len n (lin (ws.getD p 0 : Nat) (lab ws p) :: rest)
  have hf := lab_facts ws hn p hp
  obtain ⟨wds, x, L', h2, h3, h4⟩ := line_w (n1 + 1) { st with labs := labsU ws (p + 1) } (ws.getD p 0) (getD_lt hw p) (lab ws p) hf.1 hf.2.1 (by show st.ws.length < 2048; rw [h.len]; omega)
  refine ⟨⟨st.ws ++ [x], labsU ws (p + 1), st.lat ++ L'⟩, n1 + 1, ⟨?_, rfl, ?_, ?_⟩, ?_⟩
  · show (st.ws ++ [x]).length = p + 1
    rw [List.length_append, h.len]; rfl
  · intro t ht
    rcases List.mem_append.1 ht with ht | ht
    · obtain ⟨a, b⟩ := h.lat t ht
      exact ⟨by omega, b⟩
    · rcases h4 with ⟨rfl, _⟩ | ⟨t', rfl, hpl, hfx, hne⟩
      · cases ht
      · rw [List.mem_singleton] at ht
        subst ht
        have hpl' : t.place = p := hpl.trans h.len
        obtain ⟨g, hg, he⟩ := hf.2.2.2 hne
        refine ⟨by omega, g, by rw [hpl']; exact hg, by rw [← he]; exact hne, by rw [hpl', ← he]; exact hfx⟩
  · intro q hq
    show (st.ws ++ [x]).getD q 0 = ws.getD q 0 ∨ _
    by_cases h5 : q < p
    · rw [show (st.ws ++ [x]).getD q 0 = st.ws.getD q 0 by rw [List.getD_eq_getElem?_getD, List.getD_eq_getElem?_getD, List.getElem?_append_left (by rw [h.len]; exact h5)]]
      exact (h.cur q h5).imp id fun ⟨t, ht, e⟩ => ⟨t, List.mem_append_left _ ht, e⟩
    · have h6 : q = p := by omega
      subst h6
      rcases h4 with ⟨rfl, rfl⟩ | ⟨t', rfl, hpl, _, _⟩
      · refine .inl ?_
        rw [List.getD_eq_getElem?_getD, List.getElem?_append_right (by rw [h.len]; exact Nat.le_refl _), h.len]
        simp
      · exact .inr ⟨t', by simp, hpl.trans h.len⟩
  · rw [rowL, if_pos hp, List.append_assoc, List.singleton_append, h1, lines_cons2 _ n1 _ rest h2 h3]
theorem rows_read (ws : List Nat) (hn : ws.length ≤ 2048) (hw : ∀ x ∈ ws, x < 4294967296) : ∀ p, p ≤ ws.length → ∀ rest, ∃ st n, Rd ws p st ∧ lines ⟨[], [], []⟩ 0 ((List.range p).flatMap (rowL ws) ++ rest) = lines st n rest
  | 0, _, rest => ⟨⟨[], [], []⟩, 0, ⟨rfl, rfl, by simp, by intro q hq; omega⟩, rfl⟩
  | p + 1, hp, rest => by
    obtain ⟨st, n, h1, h2⟩ := rows_read ws hn hw p (by omega) (rowL ws p ++ rest)
    obtain ⟨st', n', h3, h4⟩ := row_step ws hn hw p (by omega) st h1 n rest
    refine ⟨st', n', h3, ?_⟩
    rw [List.range_succ, List.flatMap_append, List.append_assoc]
    simp only [List.flatMap_cons, List.flatMap_nil, List.append_nil]
    rw [h2, h4]
theorem over_one (cur : List Nat) (p w : Nat) (hp : p < cur.length) : over cur p [w] = cur.set p w := by
  unfold over
  have h1 : List.take (cur.length - p) [w] = [w] := List.take_of_length_le (by rw [List.length_singleton]; omega)
  rw [List.set_eq_take_append_cons_drop, if_pos hp, h1]
  simp
theorem fin_ok (base : Nat) (ws : List Nat) (hn : ws.length ≤ 2048) (labs : List (List UInt8 × Nat)) : ∀ (ts : List Lt) (cur : List Nat), cur.length = ws.length →
    (∀ t ∈ ts, t.place < ws.length ∧ ∃ g, tg ws t.place = some g ∧ look labs (nmAt ws g) = some g ∧ Fix t (ws.getD t.place 0) (nmAt ws g)) →
    (∀ q, q < ws.length → cur.getD q 0 = ws.getD q 0 ∨ ∃ t ∈ ts, t.place = q) → fin base labs cur ts = .inr ws
  | [], cur, hl, _, hc => by
    have : cur = ws := by
      apply List.ext_getElem hl
      intro q h1 h2
      rcases hc q h2 with h | ⟨t, ht, _⟩
      · rw [List.getD_eq_getElem?_getD, List.getD_eq_getElem?_getD, List.getElem?_eq_getElem h1, List.getElem?_eq_getElem h2] at h
        simpa using h
      · cases ht
    rw [fin, this]
  | t :: ts, cur, hl, hts, hc => by
    obtain ⟨h1, g, h2, h3, h4⟩ := hts t (by simp)
    obtain ⟨_, _, h5, h6⟩ := tg_facts h2
    have hm : meaning base 111 g t.place = some (u32 (dec (ws.getD t.place 0 : Nat)).imm) := by
      unfold meaning
      rw [if_pos rfl, if_neg (by omega), show (g : Int) - t.place - 1 = (dec (ws.getD t.place 0 : Nat)).imm by omega]
    rw [fin, h4.lab, h3]
    simp only
    rw [h4.ltr, hm]
    simp only
    rw [h4.wd, over_one cur t.place _ (by omega)]
    refine fin_ok base ws hn labs ts _ (by rw [List.length_set]; exact hl) (fun x hx => hts x (by simp [hx])) (fun q hq => ?_)
    by_cases h7 : q = t.place
    · subst h7
      refine .inl ?_
      rw [List.getD_eq_getElem?_getD, List.getElem?_set_self (by omega)]
      rfl
    · have e0 : (cur.set t.place (ws.getD t.place 0)).getD q 0 = cur.getD q 0 := by
        generalize ws.getD t.place 0 = z
        rw [List.getD_eq_getElem?_getD, List.getD_eq_getElem?_getD, List.getElem?_set_ne (fun e => h7 e.symm)]
      rw [e0]
      rcases hc q hq with h | ⟨x, hx, e⟩
      · exact .inl h
      · rcases List.mem_cons.1 hx with rfl | hx
        · exact absurd e.symm h7
        · exact .inr ⟨x, hx, e⟩
theorem opnd_len (i : Ins) (L : List Nat) (hL : L ∈ nine) (hg : Good i L) (lb : List UInt8) (hlb : lb.length ≤ 5) (l : Nat) : (opnd i l lb).length ≤ 6 ∧ (l = 97 ∨ l = 98 ∨ l = 99 → (opnd i l lb).length ≤ 3) := by
  have hb := good_bounds hL hg
  obtain ⟨a0, a1, b0, b1, c0, c1, k0, k1, m0, m1, _⟩ := hb
  have hd : ∀ a : Int, 0 ≤ a → a ≤ 14 → (114 :: Lib.decDigits a.toNat).length ≤ 3 := fun a h0 h1 => by
    have := dec_len5 a.toNat 1 (by omega)
    rw [List.length_cons]; omega
  have h1 := hd _ a0 a1
  have h2 := hd _ b0 b1
  have h3 := hd _ c0 c1
  have h4 : (Lib.itoa i.imm).length ≤ 6 := by
    by_cases h : 0 ≤ i.imm
    · obtain ⟨u, hu⟩ := Int.eq_ofNat_of_zero_le h
      rw [hu, Lib.itoa_nonneg]
      have := dec_len5 u 4 (by omega)
      omega
    · obtain ⟨u, hu⟩ := Int.eq_ofNat_of_zero_le (show 0 ≤ -i.imm by omega)
      rw [show i.imm = -(u : Int) by omega, Lib.itoa_neg u (by omega), List.length_cons]
      have := dec_len5 u 4 (by omega)
      omega
  unfold opnd
  split
  · exact ⟨by omega, fun _ => h1⟩
  · split
    · exact ⟨by omega, fun _ => h2⟩
    · split
      · exact ⟨by omega, fun _ => h3⟩
      · split
        · rw [cndI_eq i.cond k0 k1]
          have := (cond_okb i.cond.toNat (by omega)).2.2
          exact ⟨by omega, fun h => by omega⟩
        · split
          · exact ⟨by omega, fun h => by omega⟩
          · exact ⟨h4, fun h => by omega⟩
theorem lin_len (w : Nat) (lb : List UInt8) (hlb : lb.length ≤ 5) : (lin w lb).length ≤ 20 := by
  by_cases hw : decE w = 0
  · obtain ⟨he, hc⟩ := dec_yes hw
    obtain ⟨n, hn, n1, n2, hL, hg⟩ := chk_zero hc
    have e1 : (namI (dec w).op).data.toList = nameT.getD n [] := by unfold namI; rw [hn, if_pos (by omega)]; rfl
    have e2 : shpI (dec w).op = shp n := by unfold shpI; rw [hn, if_pos (by omega)]; rfl
    have hnm := (name_okb n n2 n1).2.2.2.2.2
    have ho := fun l => opnd_len (dec w) _ hL hg lb hlb l
    unfold lin
    rw [if_pos hw]
    unfold lineOf opnds
    rw [e1, e2, List.length_append]
    have h1 := ho 97
    have h2 := ho 98
    have h3 := ho 99
    have h4 := ho 107
    have h5 := ho 117
    have h6 := ho 115
    have h7 := ho 111
    simp only [nine, List.mem_cons, List.not_mem_nil, or_false] at hL
    have hs : ((ltr (shp n)).flatMap fun l => 32 :: opnd (dec w) l lb).length ≤ 15 := by
      rcases hL with h | h | h | h | h | h | h | h | h <;> rw [h] <;> simp only [List.flatMap_cons, List.flatMap_nil, List.length_append, List.length_cons, List.length_nil] <;> omega
    omega
  · unfold lin
    rw [if_neg hw]
    simp [T.hexed8_length]
theorem row_len (ws : List Nat) (hn : ws.length ≤ 2048) (p : Nat) (hp : p ≤ ws.length) : (row ws p).length ≤ 28 := by
  unfold row
  rw [List.length_append]
  have h1 : (if nmAt ws p = [] then ([] : List UInt8) else nmAt ws p ++ [58, 10]).length ≤ 7 := by
    split
    · simp
    · rename_i h
      have := (nm_good ws p h (by omega)).2.2
      simp only [List.length_append, List.length_cons, List.length_nil]
      omega
  have h2 : (if p < ws.length then lin (ws.getD p 0 : Nat) (lab ws p) ++ [10] else ([] : List UInt8)).length ≤ 21 := by
    split
    · rename_i h
      have := lin_len (ws.getD p 0) (lab ws p) (lab_facts ws hn p h).2.2.1
      simp only [List.length_append, List.length_cons, List.length_nil]
      omega
    · simp
  omega
theorem txt_len (ws : List Nat) (hn : ws.length ≤ 2048) : ∀ k, k ≤ ws.length + 1 → (txt ws k).length ≤ 28 * k
  | 0, _ => by simp [txt]
  | k + 1, hk => by
    have := txt_len ws hn k (by omega)
    have := row_len ws hn k (by omega)
    rw [txt_succ, List.length_append]
    omega
theorem prt_len (ws : List Nat) : (prt ws).length ≤ 65536 := by
  unfold prt
  split
  · rename_i h
    have := txt_len ws h (ws.length + 1) (Nat.le_refl _)
    omega
  · simp
theorem asm_prt (ws : List Nat) (hn : ws.length ≤ 2048) (hw : ∀ x ∈ ws, x < 4294967296) (base : Nat) : asm (prt ws) base = .inr (ws, labsU ws (ws.length + 1)) := by
  have hlen := prt_len ws
  obtain ⟨st, n, h1, h2⟩ := rows_read ws hn hw ws.length (Nat.le_refl _) (rowL ws ws.length)
  obtain ⟨n', h3⟩ := lab_step ws ws.length hn st h1.labs h1.len n []
  have hr : read (prt ws) = .inr { st with labs := labsU ws (ws.length + 1) } := by
    unfold read
    rw [if_neg (by omega)]
    unfold prt
    rw [if_pos hn, txt_rows]
    have hno : ∀ l ∈ (List.range (ws.length + 1)).flatMap (rowL ws), ∀ c ∈ l, c ≠ 10 := by
      intro l hl
      rw [List.mem_flatMap] at hl
      obtain ⟨p, hp, hl⟩ := hl
      rw [List.mem_range] at hp
      unfold rowL at hl
      rw [List.mem_append] at hl
      rcases hl with hl | hl
      · split at hl
        · cases hl
        · rename_i h
          rw [List.mem_singleton] at hl
          subst hl
          exact okb_no10 (by rw [List.all_append, (nm_good ws p h (by omega)).2.1]; decide)
      · split at hl
        · rename_i h
          rw [List.mem_singleton] at hl
          subst hl
          exact (lin_no10 _ _ (lab_facts ws hn p h).1).1
        · cases hl
    rw [lines_rows _ hno, List.range_succ, List.flatMap_append]
    simp only [List.flatMap_cons, List.flatMap_nil, List.append_nil]
    rw [h2]
    unfold rowL
    rw [if_neg (Nat.lt_irrefl _)]
    rw [h3, lines]
  unfold asm
  rw [hr]
  simp only
  rw [fin_ok base ws hn (labsU ws (ws.length + 1)) st.lat st.ws h1.len (fun t ht => ?_) h1.cur]
  obtain ⟨a, g, b, c, e⟩ := h1.lat t ht
  refine ⟨a, g, b, ?_, e⟩
  rw [look_labs ws g c, if_pos (by have := (tg_facts b).2.2.2; omega)]
end S
end Go.Proofs.YtncnogndopgknaaGreatDoor
