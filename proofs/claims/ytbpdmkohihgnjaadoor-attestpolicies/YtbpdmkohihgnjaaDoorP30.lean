import Derived.Test.YtbpdmkohihgnjaaDoorP29
import Derived.Test.YtbpdmkohihgnjaaDoorP05
import Derived.Test.YtbpdmkohihgnjaaDoorP07
import Derived.Test.YtbpdmkohihgnjaaDoorP24
namespace Go.Proofs.YtbpdmkohihgnjaaDoor
open Go.RowKit
set_option maxHeartbeats 4000000
set_option maxRecDepth 100000
def hl (m : List Int) : List UInt8 := (hexB m).data.toList
theorem hl_length {m : List Int} (h : m.length = 8) : (hl m).length = 64 := by unfold hl; rw [lenD, hexB_size h]
theorem data_app (a b : ByteArray) : (a ++ b).data.toList = a.data.toList ++ b.data.toList := by
  rw [ByteArray.data_append, Array.toList_append]
theorem lineD (a b : ByteArray) : (lineB [a, b]).data.toList = a.data.toList ++ ([32] ++ (b.data.toList ++ [10])) := by
  unfold lineB
  rw [data_app, line2]
  simp
theorem ext_list (s : ByteArray) (a b : Nat) : (s.extract a b).data.toList = (s.data.toList.drop a).take (b - a) := by
  rw [ByteArray.data_extract, Array.toList_extract, List.extract_eq_take_drop]
theorem bytes_ext {s t : ByteArray} (h : s.data.toList = t.data.toList) : s = t := by
  cases s; cases t; congr; exact Array.toList_inj.1 h
theorem ok8_hex {m : List Int} (hm : m.length = 8) (wm : Wds m) : ok8 (hexB m) := by
  refine ⟨hexB_size hm, fun i hi => ?_⟩
  unfold hexB
  rw [V.strL_strOfNums _ (V.hexD_bts m), V.pv_hexD m wm i (by omega)]
  exact fun h => by cases h
theorem w8_hex {m : List Int} (hm : m.length = 8) (wm : Wds m) : w8 (hexB m) = m := by
  unfold w8
  rw [if_pos (ok8_hex hm wm)]
  unfold hexB
  rw [V.strL_strOfNums _ (V.hexD_bts m)]
  have := V.hexWs_hexD m wm
  rwa [hm] at this
end Go.Proofs.YtbpdmkohihgnjaaDoor
namespace Go.Proofs.YtbpdmkohihgnjaaDoor
def vL (a : Bool) : List UInt8 := if a then [97, 108, 108, 111, 119] else [100, 101, 110, 121]
def oL : List UInt8 := [111, 116, 104, 101, 114]
def ruleL (r : Rl) : List UInt8 := vL r.al ++ 32 :: (r.nm.data.toList ++ 32 :: hl r.ms)
def othL (o : Bool) : List UInt8 := oL ++ 32 :: vL o
def linesP (R : List Rl) (o : Bool) : List (List UInt8) := R.map ruleL ++ [othL o]
def textL (ls : List (List UInt8)) : List UInt8 := (ls.map (· ++ [10])).flatten
structure Rdr where
  rules : List Rl
  other : Bool
  ended : Bool
def alw (w : List UInt8) : Option Bool := if w = vL true then some true else if w = vL false then some false else none
def rdRule (st : Rdr) (a b c : List UInt8) : Option Rdr :=
  match alw a with
  | none => none
  | some v => if L.T.name b = true ∧ ok8 ⟨c.toArray⟩ ∧ st.rules.length ≠ 256 then some ⟨st.rules ++ [⟨v, ⟨b.toArray⟩, w8 ⟨c.toArray⟩⟩], st.other, st.ended⟩ else none
def rdOther (st : Rdr) (a b : List UInt8) : Option Rdr :=
  match alw b with
  | none => none
  | some v => if a = oL then some ⟨st.rules, v, true⟩ else none
def rdWords (st : Rdr) : List L.T.Wd → Option Rdr
  | [] => some st
  | ws => if st.ended || ws.any (·.quoted) then none else
    match ws with
    | [a, b] => rdOther st a.text b.text
    | [a, b, c] => rdRule st a.text b.text c.text
    | _ => none
def stepP (st : Rdr) (l : List UInt8) : Option Rdr :=
  match L.T.rd l 0 with
  | .inl _ => none
  | .inr ws => rdWords st ws
def foldP : Rdr → List (List UInt8) → Nat → Rdr ⊕ Nat
  | st, [], _ => .inl st
  | st, l :: ls, k => match stepP st l with
    | none => .inr (k + 1)
    | some s2 => foldP s2 ls (k + 1)
/-! ### lines -/
theorem cut_text (ls : List (List UInt8)) (h : ∀ l ∈ ls, ∀ c ∈ l, c ≠ 10) : L.T.cutL (textL ls) = ls ++ [[]] := by
  induction ls with
  | nil => rfl
  | cons a ls ih =>
    have e : textL (a :: ls) = a ++ 10 :: textL ls := by simp [textL]
    rw [e, L.T.cutL_line a _ (h a List.mem_cons_self), ih fun l hl => h l (List.mem_cons_of_mem _ hl)]
    rfl
theorem lines_text (ls : List (List UInt8)) (h : ∀ l ∈ ls, ∀ c ∈ l, c ≠ 10) : L.T.lines (textL ls) = ls := by
  have e := cut_text ls h
  unfold L.T.lines
  simp only [e]
  simp
theorem textL_app (a b : List (List UInt8)) : textL (a ++ b) = textL a ++ textL b := by simp [textL]
theorem textL_one (a : List UInt8) : textL [a] = a ++ [10] := by simp [textL]
/-! ### words -/
structure Wrd (w : List UInt8) : Prop where
  ne : ∃ c t, w = c :: t ∧ c.toNat ≠ 35 ∧ c.toNat ≠ 34
  gp : ∀ c ∈ w, L.T.isGap c = false
theorem takeW (w t : List UInt8) (h : ∀ c ∈ w, L.T.isGap c = false) (ht : t = [] ∨ ∃ c r, t = c :: r ∧ L.T.isGap c = true) : L.T.plainN (w ++ t) = w.length := by
  unfold L.T.plainN
  rw [List.takeWhile_append_of_pos fun c hc => by simp [h c hc]]
  rcases ht with rfl | ⟨c, r, rfl, hc⟩
  · simp
  · simp [hc]
theorem rd_word (w t : List UInt8) (p : Nat) (hw : Wrd w) (ht : t = [] ∨ ∃ c r, t = c :: r ∧ L.T.isGap c = true) : L.T.rd (w ++ t) p = L.T.cons ⟨w, false, p + 1⟩ (L.T.rd t (p + w.length)) := by
  have hp := takeW w t hw.gp ht
  obtain ⟨c, r, rfl, h1, h2⟩ := hw.ne
  have hg := hw.gp c List.mem_cons_self
  rw [List.cons_append] at hp ⊢
  rw [L.T.rd_plain _ p hg h1 h2, hp, ← List.cons_append, List.take_left' rfl, List.drop_left' rfl]
def Rem (t : List UInt8) : Prop := t = [] ∨ ∃ r, t = 32 :: 35 :: r
theorem Rem.rd {t : List UInt8} (h : Rem t) (p : Nat) : L.T.rd t p = .inr [] := by
  rcases h with rfl | ⟨r, rfl⟩
  · exact L.T.rd_nil p
  · rw [L.T.rd_gap _ p (by decide), L.T.rd_hash _ _ (by decide) (by decide)]
theorem Rem.gap {t : List UInt8} (h : Rem t) : t = [] ∨ ∃ c r, t = c :: r ∧ L.T.isGap c = true := by
  rcases h with rfl | ⟨r, rfl⟩
  · exact .inl rfl
  · exact .inr ⟨32, _, rfl, by decide⟩
theorem gap32 : L.T.isGap 32 = true := by decide
theorem rd_two (a b t : List UInt8) (ha : Wrd a) (hb : Wrd b) (ht : Rem t) : L.T.rd (a ++ 32 :: b ++ t) 0 = .inr [⟨a, false, 1⟩, ⟨b, false, a.length + 2⟩] := by
  rw [List.append_assoc, List.cons_append, rd_word a _ 0 ha (.inr ⟨32, _, rfl, gap32⟩), L.T.rd_gap _ _ gap32, rd_word b t _ hb ht.gap, ht.rd]
  simp [L.T.cons]
theorem rd_three (a b c t : List UInt8) (ha : Wrd a) (hb : Wrd b) (hc : Wrd c) (ht : Rem t) : L.T.rd (a ++ 32 :: (b ++ 32 :: c) ++ t) 0 = .inr [⟨a, false, 1⟩, ⟨b, false, a.length + 2⟩, ⟨c, false, a.length + b.length + 3⟩] := by
  rw [List.append_assoc, List.cons_append, rd_word a _ 0 ha (.inr ⟨32, _, rfl, gap32⟩), L.T.rd_gap _ _ gap32, List.append_assoc, List.cons_append, rd_word b _ _ hb (.inr ⟨32, _, rfl, gap32⟩), L.T.rd_gap _ _ gap32, rd_word c t _ hc ht.gap, ht.rd]
  simp [L.T.cons]; omega
theorem vL_wrd (v : Bool) : Wrd (vL v) := by
  cases v
  · exact ⟨⟨100, _, rfl, by decide, by decide⟩, by decide⟩
  · exact ⟨⟨97, _, rfl, by decide, by decide⟩, by decide⟩
theorem oL_wrd : Wrd oL := ⟨⟨111, _, rfl, by decide, by decide⟩, by decide⟩
theorem okc_plain {c : UInt8} (h : L.T.okc c = true) : L.T.isGap c = false ∧ c.toNat ≠ 35 ∧ c.toNat ≠ 34 ∧ c ≠ 10 := by
  simp only [L.T.okc, L.T.isLet, L.T.isDig, Bool.or_eq_true, Bool.and_eq_true, decide_eq_true_eq, beq_iff_eq] at h
  refine ⟨?_, by omega, by omega, ?_⟩
  · simp only [L.T.isGap, Bool.or_eq_false_iff, beq_eq_false_iff_ne]
    exact ⟨by omega, by omega⟩
  · rintro rfl
    simp at h
theorem name_all {l : List UInt8} (h : L.T.name l = true) : 1 ≤ l.length ∧ l.length ≤ 24 ∧ ∀ c ∈ l, L.T.okc c = true := by
  simp only [L.T.name, Bool.and_eq_true, decide_eq_true_eq] at h
  exact ⟨h.1.1.1, h.1.1.2, fun c hc => List.all_eq_true.1 h.2 c hc⟩
theorem name_wrd {l : List UInt8} (h : L.T.name l = true) : Wrd l := by
  obtain ⟨h1, _, h3⟩ := name_all h
  cases l with
  | nil => simp at h1
  | cons c t => exact ⟨⟨c, t, rfl, (okc_plain (h3 c List.mem_cons_self)).2.1, (okc_plain (h3 c List.mem_cons_self)).2.2.1⟩, fun x hx => (okc_plain (h3 x hx)).1⟩
theorem alw_v (v : Bool) : alw (vL v) = some v := by cases v <;> decide
end Go.Proofs.YtbpdmkohihgnjaaDoor
namespace Go.Proofs.YtbpdmkohihgnjaaDoor
/-! ### what may stand in a line -/
theorem hl_plain {m : List Int} : ∀ c ∈ hl m, (48 ≤ c.toNat ∧ c.toNat ≤ 57) ∨ (97 ≤ c.toNat ∧ c.toNat ≤ 102) := by
  intro c hc
  unfold hl hexB strOfNums at hc
  simp only [List.mem_map] at hc
  obtain ⟨n, hn, rfl⟩ := hc
  unfold V.hexD at hn
  rw [List.mem_flatten] at hn
  obtain ⟨l, hl1, hl2⟩ := hn
  obtain ⟨x, _, rfl⟩ := List.mem_map.1 hl1
  have D : ∀ s, n = V.dig (V.M.Fld x s 4) → (48 ≤ (UInt8.ofNat n.toNat).toNat ∧ (UInt8.ofNat n.toNat).toNat ≤ 57) ∨ (97 ≤ (UInt8.ofNat n.toNat).toNat ∧ (UInt8.ofNat n.toNat).toNat ≤ 102) := by
    rintro s rfl
    obtain ⟨h0, h1, _⟩ := V.M.fld_bounds x s 4 (by decide)
    generalize V.M.Fld x s 4 = f at h0 h1
    have e2 : (2 : Int) ^ 4 = 16 := by decide
    rw [e2] at h1
    simp only [UInt8.toNat_ofNat']
    unfold V.dig
    split
    · omega
    · omega
  unfold V.hexW at hl2
  simp only [List.mem_cons, List.not_mem_nil, or_false] at hl2
  rcases hl2 with h | h | h | h | h | h | h | h <;> exact D _ h
theorem hl_wrd {m : List Int} (h : m.length = 8) : Wrd (hl m) := by
  have hp := hl_plain (m := m)
  have hlen := hl_length h
  cases e : hl m with
  | nil => rw [e] at hlen; simp at hlen
  | cons c t =>
    rw [e] at hp
    refine ⟨⟨c, t, rfl, ?_, ?_⟩, fun x hx => ?_⟩
    · have := hp c List.mem_cons_self; omega
    · have := hp c List.mem_cons_self; omega
    · have := hp x hx
      simp only [L.T.isGap, Bool.or_eq_false_iff, beq_eq_false_iff_ne]
      exact ⟨by omega, by omega⟩
theorem hl_no {m : List Int} : ∀ c ∈ hl m, c ≠ 10 := by
  rintro c hc rfl
  have := hl_plain _ hc
  simp at this
theorem vL_no (v : Bool) : ∀ c ∈ vL v, c ≠ 10 := by cases v <;> decide
theorem name_no {l : List UInt8} (h : L.T.name l = true) : ∀ c ∈ l, c ≠ 10 := fun c hc => (okc_plain ((name_all h).2.2 c hc)).2.2.2
structure Rl.Good (r : Rl) : Prop where
  ml : r.ms.length = 8
  mw : Wds r.ms
  nm : L.T.name r.nm.data.toList = true
theorem rule_no {r : Rl} (h : r.Good) : ∀ c ∈ ruleL r, c ≠ 10 := by
  intro c hc
  unfold ruleL at hc
  simp only [List.mem_append, List.mem_cons] at hc
  rcases hc with hc | rfl | hc | rfl | hc
  · exact vL_no _ c hc
  · decide
  · exact name_no h.nm c hc
  · decide
  · exact hl_no c hc
theorem oth_no (o : Bool) : ∀ c ∈ othL o, c ≠ 10 := by cases o <;> decide
theorem lines_no {R : List Rl} (h : ∀ r ∈ R, r.Good) (o : Bool) : ∀ l ∈ linesP R o, ∀ c ∈ l, c ≠ 10 := by
  intro l hl
  unfold linesP at hl
  rcases List.mem_append.1 hl with hl | hl
  · obtain ⟨r, hr, rfl⟩ := List.mem_map.1 hl
    exact rule_no (h r hr)
  · cases List.mem_singleton.1 hl
    exact oth_no o
/-! ### a line read -/
theorem back_of (b : ByteArray) : (⟨b.data.toList.toArray⟩ : ByteArray) = b := rfl
theorem step_rule (st : Rdr) {r : Rl} (h : r.Good) (he : st.ended = false) (hn : st.rules.length ≠ 256) (t : List UInt8) (ht : Rem t) : stepP st (ruleL r ++ t) = some ⟨st.rules ++ [r], st.other, st.ended⟩ := by
  unfold stepP ruleL
  rw [rd_three _ _ _ t (vL_wrd _) (name_wrd h.nm) (hl_wrd h.ml) ht]
  have e1 : (⟨(hl r.ms).toArray⟩ : ByteArray) = hexB r.ms := back_of _
  have e2 := ok8_hex h.ml h.mw
  have e3 := w8_hex h.ml h.mw
  simp only [rdWords, he, List.any_cons, List.any_nil, Bool.or_self, Bool.false_eq_true, if_false, rdRule, alw_v, e1, e3]
  rw [if_pos ⟨h.nm, e2, hn⟩]
theorem step_other (st : Rdr) (o : Bool) (he : st.ended = false) (t : List UInt8) (ht : Rem t) : stepP st (othL o ++ t) = some ⟨st.rules, o, true⟩ := by
  unfold stepP othL
  rw [rd_two _ _ t oL_wrd (vL_wrd _) ht]
  simp only [rdWords, he, List.any_cons, List.any_nil, Bool.or_self, Bool.false_eq_true, if_false, rdOther, alw_v, if_true]
theorem step_more (st : Rdr) (o : Bool) (he : st.ended = true) : stepP st (othL o) = none := by
  have e := rd_two oL (vL o) [] oL_wrd (vL_wrd _) (.inl rfl)
  rw [List.append_nil] at e
  unfold stepP
  rw [show othL o = oL ++ 32 :: vL o from rfl, e]
  simp only [rdWords, he, Bool.true_or, if_true]
theorem step_blank (st : Rdr) : stepP st [] = some st := by
  unfold stepP
  rw [L.T.rd_nil]
  rfl
theorem step_tab (st : Rdr) : stepP st [9] = some st := by
  unfold stepP
  rw [L.T.rd_gap _ _ (by decide), L.T.rd_nil]
  rfl
/-! ### noise -/
def cmt : List UInt8 := [32, 35, 32, 111, 116, 104, 101, 114, 32, 97, 108, 108, 111, 119]
theorem cmt_no : ∀ c ∈ cmt, c ≠ 10 := by decide
theorem cmt_rem : Rem cmt := .inr ⟨_, rfl⟩
def insB (x : Int) : List UInt8 := if x = 0 then cmt else if x = 1 then [10, 9, 10] else []
def nsOne (x : Int) (l : List UInt8) : List (List UInt8) := if x = 0 then [l ++ cmt] else if x = 1 then [l, [9], []] else [l]
def nsl (sel : Nat → Int) : Nat → List (List UInt8) → List (List UInt8)
  | _, [] => []
  | k, l :: ls => nsOne (sel (k + 1)) l ++ nsl sel (k + 1) ls
def nzO (sel : Nat → Int) : Nat → List UInt8 → List UInt8
  | _, [] => []
  | k, c :: t => if c = 10 then insB (sel (k + 1)) ++ 10 :: nzO sel (k + 1) t else c :: nzO sel k t
theorem nz_line (sel : Nat → Int) (k : Nat) (l m : List UInt8) (h : ∀ c ∈ l, c ≠ 10) : nzO sel k (l ++ 10 :: m) = l ++ (insB (sel (k + 1)) ++ 10 :: nzO sel (k + 1) m) := by
  induction l with
  | nil => simp [nzO]
  | cons c t ih =>
    have hc := h c List.mem_cons_self
    rw [List.cons_append, nzO, if_neg hc, ih fun x hx => h x (List.mem_cons_of_mem _ hx), List.cons_append]
theorem one_text (x : Int) (l : List UInt8) : l ++ (insB x ++ [10]) = textL (nsOne x l) := by
  unfold insB nsOne
  split
  · simp [textL]
  · split <;> simp [textL]
theorem nz_text (sel : Nat → Int) (ls : List (List UInt8)) (h : ∀ l ∈ ls, ∀ c ∈ l, c ≠ 10) : ∀ k, nzO sel k (textL ls) = textL (nsl sel k ls) := by
  induction ls with
  | nil => intro k; rfl
  | cons a ls ih =>
    intro k
    have e : textL (a :: ls) = a ++ 10 :: textL ls := by simp [textL]
    rw [e, nz_line _ _ _ _ (h a List.mem_cons_self), ih (fun l hl => h l (List.mem_cons_of_mem _ hl)), nsl, textL_app, ← one_text]
    simp
theorem nz_snoc (sel : Nat → Int) (l : List UInt8) (c : UInt8) : ∀ k, nzO sel k (l ++ [c]) = nzO sel k l ++ (if c = 10 then insB (sel (k + l.count 10 + 1)) ++ [10] else [c]) := by
  induction l with
  | nil => intro k; simp only [List.nil_append, nzO, List.count_nil]
  | cons a t ih =>
    intro k
    by_cases ha : a = 10
    · subst ha
      rw [List.cons_append, nzO, if_pos rfl, ih, nzO, if_pos rfl, List.count_cons_self, show k + 1 + t.count 10 + 1 = k + (t.count 10 + 1) + 1 by omega]
      simp
    · rw [List.cons_append, nzO, if_neg ha, ih, nzO, if_neg ha, List.count_cons_of_ne ha]
      simp
theorem cnt_no {l : List UInt8} (h : ∀ c ∈ l, c ≠ 10) : l.count 10 = 0 := List.count_eq_zero.2 fun hm => h 10 hm rfl
theorem cnt_text (ls : List (List UInt8)) (h : ∀ l ∈ ls, ∀ c ∈ l, c ≠ 10) : (textL ls).count 10 = ls.length := by
  induction ls with
  | nil => rfl
  | cons a ls ih =>
    have e : textL (a :: ls) = a ++ 10 :: textL ls := by simp [textL]
    rw [e, List.count_append, List.count_cons_self, cnt_no (h a List.mem_cons_self), ih fun l hl => h l (List.mem_cons_of_mem _ hl)]
    simp
theorem nsOne_no (x : Int) {l : List UInt8} (h : ∀ c ∈ l, c ≠ 10) : ∀ y ∈ nsOne x l, ∀ c ∈ y, c ≠ 10 := by
  intro y hy
  unfold nsOne at hy
  split at hy
  · cases List.mem_singleton.1 hy
    intro c hc
    rcases List.mem_append.1 hc with hc | hc
    · exact h c hc
    · exact cmt_no c hc
  · split at hy
    · simp only [List.mem_cons, List.not_mem_nil, or_false] at hy
      rcases hy with rfl | rfl | rfl
      · exact h
      · decide
      · intro c hc; cases hc
    · cases List.mem_singleton.1 hy
      exact h
theorem nsl_no (sel : Nat → Int) (ls : List (List UInt8)) (h : ∀ l ∈ ls, ∀ c ∈ l, c ≠ 10) : ∀ k, ∀ y ∈ nsl sel k ls, ∀ c ∈ y, c ≠ 10 := by
  induction ls with
  | nil => intro k y hy; cases hy
  | cons a ls ih =>
    intro k y hy
    rw [nsl] at hy
    rcases List.mem_append.1 hy with hy | hy
    · exact nsOne_no _ (h a List.mem_cons_self) y hy
    · exact ih (fun l hl => h l (List.mem_cons_of_mem _ hl)) _ y hy
/-! ### a text read -/
theorem fold_app (a b : List (List UInt8)) : ∀ (st : Rdr) (k : Nat) (s2 : Rdr), foldP st a k = .inl s2 → foldP st (a ++ b) k = foldP s2 b (k + a.length) := by
  induction a with
  | nil => intro st k s2 h; cases h; rfl
  | cons x a ih =>
    intro st k s2 h
    rw [List.cons_append]
    simp only [foldP] at h ⊢
    cases e : stepP st x with
    | none => rw [e] at h; simp at h
    | some s1 =>
      rw [e] at h
      simp only at h ⊢
      rw [ih s1 (k + 1) s2 h, List.length_cons, show k + 1 + a.length = k + (a.length + 1) by omega]
theorem fold_one {st s2 : Rdr} {l : List UInt8} (h : stepP st l = some s2) (k : Nat) : foldP st [l] k = .inl s2 := by simp only [foldP, h]
theorem fold_ns {st s2 : Rdr} {l : List UInt8} (h : ∀ t, Rem t → stepP st (l ++ t) = some s2) (x : Int) (k : Nat) : foldP st (nsOne x l) k = .inl s2 := by
  have h0 : stepP st l = some s2 := by have := h [] (.inl rfl); rwa [List.append_nil] at this
  unfold nsOne
  split
  · exact fold_one (h _ cmt_rem) k
  · split
    · simp only [foldP, h0, step_tab, step_blank]
    · exact fold_one h0 k
theorem fold_rules (sel : Nat → Int) (o : Bool) : ∀ (R : List Rl) (st : Rdr) (k j : Nat), (∀ r ∈ R, r.Good) → st.ended = false → st.rules.length + R.length ≤ 256 → foldP st (nsl sel k (linesP R o)) j = .inl ⟨st.rules ++ R, o, true⟩ := by
  intro R
  induction R with
  | nil =>
    intro st k j _ he _
    show foldP st (nsOne (sel (k + 1)) (othL o) ++ []) j = _
    rw [List.append_nil, fold_ns (fun t ht => step_other st o he t ht), List.append_nil]
  | cons r R ih =>
    intro st k j hg he hn
    show foldP st (nsOne (sel (k + 1)) (ruleL r) ++ nsl sel (k + 1) (linesP R o)) j = _
    rw [List.length_cons] at hn
    rw [fold_app _ _ st j _ (fold_ns (fun t ht => step_rule st (hg r List.mem_cons_self) he (by omega) t ht) _ _), ih ⟨st.rules ++ [r], st.other, st.ended⟩ _ _ (fun x hx => hg x (List.mem_cons_of_mem _ hx)) he (by simp only [List.length_append, List.length_cons, List.length_nil]; omega)]
    simp
def z0 : Rdr := ⟨[], false, false⟩
theorem fold_noise (sel : Nat → Int) {R : List Rl} (h : ∀ r ∈ R, r.Good) (o : Bool) (hn : R.length ≤ 256) : foldP z0 (nsl sel 0 (linesP R o)) 0 = .inl ⟨R, o, true⟩ := by
  rw [fold_rules sel o R z0 0 0 h rfl (by show 0 + _ ≤ _; omega)]
  rfl
theorem nsl_two (k : Nat) (ls : List (List UInt8)) : nsl (fun _ => 2) k ls = ls := by
  induction ls generalizing k with
  | nil => rfl
  | cons a ls ih => rw [nsl, ih]; rfl
theorem fold_plain {R : List Rl} (h : ∀ r ∈ R, r.Good) (o : Bool) (hn : R.length ≤ 256) : foldP z0 (linesP R o) 0 = .inl ⟨R, o, true⟩ := by
  have := fold_noise (fun _ => 2) h o hn
  rwa [nsl_two] at this
theorem lines_len (R : List Rl) (o : Bool) : (linesP R o).length = R.length + 1 := by simp [linesP]
theorem fold_more {R : List Rl} (h : ∀ r ∈ R, r.Good) (o : Bool) (hn : R.length ≤ 256) : foldP z0 (linesP R o ++ [othL false]) 0 = .inr (R.length + 2) := by
  rw [fold_app _ _ z0 0 _ (fold_plain h o hn), lines_len]
  simp only [foldP, step_more ⟨R, o, true⟩ false rfl]
  congr 1
  omega
/-! ### lengths -/
theorem rule_len {r : Rl} (h : r.Good) : (ruleL r).length ≤ 95 := by
  have h1 := hl_length h.ml
  have h2 := (name_all h.nm).2.1
  have h3 : (vL r.al).length ≤ 5 := by cases r.al <;> decide
  unfold ruleL
  simp only [List.length_append, List.length_cons]
  omega
theorem text_len {R : List Rl} (h : ∀ r ∈ R, r.Good) (o : Bool) : (textL (linesP R o)).length ≤ 96 * R.length + 12 := by
  induction R with
  | nil => cases o <;> decide
  | cons r R ih =>
    have e : linesP (r :: R) o = ruleL r :: linesP R o := rfl
    have e2 : textL (ruleL r :: linesP R o) = ruleL r ++ 10 :: textL (linesP R o) := by simp [textL]
    have h1 := rule_len (h r List.mem_cons_self)
    have h2 := ih fun x hx => h x (List.mem_cons_of_mem _ hx)
    rw [e, e2]
    simp only [List.length_append, List.length_cons]
    omega
theorem insB_len (x : Int) : (insB x).length ≤ 14 := by
  unfold insB
  split
  · decide
  · split <;> decide
theorem nz_len (sel : Nat → Int) : ∀ (l : List UInt8) (k : Nat), (nzO sel k l).length ≤ 15 * l.length := by
  intro l
  induction l with
  | nil => intro k; exact Nat.zero_le _
  | cons c t ih =>
    intro k
    have h := insB_len (sel (k + 1))
    rw [nzO]
    split
    · have := ih (k + 1)
      simp only [List.length_append, List.length_cons]
      omega
    · have := ih k
      simp only [List.length_cons]
      omega
theorem more_text (R : List Rl) (o : Bool) : textL (linesP R o) ++ [111, 116, 104, 101, 114, 32, 100, 101, 110, 121, 10] = textL (linesP R o ++ [othL false]) := by
  rw [textL_app, textL_one]
  rfl
end Go.Proofs.YtbpdmkohihgnjaaDoor
