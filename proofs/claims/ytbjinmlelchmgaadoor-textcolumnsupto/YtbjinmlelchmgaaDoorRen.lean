/- A line that is put together of words, as plain lists of bytes. -/
import Derived.Test.YtbjinmlelchmgaaDoorWrd0
namespace Go.Proofs.YtbjinmlelchmgaaDoor
namespace T
structure Pc where
  quoted : Bool
  b : List UInt8
  gap : Int
  tab : Bool
/-- May these bytes stand as a word that is not quoted? -/
def plainW (b : List UInt8) : Bool := match b with
  | [] => false
  | c :: _ => !(c.toNat == 34) && !(c.toNat == 35) && b.all fun c => !isGap c
def okP (p : Pc) : Bool := p.quoted || plainW p.b
def gapN (g : Int) : Nat := if g ≤ 1 then 1 else if 4 ≤ g then 4 else g.toNat
def padOf (p : Pc) : List UInt8 := (if p.tab then [9] else []) ++ List.replicate (gapN p.gap) 32
def wordOf (p : Pc) : List UInt8 := if p.quoted then quote p.b else p.b
/-- The line and the words of pieces, from place p on. -/
def ren : List Pc → Nat → List UInt8 × List Wd
  | [], _ => ([], [])
  | c :: cs, p => if okP c then
      let r := ren cs (p + (padOf c).length + (wordOf c).length)
      (padOf c ++ wordOf c ++ r.1, ⟨c.b, c.quoted, p + (padOf c).length + 1⟩ :: r.2)
    else ren cs p
theorem ren_append (a b : List Pc) : ∀ p, ren (a ++ b) p = ((ren a p).1 ++ (ren b (p + (ren a p).1.length)).1, (ren a p).2 ++ (ren b (p + (ren a p).1.length)).2) := by
  induction a with
  | nil => intro p; simp [ren]
  | cons c a ih =>
    intro p
    rw [List.cons_append, ren, ren]
    split
    · simp only [ih]
      have e : p + (padOf c).length + (wordOf c).length + (ren a (p + (padOf c).length + (wordOf c).length)).1.length = p + (padOf c ++ wordOf c ++ (ren a (p + (padOf c).length + (wordOf c).length)).1).length := by simp; omega
      rw [e]
      simp
    · exact ih p
theorem ren_skip (ps : List Pc) (k : Nat) (h : k < ps.length) (hn : okP ps[k] = false) : ren (ps.take (k + 1)) 0 = ren (ps.take k) 0 := by
  rw [List.take_succ_eq_append_getElem h, ren_append]
  simp [ren, hn]
theorem ren_take (ps : List Pc) (k : Nat) (h : k < ps.length) (hn : okP ps[k] = true) : (ren (ps.take (k + 1)) 0).1 = (ren (ps.take k) 0).1 ++ padOf ps[k] ++ wordOf ps[k] ∧ (ren (ps.take (k + 1)) 0).2 = (ren (ps.take k) 0).2 ++ [⟨ps[k].b, ps[k].quoted, (ren (ps.take k) 0).1.length + (padOf ps[k]).length + 1⟩] := by
  rw [List.take_succ_eq_append_getElem h, ren_append]
  simp [ren, hn]
theorem isGap32 : isGap 32 = true := by decide
theorem isGap9 : isGap 9 = true := by decide
theorem rd_gaps (g l : List UInt8) (h : g.all isGap = true) : ∀ p, rd (g ++ l) p = rd l (p + g.length) := by
  induction g with
  | nil => intro p; simp
  | cons c g ih =>
    intro p
    simp only [List.all_cons, Bool.and_eq_true] at h
    rw [List.cons_append, rd_gap _ _ h.1, ih h.2]
    congr 1
    simp
    omega
theorem padOf_gaps (c : Pc) : (padOf c).all isGap = true ∧ 1 ≤ (padOf c).length ∧ (padOf c).length ≤ 5 := by
  have h1 : 1 ≤ gapN c.gap ∧ gapN c.gap ≤ 4 := by unfold gapN; split <;> (try split) <;> omega
  refine ⟨?_, ?_, ?_⟩
  · unfold padOf
    rw [List.all_append, Bool.and_eq_true]
    refine ⟨?_, ?_⟩
    · split <;> simp [isGap9]
    · simp [isGap32]
  · unfold padOf; simp; omega
  · unfold padOf; split <;> simp <;> omega
theorem parted_gaps (g l : List UInt8) (h : g.all isGap = true) (h1 : 1 ≤ g.length) : parted (g ++ l) = true := by
  cases g with
  | nil => simp at h1
  | cons c g => simp only [List.all_cons, Bool.and_eq_true] at h; exact h.1
theorem plainN_word (b l : List UInt8) (h : (b.all fun c => !isGap c) = true) (hp : parted l = true) : plainN (b ++ l) = b.length := by
  induction b with
  | nil =>
    cases l with
    | nil => rfl
    | cons c l => simp [plainN, show isGap c = true from hp]
  | cons c b ih =>
    simp only [List.all_cons, Bool.and_eq_true] at h
    rw [List.cons_append, plainN_pos _ (by simpa using h.1), ih h.2]
    rfl
theorem rd_word (c : Pc) (hc : okP c = true) (l : List UInt8) (hp : parted l = true) (p : Nat) : rd (wordOf c ++ l) p = cons ⟨c.b, c.quoted, p + 1⟩ (rd l (p + (wordOf c).length)) := by
  unfold wordOf
  cases hq : c.quoted with
  | true =>
    simp only [if_true]
    rw [show quote c.b ++ l = 34 :: (quoteB c.b ++ 34 :: l) from by simp [quote]]
    have hu := unq_quote c.b l
    have hd : (quoteB c.b ++ 34 :: l).drop ((quoteB c.b).length + 1) = l := by
      rw [show quoteB c.b ++ 34 :: l = (quoteB c.b ++ [34]) ++ l from by simp]
      exact List.drop_left' (by simp)
    rw [rd_quoted _ _ _ _ (by decide) (by decide) hu (by rw [hd]; exact hp), hd]
    rw [show (quote c.b).length = (quoteB c.b).length + 2 from by simp [quote]]
    congr 2
    omega
  | false =>
    simp only [okP, hq, Bool.false_or] at hc
    simp only [Bool.false_eq_true, if_false]
    cases hb : c.b with
    | nil => rw [hb] at hc; cases hc
    | cons x b =>
      rw [hb] at hc
      simp only [plainW, Bool.and_eq_true, Bool.not_eq_true'] at hc
      obtain ⟨⟨h34, h35⟩, hall⟩ := hc
      have hx : isGap x = false := by
        have := List.all_eq_true.1 hall x (by simp)
        simpa using this
      have hn := plainN_word (x :: b) l hall hp
      rw [List.cons_append] at hn ⊢
      rw [rd_plain _ _ hx (by simpa using h35) (by simpa using h34), hn]
      rw [show (x :: (b ++ l)).take (x :: b).length = x :: b from by rw [← List.cons_append]; exact List.take_left' rfl]
      rw [show (x :: (b ++ l)).drop (x :: b).length = l from by rw [← List.cons_append]; exact List.drop_left' rfl]
theorem parted_ren (ps : List Pc) (l : List UInt8) (hp : parted l = true) : ∀ p, parted ((ren ps p).1 ++ l) = true := by
  induction ps with
  | nil => intro p; exact hp
  | cons c ps ih =>
    intro p
    rw [ren]
    split
    · simp only [List.append_assoc]
      exact parted_gaps _ _ (padOf_gaps c).1 (padOf_gaps c).2.1
    · exact ih p
theorem pre_pre (a : Wd) (b : List Wd) (r : Nat ⊕ List Wd) : cons a (pre b r) = pre (a :: b) r := by cases r <;> rfl
theorem rd_ren (ps : List Pc) (l : List UInt8) (hp : parted l = true) : ∀ p, rd ((ren ps p).1 ++ l) p = pre (ren ps p).2 (rd l (p + (ren ps p).1.length)) := by
  induction ps with
  | nil => intro p; simp [ren, pre_nil]
  | cons c ps ih =>
    intro p
    rw [ren]
    split
    · rename_i hc
      have hpg := padOf_gaps c
      simp only [List.append_assoc]
      rw [rd_gaps _ _ hpg.1, rd_word c hc _ (parted_ren ps l hp _), ih, pre_pre]
      congr 2
      simp
      omega
    · exact ih p
/-- With a comment behind it. -/
theorem words_ren (ps : List Pc) (cm : List UInt8) : rd ((ren ps 0).1 ++ ([32, 9, 35] ++ cm)) 0 = .inr (ren ps 0).2 := by
  rw [rd_ren ps _ rfl]
  rw [show ([32, 9, 35] : List UInt8) ++ cm = [32, 9] ++ (35 :: cm) from rfl, rd_gaps _ _ (by decide), rd_hash _ _ (by decide) (by decide)]
  simp [pre]
/-- A quoted word that is not parted from what follows. -/
theorem bad_ren (ps : List Pc) (cm : List UInt8) : rd ((ren ps 0).1 ++ ([32] ++ (quote cm ++ [120]))) 0 = .inl ((ren ps 0).1.length + 1 + (quote cm).length) := by
  rw [rd_ren ps _ rfl, rd_gaps _ _ (by decide)]
  rw [show quote cm ++ [120] = 34 :: (quoteB cm ++ 34 :: [120]) from by simp [quote]]
  have hu := unq_quote cm [120]
  have hd : (quoteB cm ++ 34 :: [120]).drop ((quoteB cm).length + 1) = [120] := by
    rw [show quoteB cm ++ 34 :: [120] = (quoteB cm ++ [34]) ++ [120] from by simp]
    exact List.drop_left' (by simp)
  rw [rd_joined _ _ _ _ (by decide) (by decide) hu (by rw [hd]; decide)]
  simp only [pre]
  rw [show (quote cm).length = (quoteB cm).length + 2 from by simp [quote]]
  congr 1
  simp
  omega
def total : List Pc → Nat
  | [] => 0
  | c :: cs => 4 * c.b.length + 7 + total cs
theorem ren_length (ps : List Pc) : ∀ p, (ren ps p).1.length ≤ total ps ∧ (ren ps p).2.length ≤ ps.length := by
  induction ps with
  | nil => intro p; simp [ren, total]
  | cons c ps ih =>
    intro p
    rw [ren]
    split
    · have h1 := (padOf_gaps c).2.2
      have h2 := ih (p + (padOf c).length + (wordOf c).length)
      have h3 : (wordOf c).length ≤ 4 * c.b.length + 2 := by
        unfold wordOf
        split
        · exact (quote_length c.b).2
        · omega
      simp [total]
      omega
    · have := ih p
      simp [total]
      omega
theorem total_take (ps : List Pc) (k : Nat) : total (ps.take k) ≤ total ps := by
  induction ps generalizing k with
  | nil => simp
  | cons c ps ih =>
    cases k with
    | zero => simp [total]
    | succ k => have := ih k; simp [total]; omega
theorem total_append (a b : List Pc) : total (a ++ b) = total a + total b := by
  induction a with
  | nil => simp [total]
  | cons c a ih => simp [total, ih]; omega
theorem total_snoc (ps : List Pc) (k : Nat) (h : k < ps.length) : total (ps.take (k + 1)) = total (ps.take k) + (4 * ps[k].b.length + 7) := by
  rw [List.take_succ_eq_append_getElem h, total_append]
  simp [total]
end T
end Go.Proofs.YtbjinmlelchmgaaDoor
