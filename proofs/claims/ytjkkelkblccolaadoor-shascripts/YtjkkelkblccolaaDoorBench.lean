/- Six digests, the program's and the reference's. -/
import Derived.Test.YtjkkelkblccolaaDoorRDLoad
namespace Go.Proofs.YtjkkelkblccolaaDoor
open Go.RowKit

/-- The cells of a Bench: six pointers, six digests of ten cells. -/
def benC (ps : List Value) (rs : List (List Value)) : List Value := ps ++ rs.flatten
def Tens (rs : List (List Value)) : Prop := ∀ r ∈ rs, r.length = 10
theorem tens_len {rs : List (List Value)} (h : Tens rs) : rs.flatten.length = 10 * rs.length := by
  induction rs with
  | nil => rfl
  | cons r rs ih =>
    have := ih fun x hx => h x (by simp [hx])
    have := h r (by simp)
    rw [List.flatten_cons, List.length_append, List.length_cons]
    omega
theorem tens_take {rs : List (List Value)} (h : Tens rs) (k : Nat) : rs.flatten.take (10 * k) = (rs.take k).flatten := by
  induction rs generalizing k with
  | nil => simp
  | cons r rs ih =>
    have hr := h r (by simp)
    cases k with
    | zero => simp
    | succ k =>
      rw [List.flatten_cons, List.take_succ_cons, List.flatten_cons, show 10 * (k + 1) = r.length + 10 * k by omega, List.take_length_add_append, ih (fun x hx => h x (by simp [hx])) k]
theorem tens_drop {rs : List (List Value)} (h : Tens rs) (k : Nat) : rs.flatten.drop (10 * k) = (rs.drop k).flatten := by
  induction rs generalizing k with
  | nil => simp
  | cons r rs ih =>
    have hr := h r (by simp)
    cases k with
    | zero => simp
    | succ k =>
      rw [List.flatten_cons, List.drop_succ_cons, show 10 * (k + 1) = r.length + 10 * k by omega, List.drop_length_add_append, ih (fun x hx => h x (by simp [hx])) k]
theorem tens_set {rs : List (List Value)} (h : Tens rs) (k : Nat) (R : List Value) (hR : R.length = 10) : Tens (rs.set k R) := fun r hr => by
  rcases List.mem_or_eq_of_mem_set hr with h1 | rfl
  · exact h r h1
  · exact hR
/-- A digest's cells, read out of the Bench's. -/
theorem ben_range {ps : List Value} {rs : List (List Value)} (hp : ps.length = 6) (h : Tens rs) (k : Nat) (R : List Value) (hk : rs[k]? = some R) (j : Nat) (hj : j < 10) : (benC ps rs)[6 + 10 * k + j]? = R[j]? := by
  have hR := h R (List.mem_of_getElem? hk)
  unfold benC
  rw [List.getElem?_append_right (by omega), hp, show 6 + 10 * k + j - 6 = 10 * k + j by omega, ← List.getElem?_drop, tens_drop h k]
  rw [List.drop_eq_getElem_cons (List.getElem?_eq_some_iff.1 hk).1, (List.getElem?_eq_some_iff.1 hk).2, List.flatten_cons, List.getElem?_append_left (by omega)]
theorem ben_ptr {ps : List Value} {rs : List (List Value)} (hp : ps.length = 6) (k : Nat) (hk : k < 6) : (benC ps rs)[k]? = ps[k]? := by
  unfold benC
  rw [List.getElem?_append_left (by omega)]
theorem ben_setp {ps : List Value} {rs : List (List Value)} (hp : ps.length = 6) (k : Nat) (hk : k < 6) (v : Value) : (benC ps rs).set k v = benC (ps.set k v) rs := by
  unfold benC
  rw [List.set_append_left _ _ (by omega)]
theorem ben_setr {ps : List Value} {rs : List (List Value)} (hp : ps.length = 6) (h : Tens rs) (k : Nat) (hk : k < rs.length) (R : List Value) (hR : R.length = 10) : splice (benC ps rs) (6 + 10 * k) R = benC ps (rs.set k R) := by
  unfold splice benC
  have e1 : (ps ++ rs.flatten).take (6 + 10 * k) = ps ++ (rs.take k).flatten := by
    rw [show 6 + 10 * k = ps.length + 10 * k by omega, List.take_length_add_append, tens_take h k]
  have e2 : (ps ++ rs.flatten).drop (6 + 10 * k + R.length) = (rs.drop (k + 1)).flatten := by
    rw [show 6 + 10 * k + R.length = ps.length + 10 * (k + 1) by omega, List.drop_length_add_append, tens_drop h (k + 1)]
  rw [e1, e2, List.set_eq_take_append_cons_drop, if_pos hk]
  simp
theorem ben_length {ps : List Value} {rs : List (List Value)} (hp : ps.length = 6) (h : Tens rs) (hr : rs.length = 6) : (benC ps rs).length = 66 := by
  unfold benC
  rw [List.length_append, tens_len h]
  omega
/-- One slot: the program's digest and the reference's are one. -/
def Slot (w : World) (ps : List Value) (rs : List (List Value)) (k : Nat) : Prop :=
  ∃ g A n p ao c, ps[k]? = some (.pointer (some ⟨g, 0, none⟩)) ∧ Dig w g A n p ∧ rs[k]? = some (rdC A (.slice ao p.length c) (n : Int)) ∧ p.length ≤ c ∧ Wat w ao p ∧ (Wds p ∧ Wds A)
/-- The bench: the slots below m are good. -/
structure Ben (W w : World) (gb m : Nat) (ps : List Value) (rs : List (List Value)) : Prop where
  pl : ps.length = 6
  rl : rs.length = 6
  ten : Tens rs
  cel : Cel w gb 62 (benC ps rs)
  new : W.heap.size ≤ gb
  low : Below W.heap.size W w
  slot : ∀ k, k < m → Slot w ps rs k
  own : ∀ k g, k < m → ps[k]? = some (.pointer (some ⟨g, 0, none⟩)) → W.heap.size ≤ g
  apart : ∀ i j, i < m → j < m → i ≠ j → ps[i]? ≠ ps[j]?
theorem Dig.cel {w : World} {g : Nat} {A : List Int} {n : Nat} {p : List Int} (h : Dig w g A n p) : ∃ cs, Cel w g 73 cs := by
  obtain ⟨r, _, h⟩ := h.cells
  exact ⟨_, h⟩
theorem cel_ne {w : World} {g g' : Nat} {t t' : TypeId} {cs cs' : List Value} (h : Cel w g t cs) (h' : Cel w g' t' cs') (ht : t ≠ t') : g ≠ g' := fun e => by
  subst e
  have := Option.some.inj (h.symm.trans h')
  injection this with _ e2 _
  exact ht e2
theorem Slot.below {w w' : World} {ps : List Value} {rs : List (List Value)} {k : Nat} (h : Slot w ps rs k) (hb : Below w.heap.size w w') : Slot w' ps rs k := by
  obtain ⟨g, A, n, p, ao, c, h1, h2, h3, h4, h5, h6⟩ := h
  exact ⟨g, A, n, p, ao, c, h1, h2.below hb h2.lt, h3, h4, h5.below hb, h6⟩
theorem Ben.below {W w w' : World} {gb m : Nat} {ps : List Value} {rs : List (List Value)} (h : Ben W w gb m ps rs) (hb : Below w.heap.size w w') : Ben W w' gb m ps rs :=
  ⟨h.pl, h.rl, h.ten, h.cel.below hb h.cel.lt, h.new, h.low.trans (hb.mono h.low.size), fun k hk => (h.slot k hk).below hb, h.own, h.apart⟩
/-- A slot, where the bench's own block has turned. -/
theorem Slot.ben {w w' : World} {ps ps' : List Value} {rs rs' : List (List Value)} {k gb : Nat} {cs : List Value} (h : Slot w ps rs k) (hc : Cel w gb 62 cs) (hb : But gb w w') (hp : ps'[k]? = ps[k]?) (hr : rs'[k]? = rs[k]?) : Slot w' ps' rs' k := by
  obtain ⟨g, A, n, p, ao, c, h1, h2, h3, h4, h5, h6⟩ := h
  obtain ⟨ds, hd⟩ := h2.cel
  exact ⟨g, A, n, p, ao, c, hp.trans h1, h2.but hb (cel_ne hd hc (by decide)), hr.trans h3, h4, h5.but hc (by decide) hb, h6⟩
/-- A slot, where another digest's block has turned. -/
theorem Slot.dig {w w' : World} {ps : List Value} {rs : List (List Value)} {k gd : Nat} {cs : List Value} (h : Slot w ps rs k) (hc : Cel w gd 73 cs) (hne : ps[k]? ≠ some (.pointer (some ⟨gd, 0, none⟩))) (hb : But gd w w') : Slot w' ps rs k := by
  obtain ⟨g, A, n, p, ao, c, h1, h2, h3, h4, h5, h6⟩ := h
  have hg : g ≠ gd := fun e => hne (by rw [h1, e])
  exact ⟨g, A, n, p, ao, c, h1, h2.but hb hg, h3, h4, h5.but hc (by decide) hb, h6⟩
/-- A slot is filled anew. -/
theorem Ben.put {W w w' : World} {gb m m' k : Nat} {ps : List Value} {rs : List (List Value)} (B : Ben W w gb m ps rs) (hk : k < 6) (hm : ∀ i, i < m' → i = k ∨ i < m) {g n c : Nat} {A p : List Int} {ao : Option Addr}
    (hD : Dig w g A n p) (hg : W.heap.size ≤ g) (hf : ∀ i, i < m → i ≠ k → ps[i]? ≠ some (.pointer (some ⟨g, 0, none⟩))) (hc : p.length ≤ c) (hw : Wat w ao p) (wp : Wds p ∧ Wds A) (hb : But gb w w')
    (hC : Cel w' gb 62 (benC (ps.set k (.pointer (some ⟨g, 0, none⟩))) (rs.set k (rdC A (.slice ao p.length c) (n : Int))))) : Ben W w' gb m' (ps.set k (.pointer (some ⟨g, 0, none⟩))) (rs.set k (rdC A (.slice ao p.length c) (n : Int))) := by
  have hpk : (ps.set k (.pointer (some ⟨g, 0, none⟩)))[k]? = some (.pointer (some ⟨g, 0, none⟩)) := by rw [List.getElem?_set]; simp [B.pl, hk]
  have hrk : (rs.set k (rdC A (.slice ao p.length c) (n : Int)))[k]? = some (rdC A (.slice ao p.length c) (n : Int)) := by rw [List.getElem?_set]; simp [B.rl, hk]
  have hpo : ∀ i, i ≠ k → (ps.set k (.pointer (some ⟨g, 0, none⟩)))[i]? = ps[i]? := fun i hi => by rw [List.getElem?_set]; simp [Ne.symm hi]
  have hro : ∀ i, i ≠ k → (rs.set k (rdC A (.slice ao p.length c) (n : Int)))[i]? = rs[i]? := fun i hi => by rw [List.getElem?_set]; simp [Ne.symm hi]
  obtain ⟨ds, hds⟩ := hD.cel
  refine ⟨by rw [List.length_set, B.pl], by rw [List.length_set, B.rl], tens_set B.ten _ _ (rdC_length _ _ _ hD.al), hC, B.new, B.low.trans (hb.below B.new B.low.size), ?_, ?_, ?_⟩
  · intro i hi
    by_cases hik : i = k
    · subst hik
      exact ⟨g, A, n, p, ao, c, hpk, hD.but hb (cel_ne hds B.cel (by decide)), hrk, hc, hw.but B.cel (by decide) hb, wp⟩
    · exact (B.slot i ((hm i hi).resolve_left hik)).ben B.cel hb (hpo i hik) (hro i hik)
  · intro i g' hi he
    by_cases hik : i = k
    · subst hik
      rw [hpk] at he
      obtain rfl : g = g' := by simpa using he
      exact hg
    · rw [hpo i hik] at he
      exact B.own i g' ((hm i hi).resolve_left hik) he
  · intro i j hi hj hij
    by_cases hik : i = k
    · subst hik
      rw [hpk, hpo j (Ne.symm hij)]
      exact Ne.symm (hf j ((hm j hj).resolve_left (Ne.symm hij)) (Ne.symm hij))
    · by_cases hjk : j = k
      · subst hjk
        rw [hpk, hpo i hik]
        exact hf i ((hm i hi).resolve_left hik) hik
      · rw [hpo i hik, hpo j hjk]
        exact B.apart i j ((hm i hi).resolve_left hik) ((hm j hj).resolve_left hjk) hij
/-- A new digest's block is none of the bench's. -/
theorem Ben.fresh {W w : World} {gb m : Nat} {ps : List Value} {rs : List (List Value)} (B : Ben W w gb m ps rs) (g : Nat) (hg : w.heap.size ≤ g) (i : Nat) (hi : i < m) : ps[i]? ≠ some (.pointer (some ⟨g, 0, none⟩)) := fun h => by
  obtain ⟨g', A, n, p, ao, c, h1, h2, _⟩ := B.slot i hi
  rw [h1] at h
  have : g' = g := by simpa using h
  have := h2.lt
  omega
theorem wp_store_vals {P : Program} {op : Oper} {a : Act} {w : World} {K : Act → World → Prop} {Q : Exit → Act → World → Prop} (ty : TypeId) (x y : Operand) (ho : op.op = .store ty x y)
    (g off : Nat) (vs : List Value) (hx : a.eval x = .pointer (some ⟨g, off, none⟩)) (hy : a.eval y = .agg vs.toArray) {e : TypeId} {cs : List Value} (hg : Cel w g e cs) (hi : (P.info? ty).map (·.size) = some vs.length) (hl : off + vs.length ≤ cs.length) (h1 : ∀ v ∈ vs, v.oneCell' = true)
    (h : K (a.put op.dst undef) (w.setRow g (splice cs off vs).toArray)) : op.wp P a w K Q := by
  have h0 := run_storeCells_at P g off e vs 0 _ w hg (by simpa using hl) h1
  have hs : (storeVar ty ⟨g, off, none⟩ (.agg vs.toArray)).run P w = .ok () (w.setRow g (splice cs off vs).toArray) := by
    cases hq : P.info? ty with
    | none => simp [hq] at hi
    | some i =>
      have hs : vs.length = i.size := by simp [hq] at hi; omega
      simp [storeVar, sizeOf, typeInfo, hq, Value.cells, hs, h0, splice]
  unfold Oper.wp execOp
  simp only [ho, hx, hy, Instr.storeAt, Instr.sureAddr, Sem.run_bind, Sem.run_pure, Result.andThen_ok, hs]
  exact h
/-- The bench's block, a digest of the reference's laid into it. -/
theorem ben_store {w : World} {gb k : Nat} {ps : List Value} {rs : List (List Value)} {R : List Value} (hc : Cel w gb 62 (benC ps rs)) (hp : ps.length = 6) (hr : rs.length = 6) (h : Tens rs) (hk : k < 6) (hR : R.length = 10) : Cel (w.setRow gb (splice (benC ps rs) (6 + 10 * k) R).toArray) gb 62 (benC ps (rs.set k R)) := by
  have := setRow_heap w gb _ (splice (benC ps rs) (6 + 10 * k) R).toArray 62 _ hc
  rw [ben_setr hp h k (by omega) R hR] at this ⊢
  exact this
/-- One digest has turned, and the reference's beside it; all else that was there stays. -/
theorem Ben.turn {W w w' : World} {gb k : Nat} {ps : List Value} {rs : List (List Value)} (B : Ben W w gb 6 ps rs) (hk : k < 6) {g n c : Nat} {A p : List Int} {ao : Option Addr} {ds : List Value}
    (hp : ps[k]? = some (.pointer (some ⟨g, 0, none⟩))) (hds : Cel w g 73 ds) (hlow : Below W.heap.size W w') (F : ∀ b, b < w.heap.size → b ≠ g → b ≠ gb → w'.heap[b]? = w.heap[b]?)
    (hD : Dig w' g A n p) (hc : p.length ≤ c) (hw : Wat w' ao p) (wp : Wds p ∧ Wds A) (hC : Cel w' gb 62 (benC ps (rs.set k (rdC A (.slice ao p.length c) (n : Int))))) : Ben W w' gb 6 ps (rs.set k (rdC A (.slice ao p.length c) (n : Int))) := by
  refine ⟨B.pl, by rw [List.length_set, B.rl], tens_set B.ten _ _ (rdC_length _ _ _ hD.al), hC, B.new, hlow, ?_, B.own, B.apart⟩
  intro i hi
  by_cases hik : i = k
  · subst hik
    exact ⟨g, A, n, p, ao, c, hp, hD, by rw [List.getElem?_set]; simp [B.rl, hk], hc, hw, wp⟩
  · obtain ⟨g', A', n', p', ao', c', h1, h2, h3, h4, h5, h6⟩ := B.slot i hi
    have hgg : g' ≠ g := fun h => B.apart i k hi hk hik (by rw [h1, hp, h])
    obtain ⟨r, hr, hcel⟩ := h2.cells
    have hcel' : Cel w' g' 73 (digC A' n' (p' ++ r)) := (F g' hcel.lt hgg (cel_ne hcel B.cel (by decide))).trans hcel
    refine ⟨g', A', n', p', ao', c', h1, ⟨h2.al, h2.nl, h2.pl, r, hr, hcel'⟩, by rw [List.getElem?_set]; simpa [Ne.symm hik] using h3, h4, ?_, h6⟩
    rcases h5 with h5 | ⟨b, off, cs, h51, h52, h53⟩
    · exact .inl h5
    · have hb := F b h52.lt (cel_ne h52 hds (by decide)) (cel_ne h52 B.cel (by decide))
      exact .inr ⟨b, off, cs, h51, hb.trans h52, fun t ht => (World.cell?_of_block (w := w) (a := ⟨b, off + t, none⟩) hb).trans (h53 t ht)⟩
end Go.Proofs.YtjkkelkblccolaaDoor
