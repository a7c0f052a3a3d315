import Derived.Test.YtlfnpllojinjdaaDoorKeeps3
import Derived.Deep.QuietTactic
import Derived.BigQuiet
import Derived.ArgAppend
namespace Go.Proofs.YtlfnpllojinjdaaDoor
open Go.RowKit

/-- What is known of one row of the book. -/
structure Ent where
  gl : Nat
  gb : Nat
  n : Nat
  mark : Int
  mo : Value
  ex : Value
  lw : List Int
  lb : List Int
def Ent.cells (e : Ent) : List Value := [.slice (some ⟨e.gl, 0, none⟩) e.n e.n, e.mo, .slice (some ⟨e.gb, 0, none⟩) (4 * e.n) (4 * e.n), e.ex, .int .i64 e.mark]

/-- The book: m rows, each with two blocks of its own. -/
structure Bk (W wr : World) (v : Value) (m : Nat) (E : Nat → Ent) : Prop where
  own : ∃ xs, wr.ownsRow W.heap.size 61 5 v m xs ∧ ∀ i f, i < m → f < 5 → xs[i * 5 + f]? = (E i).cells[f]?
  below : Below W.heap.size W wr
  lw : ∀ i, i < m → Blk wr (E i).gl .u32 22 (E i).lw
  lb : ∀ i, i < m → Blk wr (E i).gb .u8 5 (E i).lb
  gw : ∀ i, i < m → W.heap.size ≤ (E i).gl ∧ W.heap.size ≤ (E i).gb
  len : ∀ i, i < m → (E i).lw.length = (E i).n ∧ (E i).lb.length = 4 * (E i).n
  sl : ∀ i j, i < m → j < m → (E i).gl = (E j).gl → i = j
  sb : ∀ i j, i < m → j < m → (E i).gb = (E j).gb → i = j
def upd (E : Nat → Ent) (i : Nat) (e : Ent) : Nat → Ent := fun j => if j = i then e else E j
theorem upd_same (E : Nat → Ent) (i : Nat) (e : Ent) : upd E i e i = e := if_pos rfl
theorem upd_other (E : Nat → Ent) (i j : Nat) (e : Ent) (h : j ≠ i) : upd E i e j = E j := if_neg h

theorem Bk.carry {W wr w' : World} {v : Value} {m : Nat} {E : Nat → Ent} (h : Bk W wr v m E) (hb : Below wr.heap.size wr w') : Bk W w' v m E := by
  obtain ⟨⟨xs, h1, h2⟩, hbl, lw, lb, r1, r2, r3, r4⟩ := h
  exact ⟨⟨xs, ownsRow_below h1 hb, h2⟩, hbl.trans (hb.mono hbl.size), fun i hi => (lw i hi).below hb (lw i hi).lt, fun i hi => (lb i hi).below hb (lb i hi).lt, r1, r2, r3, r4⟩
theorem Bk.form {W wr : World} {v : Value} {m : Nat} {E : Nat → Ent} (h : Bk W wr v m E) : ∃ ao cap, v = .slice ao m cap ∧ m ≤ cap ∧ (0 < m → ∃ gk, ao = some ⟨gk, 0, none⟩) := by
  obtain ⟨⟨xs, h1, _⟩, _⟩ := h
  rcases h1.2 with ⟨rfl, rfl⟩ | ⟨g, cap, cur, rfl, _, _, hc, _⟩
  · exact ⟨none, 0, rfl, Nat.le_refl _, fun h => absurd h (by omega)⟩
  · exact ⟨_, cap, rfl, hc, fun _ => ⟨g, rfl⟩⟩
theorem Bk.cell {W wr : World} {gk m cap : Nat} {E : Nat → Ent} (h : Bk W wr (.slice (some ⟨gk, 0, none⟩) m cap) m E) (i f : Nat) (hi : i < m) (hf : f < 5) : wr.cell? ⟨gk, i * 5 + f, none⟩ = (E i).cells[f]? := by
  obtain ⟨⟨xs, h1, h2⟩, _⟩ := h
  rw [h1.cellAt (i * 5 + f) (by omega)]
  exact h2 i f hi hf
theorem Bk.free {W wr : World} {gk m cap : Nat} {E : Nat → Ent} (h : Bk W wr (.slice (some ⟨gk, 0, none⟩) m cap) m E) (j : Nat) : wr.frozen? ⟨gk, j, none⟩ = false := by
  obtain ⟨⟨xs, h1, h2⟩, _⟩ := h
  exact h1.frozenAt j
theorem Bk.lt {W wr : World} {gk m cap : Nat} {E : Nat → Ent} (h : Bk W wr (.slice (some ⟨gk, 0, none⟩) m cap) m E) : W.heap.size ≤ gk ∧ gk < wr.heap.size := by
  obtain ⟨⟨xs, h1, h2⟩, _⟩ := h
  exact h1.lt gk rfl
theorem own_type {w : World} {base : Nat} {e : TypeId} {size g n cap : Nat} {xs : List Value} (h : w.ownsRow base e size (.slice (some ⟨g, 0, none⟩) n cap) n xs) : ∃ cs, w.heap[g]? = some (.cells cs e (0, 0)) := by
  rcases h.2 with ⟨h', _⟩ | ⟨g', cap', cur, hv, _, hh, _⟩
  · simp at h'
  · simp only [Value.slice.injEq, Option.some.injEq, Addr.mk.injEq, and_true, true_and] at hv
    obtain ⟨rfl, rfl⟩ := hv
    exact ⟨cur, hh⟩
theorem Bk.nel {W wr : World} {gk m cap : Nat} {E : Nat → Ent} (h : Bk W wr (.slice (some ⟨gk, 0, none⟩) m cap) m E) (i : Nat) (hi : i < m) : gk ≠ (E i).gl := by
  obtain ⟨⟨xs, h1, h2⟩, _, lw, _⟩ := h
  obtain ⟨cs, hc⟩ := own_type h1
  intro e
  have := lw i hi
  unfold Blk at this
  rw [← e, hc] at this
  simp at this
theorem Bk.neb {W wr : World} {gk m cap : Nat} {E : Nat → Ent} (h : Bk W wr (.slice (some ⟨gk, 0, none⟩) m cap) m E) (i : Nat) (hi : i < m) : gk ≠ (E i).gb := by
  obtain ⟨⟨xs, h1, h2⟩, _, _, lb, _⟩ := h
  obtain ⟨cs, hc⟩ := own_type h1
  intro e
  have := lb i hi
  unfold Blk at this
  rw [← e, hc] at this
  simp at this
theorem Bk.nlb {W wr : World} {v : Value} {m : Nat} {E : Nat → Ent} (h : Bk W wr v m E) (i j : Nat) (hi : i < m) (hj : j < m) : (E i).gl ≠ (E j).gb := by
  intro e
  have h1 := h.lw i hi
  have h2 := h.lb j hj
  unfold Blk at h1 h2
  rw [e, h2] at h1
  simp at h1
theorem Blk.other {w : World} {g b j : Nat} {k : IntKind} {e : TypeId} {L : List Int} (h : Blk w g k e L) (u : Value) (hb : g ≠ b) : Blk (w.setCell ⟨b, j, none⟩ u) g k e L := by
  unfold Blk at h ⊢
  rw [heap_setCell_other w ⟨b, j, none⟩ g u hb, h]
theorem Blk.set {w : World} {g : Nat} {k : IntKind} {e : TypeId} {L : List Int} (h : Blk w g k e L) (j : Nat) (u : Int) : Blk (w.setCell ⟨g, j, none⟩ (.int k u)) g k e (L.set j u) := by
  unfold Blk at h ⊢
  rw [heap_setCell_same w g j _ e _ h, List.setIfInBounds_toArray, List.map_set]
theorem own_other {w : World} {base : Nat} {e : TypeId} {size : Nat} {v : Value} {n : Nat} {xs : List Value} {b j : Nat} (h : w.ownsRow base e size v n xs) (u : Value) (hb : v.ownBlock ≠ some b) : (w.setCell ⟨b, j, none⟩ u).ownsRow base e size v n xs := by
  refine ⟨h.1, ?_⟩
  rcases h.2 with hn | ⟨g, cap, cur, rfl, hg, hgg, rest⟩
  · exact .inl hn
  · refine .inr ⟨g, cap, cur, rfl, hg, ?_, rest⟩
    rw [heap_setCell_other w ⟨b, j, none⟩ g u (fun e => hb (by simp [Value.ownBlock, e])), hgg]
theorem Blk.free {W : World} {g : Nat} {k : IntKind} {e : TypeId} {L : List Int} (h : Blk W g k e L) (j : Nat) : W.frozen? ⟨g, j, none⟩ = false := frozen_of_row W g j _ e h
theorem Blk.cell {W : World} {g : Nat} {k : IntKind} {e : TypeId} {L : List Int} (h : Blk W g k e L) (j : Nat) (hj : j < L.length) : W.cell? ⟨g, j, none⟩ = some (.int k (L.getD j 0)) := by
  have := h.row j hj
  rwa [Nat.zero_add] at this

/-- A row's field is stored. -/
theorem Bk.put {W wr : World} {gk m cap : Nat} {E : Nat → Ent} (h : Bk W wr (.slice (some ⟨gk, 0, none⟩) m cap) m E) (i f : Nat) (hi : i < m) (hf : f < 5) (u : Value) (e : Ent)
    (hc : ∀ f', f' < 5 → (if f' = f then some u else (E i).cells[f']?) = e.cells[f']?) (h1 : e.gl = (E i).gl) (h2 : e.gb = (E i).gb) (h3 : e.n = (E i).n) (h4 : e.lw = (E i).lw) (h5 : e.lb = (E i).lb) :
    Bk W (wr.setCell ⟨gk, i * 5 + f, none⟩ u) (.slice (some ⟨gk, 0, none⟩) m cap) m (upd E i e) := by
  have nl := h.nel
  have nb := h.neb
  have hlt := h.lt
  obtain ⟨⟨xs, o1, o2⟩, hbl, lw, lb, gw, len, sl, sb⟩ := h
  have eg : ∀ j, (upd E i e j).gl = (E j).gl := fun j => by unfold upd; split <;> simp_all
  have eb : ∀ j, (upd E i e j).gb = (E j).gb := fun j => by unfold upd; split <;> simp_all
  have en : ∀ j, (upd E i e j).n = (E j).n := fun j => by unfold upd; split <;> simp_all
  have ew : ∀ j, (upd E i e j).lw = (E j).lw := fun j => by unfold upd; split <;> simp_all
  have ey : ∀ j, (upd E i e j).lb = (E j).lb := fun j => by unfold upd; split <;> simp_all
  refine ⟨⟨xs.set (i * 5 + f) u, (o1.stored _ u).1, ?_⟩, hbl.setCell hlt.1 u, ?_, ?_, ?_, ?_, ?_, ?_⟩
  · intro j f' hj hf'
    have hx : xs.length = m * 5 := o1.1
    rw [List.getElem?_set]
    by_cases hji : j = i
    · subst hji
      rw [upd_same, ← hc f' hf']
      by_cases hff : f' = f
      · subst hff
        rw [if_pos rfl, if_pos rfl, if_pos (by omega)]
      · rw [if_neg (by omega), if_neg hff]
        exact o2 j f' hj hf'
    · rw [upd_other _ _ _ _ hji, if_neg (by omega)]
      exact o2 j f' hj hf'
  · intro j hj
    rw [eg, ew]
    exact (lw j hj).other u (nl j hj).symm
  · intro j hj
    rw [eb, ey]
    exact (lb j hj).other u (nb j hj).symm
  · intro j hj; rw [eg, eb]; exact gw j hj
  · intro j hj; rw [ew, ey, en]; exact len j hj
  · intro j j' hj hj'; rw [eg, eg]; exact sl j j' hj hj'
  · intro j j' hj hj'; rw [eb, eb]; exact sb j j' hj hj'
theorem Bk.setMark {W wr : World} {gk m cap : Nat} {E : Nat → Ent} (h : Bk W wr (.slice (some ⟨gk, 0, none⟩) m cap) m E) (i : Nat) (hi : i < m) (u : Int) :
    Bk W (wr.setCell ⟨gk, i * 5 + 4, none⟩ (.int .i64 u)) (.slice (some ⟨gk, 0, none⟩) m cap) m (upd E i { E i with mark := u }) := by
  refine h.put i 4 hi (by decide) _ _ ?_ rfl rfl rfl rfl rfl
  intro f' hf'
  match f', hf' with
  | 0, _ => rfl
  | 1, _ => rfl
  | 2, _ => rfl
  | 3, _ => rfl
  | 4, _ => rfl
theorem Bk.setMore {W wr : World} {gk m cap : Nat} {E : Nat → Ent} (h : Bk W wr (.slice (some ⟨gk, 0, none⟩) m cap) m E) (i : Nat) (hi : i < m) (u : Value) :
    Bk W (wr.setCell ⟨gk, i * 5 + 1, none⟩ u) (.slice (some ⟨gk, 0, none⟩) m cap) m (upd E i { E i with mo := u }) := by
  refine h.put i 1 hi (by decide) _ _ ?_ rfl rfl rfl rfl rfl
  intro f' hf'
  match f', hf' with
  | 0, _ => rfl
  | 1, _ => rfl
  | 2, _ => rfl
  | 3, _ => rfl
  | 4, _ => rfl
theorem Bk.setExtra {W wr : World} {gk m cap : Nat} {E : Nat → Ent} (h : Bk W wr (.slice (some ⟨gk, 0, none⟩) m cap) m E) (i : Nat) (hi : i < m) (u : Value) :
    Bk W (wr.setCell ⟨gk, i * 5 + 3, none⟩ u) (.slice (some ⟨gk, 0, none⟩) m cap) m (upd E i { E i with ex := u }) := by
  refine h.put i 3 hi (by decide) _ _ ?_ rfl rfl rfl rfl rfl
  intro f' hf'
  match f', hf' with
  | 0, _ => rfl
  | 1, _ => rfl
  | 2, _ => rfl
  | 3, _ => rfl
  | 4, _ => rfl
theorem Bk.setW {W wr : World} {gk m cap : Nat} {E : Nat → Ent} (h : Bk W wr (.slice (some ⟨gk, 0, none⟩) m cap) m E) (i : Nat) (hi : i < m) (j : Nat) (u : Int) :
    Bk W (wr.setCell ⟨(E i).gl, j, none⟩ (.int .u32 u)) (.slice (some ⟨gk, 0, none⟩) m cap) m (upd E i { E i with lw := (E i).lw.set j u }) := by
  have nl := h.nel
  have nlb := h.nlb
  obtain ⟨⟨xs, o1, o2⟩, hbl, lw, lb, gw, len, sl, sb⟩ := h
  have eg : ∀ j', (upd E i { E i with lw := (E i).lw.set j u } j').gl = (E j').gl := fun j' => by unfold upd; split <;> simp_all
  have eb : ∀ j', (upd E i { E i with lw := (E i).lw.set j u } j').gb = (E j').gb := fun j' => by unfold upd; split <;> simp_all
  have en : ∀ j', (upd E i { E i with lw := (E i).lw.set j u } j').n = (E j').n := fun j' => by unfold upd; split <;> simp_all
  have ey : ∀ j', (upd E i { E i with lw := (E i).lw.set j u } j').lb = (E j').lb := fun j' => by unfold upd; split <;> simp_all
  have ec : ∀ j', (upd E i { E i with lw := (E i).lw.set j u } j').cells = (E j').cells := fun j' => by unfold upd; split <;> simp_all [Ent.cells]
  refine ⟨⟨xs, own_other o1 _ (by simpa [Value.ownBlock] using nl i hi), fun j' f hj hf => by rw [ec]; exact o2 j' f hj hf⟩, hbl.setCell (gw i hi).1 _, ?_, ?_, ?_, ?_, ?_, ?_⟩
  · intro j' hj
    rw [eg]
    by_cases hji : j' = i
    · subst hji
      rw [upd_same]
      exact (lw j' hj).set j u
    · rw [upd_other _ _ _ _ hji]
      exact (lw j' hj).other _ (fun e => hji (sl j' i hj hi e))
  · intro j' hj
    rw [eb, ey]
    exact (lb j' hj).other _ (fun e => nlb i j' hi hj e.symm)
  · intro j' hj; rw [eg, eb]; exact gw j' hj
  · intro j' hj
    rw [ey, en]
    refine ⟨?_, (len j' hj).2⟩
    by_cases hji : j' = i
    · subst hji; rw [upd_same]; simpa using (len j' hj).1
    · rw [upd_other _ _ _ _ hji]; exact (len j' hj).1
  · intro j1 j2 hj hj'; rw [eg, eg]; exact sl j1 j2 hj hj'
  · intro j1 j2 hj hj'; rw [eb, eb]; exact sb j1 j2 hj hj'
theorem Bk.setB {W wr : World} {gk m cap : Nat} {E : Nat → Ent} (h : Bk W wr (.slice (some ⟨gk, 0, none⟩) m cap) m E) (i : Nat) (hi : i < m) (j : Nat) (u : Int) :
    Bk W (wr.setCell ⟨(E i).gb, j, none⟩ (.int .u8 u)) (.slice (some ⟨gk, 0, none⟩) m cap) m (upd E i { E i with lb := (E i).lb.set j u }) := by
  have nb := h.neb
  have nlb := h.nlb
  obtain ⟨⟨xs, o1, o2⟩, hbl, lw, lb, gw, len, sl, sb⟩ := h
  have eg : ∀ j', (upd E i { E i with lb := (E i).lb.set j u } j').gl = (E j').gl := fun j' => by unfold upd; split <;> simp_all
  have eb : ∀ j', (upd E i { E i with lb := (E i).lb.set j u } j').gb = (E j').gb := fun j' => by unfold upd; split <;> simp_all
  have en : ∀ j', (upd E i { E i with lb := (E i).lb.set j u } j').n = (E j').n := fun j' => by unfold upd; split <;> simp_all
  have ey : ∀ j', (upd E i { E i with lb := (E i).lb.set j u } j').lw = (E j').lw := fun j' => by unfold upd; split <;> simp_all
  have ec : ∀ j', (upd E i { E i with lb := (E i).lb.set j u } j').cells = (E j').cells := fun j' => by unfold upd; split <;> simp_all [Ent.cells]
  refine ⟨⟨xs, own_other o1 _ (by simpa [Value.ownBlock] using nb i hi), fun j' f hj hf => by rw [ec]; exact o2 j' f hj hf⟩, hbl.setCell (gw i hi).2 _, ?_, ?_, ?_, ?_, ?_, ?_⟩
  · intro j' hj
    rw [eg, ey]
    exact (lw j' hj).other _ (fun e => nlb j' i hj hi e)
  · intro j' hj
    rw [eb]
    by_cases hji : j' = i
    · subst hji
      rw [upd_same]
      exact (lb j' hj).set j u
    · rw [upd_other _ _ _ _ hji]
      exact (lb j' hj).other _ (fun e => hji (sb j' i hj hi e))
  · intro j' hj; rw [eg, eb]; exact gw j' hj
  · intro j' hj
    rw [ey, en]
    refine ⟨(len j' hj).1, ?_⟩
    by_cases hji : j' = i
    · subst hji; rw [upd_same]; simpa using (len j' hj).2
    · rw [upd_other _ _ _ _ hji]; exact (len j' hj).2
  · intro j1 j2 hj hj'; rw [eg, eg]; exact sl j1 j2 hj hj'
  · intro j1 j2 hj hj'; rw [eb, eb]; exact sb j1 j2 hj hj'
end Go.Proofs.YtlfnpllojinjdaaDoor
