import Derived.Test.YtlfnpllojinjdaaDoorKeeps5
import Derived.Deep.DrawnRows
namespace Go.Proofs.YtlfnpllojinjdaaDoor
open Go.RowKit

/-- A list that came in. -/
def Given (W : World) (a : Option Addr) (n c : Nat) (x : List Int) : Prop := x.length = n ∧ Wds x ∧ At W .u32 a x ∧ (a = none → c = 0 ∧ n = 0) ∧ n ≤ 1048576
/-- What the book's rows say of the lists. -/
def Says (N : Nat) (n : Nat → Nat) (X : Nat → List Int) (m : Nat) (E : Nat → Ent) : Prop :=
  ∀ i, i < m → ∃ k, k < N ∧ (E i).mark = (k : Int) ∧ (E i).n = n k ∧ n k ≤ 262144 ∧ (E i).lw = X k ∧ (E i).lb = bytesD (X k)
def nilEnt : Ent := ⟨0, 0, 0, 0, .slice none 0 0, .slice none 0 0, [], []⟩
theorem Bk.start (W : World) : Bk W W (.slice none 0 0) 0 (fun _ => nilEnt) :=
  ⟨⟨[], World.ownsRow_nil _ _ _ _, fun _ _ h => absurd h (by omega)⟩, Below.refl _ _, fun _ h => absurd h (by omega), fun _ h => absurd h (by omega), fun _ h => absurd h (by omega), fun _ h => absurd h (by omega), fun _ _ h => absurd h (by omega), fun _ _ h => absurd h (by omega)⟩

theorem info61 : Option.map (fun i => (i.zero, i.size, i.bytes)) (Tryd.prog.info? 61) = some (some (.agg #[.slice none 0 0, .slice none 0 0, .slice none 0 0, .slice none 0 0, .int .i64 0]), 5, 104) := by kernel_rfl
def app (m : Nat) (E : Nat → Ent) (e1 e2 : Ent) : Nat → Ent := fun i => if i < m then E i else if i = m then e1 else e2
theorem app_old (m : Nat) (E : Nat → Ent) (e1 e2 : Ent) (i : Nat) (h : i < m) : app m E e1 e2 i = E i := if_pos h
theorem app_one (m : Nat) (E : Nat → Ent) (e1 e2 : Ent) : app m E e1 e2 m = e1 := by simp [app]
theorem app_two (m : Nat) (E : Nat → Ent) (e1 e2 : Ent) : app m E e1 e2 (m + 1) = e2 := by unfold app; rw [if_neg (by omega), if_neg (by omega)]
theorem Ent.one (e : Ent) (h1 : e.mo.oneCell' = true) (h2 : e.ex.oneCell' = true) : ∀ u ∈ e.cells, u.oneCell' = true := by
  intro u hu
  simp only [Ent.cells, List.mem_cons, List.not_mem_nil, or_false] at hu
  rcases hu with rfl | rfl | rfl | rfl | rfl
  · rfl
  · exact h1
  · rfl
  · exact h2
  · rfl
theorem Ent.cells_len (e : Ent) : e.cells.length = 5 := rfl
theorem Bk.own_ne {W wr : World} {v : Value} {m : Nat} {E : Nat → Ent} (h : Bk W wr v m E) : (∀ i, i < m → v.ownBlock ≠ some (E i).gl ∧ v.ownBlock ≠ some (E i).gb) ∧ (∀ g, v.ownBlock = some g → W.heap.size ≤ g ∧ g < wr.heap.size) := by
  refine ⟨fun i hi => ?_, fun g hg => ?_⟩
  · obtain ⟨ao, cap, rfl, _, hao⟩ := h.form
    obtain ⟨gk, rfl⟩ := hao (by omega)
    exact ⟨by simpa [Value.ownBlock] using h.nel i hi, by simpa [Value.ownBlock] using h.neb i hi⟩
  · obtain ⟨⟨xs, o, _⟩, _⟩ := h
    exact o.lt g hg
theorem at_app (m : Nat) (E : Nat → Ent) (e1 e2 : Ent) (P : Nat → Ent → Prop) (h : ∀ i, i < m → P i (E i)) (h1 : P m e1) (h2 : P (m + 1) e2) : ∀ i, i < m + 2 → P i (app m E e1 e2 i) := by
  intro i hi
  by_cases a : i < m
  · rw [app_old _ _ _ _ _ a]; exact h i a
  · by_cases b : i = m
    · subst b; rw [app_one]; exact h1
    · obtain rfl : i = m + 1 := by omega
      rw [app_two]; exact h2
/-- Two rows more. -/
theorem Bk.grow {W wr w3 w4 w5 : World} {v v' : Value} {m : Nat} {E : Nat → Ent} (B : Bk W wr v m E) (hb : Below wr.heap.size wr w3) {g1 g2 g3 g4 gh nn : Nat} {xs : List Int} (hx : xs.length = nn)
    (l1 : wr.heap.size ≤ g1) (l2 : g1 < g2) (l3 : g2 < g3) (l4 : g3 < g4) (l5 : g4 < gh) (b1 : Blk w3 g1 .u8 5 (bytesD xs)) (b2 : Blk w3 g2 .u32 22 xs) (b3 : Blk w3 g3 .u32 22 xs) (b4 : Blk w3 g4 .u8 5 (bytesD xs))
    (k : Int) (u1 u2 : Value) (hw4 : (w3.setCell ⟨gh, 4, none⟩ u1).setCell ⟨gh, 9, none⟩ u2 = w4) {xs0 : List Value} (hx0 : xs0.length = m * 5) (hxs : ∀ i f, i < m → f < 5 → xs0[i * 5 + f]? = (E i).cells[f]?)
    (hown : w5.ownsRow W.heap.size 61 5 v' (m + 2) (xs0 ++ (Ent.cells ⟨g2, g1, nn, k, .slice none 0 0, .slice none 0 0, xs, bytesD xs⟩ ++ Ent.cells ⟨g3, g4, nn, k, .slice none 0 0, .slice none 0 0, xs, bytesD xs⟩))) (hgrow : w4.grownBy w5 v.ownBlock) :
    Bk W w5 v' (m + 2) (app m E ⟨g2, g1, nn, k, .slice none 0 0, .slice none 0 0, xs, bytesD xs⟩ ⟨g3, g4, nn, k, .slice none 0 0, .slice none 0 0, xs, bytesD xs⟩) := by
  obtain ⟨one, oge⟩ := B.own_ne
  have B3 := B.carry hb
  have hbs := B.below.size
  have h4l : w4.heap.size = w3.heap.size := by rw [← hw4]; simp
  have keep : ∀ {g : Nat} {kk : IntKind} {e : TypeId} {L : List Int}, Blk w3 g kk e L → g ≠ gh → v.ownBlock ≠ some g → Blk w5 g kk e L := fun {g kk e L} h hg ho => by
    have h4 : Blk w4 g kk e L := by rw [← hw4]; exact (h.other u1 hg).other u2 hg
    exact (hgrow.block g h4.lt (fun e => ho e.symm)).trans h4
  have far : ∀ g, wr.heap.size ≤ g → v.ownBlock ≠ some g := fun g hg e => by have := (oge g e).2; omega
  have old : ∀ i, i < m → (E i).gl < wr.heap.size ∧ (E i).gb < wr.heap.size := fun i hi => ⟨(B.lw i hi).lt, (B.lb i hi).lt⟩
  have q1 := keep b1 (by omega) (far _ (by omega))
  have q2 := keep b2 (by omega) (far _ (by omega))
  have q3 := keep b3 (by omega) (far _ (by omega))
  have q4 := keep b4 (by omega) (far _ (by omega))
  refine ⟨⟨_, hown, ?_⟩, ?_, ?_, ?_, ?_, ?_, ?_, ?_⟩
  · intro i f hi hf
    refine at_app m E _ _ (fun i e => (xs0 ++ _)[i * 5 + f]? = e.cells[f]?) ?_ ?_ ?_ i hi
    · intro i hi
      rw [List.getElem?_append_left (by omega)]
      exact hxs i f hi hf
    · rw [List.getElem?_append_right (by omega), show m * 5 + f - xs0.length = f by omega, List.getElem?_append_left (by rw [Ent.cells_len]; exact hf)]
    · rw [List.getElem?_append_right (by omega), show (m + 1) * 5 + f - xs0.length = 5 + f by omega, List.getElem?_append_right (by rw [Ent.cells_len]; omega), Ent.cells_len, show 5 + f - 5 = f by omega]
  · have h3 : Below W.heap.size W w4 := by rw [← hw4]; exact (B3.below.setCell (by simp; omega) u1).setCell (by simp; omega) u2
    exact h3.grown hgrow (by rw [h4l]; exact B3.below.size) (fun g hg => (oge g hg).1)
  · refine at_app m E _ _ (fun i e => Blk w5 e.gl .u32 22 e.lw) (fun i hi => ?_) q2 q3
    exact keep (B3.lw i hi) (by have := old i hi; omega) (one i hi).1
  · refine at_app m E _ _ (fun i e => Blk w5 e.gb .u8 5 e.lb) (fun i hi => ?_) q1 q4
    exact keep (B3.lb i hi) (by have := old i hi; omega) (one i hi).2
  · exact at_app m E _ _ (fun i e => W.heap.size ≤ e.gl ∧ W.heap.size ≤ e.gb) B.gw ⟨by simp only; omega, by simp only; omega⟩ ⟨by simp only; omega, by simp only; omega⟩
  · have hbl : (bytesD xs).length = 4 * nn := by rw [bytesD_length, hx]
    exact at_app m E _ _ (fun i e => e.lw.length = e.n ∧ e.lb.length = 4 * e.n) B.len ⟨hx, hbl⟩ ⟨hx, hbl⟩
  · intro i j hi hj
    refine at_app m E _ _ (fun i e => e.gl = (app m E _ _ j).gl → i = j) (fun i hi => ?_) ?_ ?_ i hi
    · refine at_app m E _ _ (fun j e => (E i).gl = e.gl → i = j) (fun j hj => B.sl i j hi hj) ?_ ?_ j hj <;> (have := old i hi; simp only; omega)
    · refine at_app m E _ _ (fun j e => g2 = e.gl → m = j) (fun j hj => ?_) ?_ ?_ j hj
      · have := old j hj; omega
      · simp
      · simp only; omega
    · refine at_app m E _ _ (fun j e => g3 = e.gl → m + 1 = j) (fun j hj => ?_) ?_ ?_ j hj
      · have := old j hj; omega
      · simp only; omega
      · simp
  · intro i j hi hj
    refine at_app m E _ _ (fun i e => e.gb = (app m E _ _ j).gb → i = j) (fun i hi => ?_) ?_ ?_ i hi
    · refine at_app m E _ _ (fun j e => (E i).gb = e.gb → i = j) (fun j hj => B.sb i j hi hj) ?_ ?_ j hj <;> (have := old i hi; simp only; omega)
    · refine at_app m E _ _ (fun j e => g1 = e.gb → m = j) (fun j hj => ?_) ?_ ?_ j hj
      · have := old j hj; omega
      · simp
      · simp only; omega
    · refine at_app m E _ _ (fun j e => g4 = e.gb → m + 1 = j) (fun j hj => ?_) ?_ ?_ j hj
      · have := old j hj; omega
      · simp only; omega
      · simp
theorem Says.grow {N : Nat} {n : Nat → Nat} {X : Nat → List Int} {m : Nat} {E : Nat → Ent} (S : Says N n X m E) (k : Nat) (hk : k < N) (hn : n k ≤ 262144) (e1 e2 : Ent)
    (h1 : e1.mark = (k : Int) ∧ e1.n = n k ∧ e1.lw = X k ∧ e1.lb = bytesD (X k)) (h2 : e2.mark = (k : Int) ∧ e2.n = n k ∧ e2.lw = X k ∧ e2.lb = bytesD (X k)) : Says N n X (m + 2) (app m E e1 e2) :=
  at_app m E e1 e2 (fun _ e => ∃ k, k < N ∧ e.mark = (k : Int) ∧ e.n = n k ∧ n k ≤ 262144 ∧ e.lw = X k ∧ e.lb = bytesD (X k)) S ⟨k, hk, h1.1, h1.2.1, hn, h1.2.2⟩ ⟨k, hk, h2.1, h2.2.1, hn, h2.2.2⟩

end Go.Proofs.YtlfnpllojinjdaaDoor
