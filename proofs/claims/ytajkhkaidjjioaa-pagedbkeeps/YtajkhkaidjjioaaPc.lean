/- Several databases; what is loaded back. -/
import Derived.Test.YtajkhkaidjjioaaPb
import Derived.Test.YtajkhkaidjjioaaL1
namespace Go.Proofs.Ytajkhkaidjjioaa
open Go.RowKit
set_option maxHeartbeats 2000000
set_option maxRecDepth 100000
/-- Databases of the call's own, apart from one another, and a bag of blocks beside them. -/
structure MD (W x : World) (Ds : List (Dp × DS)) (L : List (Nat × TypeId × List Value)) : Prop where
  db : ∀ (i : Nat) (p : Dp) (d : DS), Ds[i]? = some (p, d) → DB x p d
  new : ∀ (i : Nat) (p : Dp) (d : DS), Ds[i]? = some (p, d) → ∀ k ∈ p.all, W.heap.size ≤ k
  apart : ∀ (i j : Nat) (p q : Dp) (d e : DS), Ds[i]? = some (p, d) → Ds[j]? = some (q, e) → i ≠ j → ∀ k ∈ p.all, k ∉ q.all
  below : Below W.heap.size W x
  bag : ∀ r ∈ L, Cel x r.1 r.2.1 r.2.2
  bnew : ∀ r ∈ L, W.heap.size ≤ r.1
  off : ∀ (i : Nat) (p : Dp) (d : DS), Ds[i]? = some (p, d) → ∀ r ∈ L, r.1 ∉ p.all
theorem MD.start {W x : World} {p : Dp} {d : DS} (h : NewDB W x p d) : MD W x [(p, d)] [] := by
  have one : ∀ (i : Nat) (q : Dp) (e : DS), [(p, d)][i]? = some (q, e) → i = 0 ∧ q = p ∧ e = d := fun i q e hi => by
    cases i with
    | zero => simp only [List.getElem?_cons_zero, Option.some.injEq, Prod.mk.injEq] at hi; exact ⟨rfl, hi.1.symm, hi.2.symm⟩
    | succ i => simp at hi
  refine ⟨fun i q e hi => ?_, fun i q e hi => ?_, fun i j q r e e' hi hj hij => ?_, h.below, by simp, by simp, by simp⟩
  · obtain ⟨_, rfl, rfl⟩ := one i q e hi; exact h.db
  · obtain ⟨_, rfl, rfl⟩ := one i q e hi; exact h.new
  · have := (one i q e hi).1; have := (one j r e' hj).1; omega
theorem MD.on {W x x' : World} {Ds : List (Dp × DS)} {L : List (Nat × TypeId × List Value)} (h : MD W x Ds L) (hb : Below x.heap.size x x') : MD W x' Ds L :=
  ⟨fun i p d hi => (h.db i p d hi).on hb, h.new, h.apart, below_on h.below hb, fun r hr => (h.bag r hr).on hb, h.bnew, h.off⟩
theorem MD.get {W x : World} {Ds : List (Dp × DS)} {L : List (Nat × TypeId × List Value)} (h : MD W x Ds L) (k : Nat) {g : Nat} {t : TypeId} {cs : List Value} (hk : L[k]? = some (g, t, cs)) : Cel x g t cs := h.bag _ (List.mem_of_getElem? hk)
theorem MD.step {W x x' : World} {Ds : List (Dp × DS)} {L : List (Nat × TypeId × List Value)} (h : MD W x Ds L) (i : Nat) {p : Dp} {d d' : DS} (hi : Ds[i]? = some (p, d)) (hd : DB x' p d') (hb : ButL p.w x x') : MD W x' (Ds.set i (p, d')) L := by
  have look : ∀ (j : Nat) (q : Dp) (e : DS), (Ds.set i (p, d'))[j]? = some (q, e) → (j = i ∧ q = p ∧ e = d') ∨ (j ≠ i ∧ Ds[j]? = some (q, e)) := fun j q e hj => by
    rw [List.getElem?_set] at hj
    by_cases he : i = j
    · rw [if_pos he] at hj
      split at hj
      · injection hj with hj; injection hj with h1 h2; exact .inl ⟨he.symm, h1.symm, h2.symm⟩
      · cases hj
    · rw [if_neg he] at hj; exact .inr ⟨fun e => he e.symm, hj⟩
  have same : ∀ (j : Nat) (q : Dp) (e : DS), (Ds.set i (p, d'))[j]? = some (q, e) → ∃ e', Ds[j]? = some (q, e') := fun j q e hj => by
    rcases look j q e hj with ⟨rfl, rfl, rfl⟩ | ⟨_, h⟩
    · exact ⟨_, hi⟩
    · exact ⟨_, h⟩
  refine ⟨fun j q e hj => ?_, fun j q e hj => ?_, fun j k q r e e' hj hk hjk => ?_, h.below.trans (hb.below (B := W.heap.size) (fun k hk => h.new i p d hi k (Dp.w_all hk)) h.below.size), fun r hr => (h.bag r hr).but hb (fun hm => h.off i p d hi r hr (Dp.w_all hm)), h.bnew, fun j q e hj => ?_⟩
  · rcases look j q e hj with ⟨rfl, rfl, rfl⟩ | ⟨hne, hj'⟩
    · exact hd
    · exact (h.db j q e hj').frame hb (fun k hk hm => h.apart j i q p e d hj' hi hne k hk (Dp.w_all hm))
  · obtain ⟨e', he⟩ := same j q e hj; exact h.new j q e' he
  · obtain ⟨f, hf⟩ := same j q e hj; obtain ⟨f', hf'⟩ := same k r e' hk; exact h.apart j k q r f f' hf hf' hjk
  · obtain ⟨e', he⟩ := same j q e hj; exact h.off j q e' he
theorem MD.push {W x x' : World} {Ds : List (Dp × DS)} {L : List (Nat × TypeId × List Value)} (h : MD W x Ds L) {p : Dp} {d : DS} (hn : NewDB x x' p d) : MD W x' (Ds ++ [(p, d)]) L := by
  have look : ∀ (j : Nat) (q : Dp) (e : DS), (Ds ++ [(p, d)])[j]? = some (q, e) → (j = Ds.length ∧ q = p ∧ e = d) ∨ (j < Ds.length ∧ Ds[j]? = some (q, e)) := fun j q e hj => by
    by_cases hlt : j < Ds.length
    · rw [List.getElem?_append_left hlt] at hj; exact .inr ⟨hlt, hj⟩
    · rw [List.getElem?_append_right (by omega)] at hj
      have : j - Ds.length = 0 := by
        by_cases e0 : j - Ds.length = 0
        · exact e0
        · obtain ⟨k, hk⟩ : ∃ k, j - Ds.length = k + 1 := ⟨j - Ds.length - 1, by omega⟩
          rw [hk] at hj; simp at hj
      rw [this] at hj
      simp only [List.getElem?_cons_zero, Option.some.injEq, Prod.mk.injEq] at hj
      exact .inl ⟨by omega, hj.1.symm, hj.2.symm⟩
  have hx := h.below.size
  refine ⟨fun j q e hj => ?_, fun j q e hj => ?_, fun j k q r e e' hj hk hjk => ?_, below_on h.below hn.below, fun r hr => (h.bag r hr).on hn.below, h.bnew, fun j q e hj r hr => ?_⟩
  · rcases look j q e hj with ⟨_, rfl, rfl⟩ | ⟨_, hj'⟩
    · exact hn.db
    · exact (h.db j q e hj').on hn.below
  · rcases look j q e hj with ⟨_, rfl, rfl⟩ | ⟨_, hj'⟩
    · intro k hk; have := hn.new k hk; omega
    · exact h.new j q e hj'
  · rcases look j q e hj with ⟨h1, rfl, rfl⟩ | ⟨_, hj'⟩ <;> rcases look k r e' hk with ⟨h2, rfl, rfl⟩ | ⟨_, hk'⟩
    · omega
    · intro z hz hz'; have := hn.new z hz; have := (h.db k r e' hk').lt z hz'; omega
    · intro z hz hz'; have := hn.new z hz'; have := (h.db j q e hj').lt z hz; omega
    · exact h.apart j k q r e e' hj' hk' hjk
  · rcases look j q e hj with ⟨_, rfl, rfl⟩ | ⟨_, hj'⟩
    · intro hm; have := hn.new _ hm; have := (h.bag r hr).lt; omega
    · exact h.off j q e hj' r hr
/-- A new block of the call's own. -/
theorem MD.list {W x x' : World} {Ds : List (Dp × DS)} {L : List (Nat × TypeId × List Value)} (h : MD W x Ds L) {g : Nat} {t : TypeId} {cs : List Value} (hg : x.heap.size ≤ g) (hc : Cel x' g t cs) (hb : Below x.heap.size x x') : MD W x' Ds ((g, t, cs) :: L) := by
  have h1 := h.on hb
  have hx := h.below.size
  refine ⟨h1.db, h1.new, h1.apart, h1.below, fun r hr => ?_, fun r hr => ?_, fun i p d hi r hr => ?_⟩
  · rcases List.mem_cons.1 hr with rfl | hr
    · exact hc
    · exact h1.bag r hr
  · rcases List.mem_cons.1 hr with rfl | hr
    · exact Nat.le_trans hx hg
    · exact h1.bnew r hr
  · rcases List.mem_cons.1 hr with rfl | hr
    · intro hm; have := (h.db i p d hi).lt _ hm; simp only at this; omega
    · exact h1.off i p d hi r hr
theorem MD.add {W w w2 : World} {Ds : List (Dp × DS)} {L : List (Nat × TypeId × List Value)} {u : TypeId} {ds es : List Value} (h : MD W w Ds L) (hc : Cel w2 w.heap.size u es) (hb : ButL [w.heap.size] (w.alloc (.cells ds.toArray u)) w2) : MD W w2 Ds ((w.heap.size, u, es) :: L) :=
  h.list (Nat.le_refl _) hc ((below_one w (.cells ds.toArray u)).trans (hb.below (B := w.heap.size) (by simp) (by simp)))
theorem MD.drop {W x : World} {Ds : List (Dp × DS)} {r : Nat × TypeId × List Value} {L : List (Nat × TypeId × List Value)} (h : MD W x Ds (r :: L)) : MD W x Ds L :=
  ⟨h.db, h.new, h.apart, h.below, fun q hq => h.bag q (by simp [hq]), fun q hq => h.bnew q (by simp [hq]), fun i p d hi q hq => h.off i p d hi q (by simp [hq])⟩
/-- What Words tells is loaded back. -/
theorem load_back {d : DS} (h : d.Ok) : ldok d.m.ns d.ws = true ∧ DS.load d.m d.ws = d := by
  have hl : ∀ k, k < d.m.ns → wd d.ws (1 + 2 * k) = e0 (d.at k) ∧ wd d.ws (2 + 2 * k) = e1 (d.at k) := fun k hk => by
    have := wdsOf_at d.b d.E k (by rw [h.len]; exact hk)
    unfold wd DS.ws
    rw [List.getD_eq_getElem?_getD, List.getD_eq_getElem?_getD, this.1, this.2]
    exact ⟨rfl, rfl⟩
  have he : ∀ k, k < d.m.ns → ldE d.ws k = d.at k := fun k hk => by
    unfold ldE; rw [(hl k hk).1, (hl k hk).2]; exact (dec_w (h.ok k hk)).1
  refine ⟨(ldok_iff _ _).2 ⟨d.ws_len h, h.b1, fun k hk => ?_⟩, ?_⟩
  · unfold ldS
    rw [he k hk, (hl k hk).1, (hl k hk).2, (dok_w (h.ok k hk)).1]
    simpa using h.own k hk
  · have hE : (List.range d.m.ns).map (ldE d.ws) = d.E := by
      apply List.ext_getElem?
      intro k
      by_cases hk : k < d.m.ns
      · rw [List.getElem?_map, List.getElem?_range hk]
        show some (ldE d.ws k) = _
        rw [he k hk, DS.at, List.getD_eq_getElem?_getD, List.getElem?_eq_getElem (by rw [h.len]; exact hk)]
        rfl
      · rw [List.getElem?_eq_none (by simpa using hk), List.getElem?_eq_none (by rw [h.len]; omega)]
    unfold DS.load
    rw [hE]
    rfl
structure Oq.Ok (o : Oq) : Prop where
  v : 0 ≤ o.v ∧ o.v < 4294967296
  a : -9223372036854775808 ≤ o.a ∧ o.a ≤ 9223372036854775807
  d : -9223372036854775808 ≤ o.d ∧ o.d ≤ 9223372036854775807
/-- Operations that are handed in. -/
structure OpsAt (W : World) (ao : Option Addr) (n : Nat) (q : Nat → Oq) : Prop where
  at_ : 0 < n → ∃ g off, ao = some ⟨g, off, none⟩ ∧ g < W.heap.size ∧ ∀ j, j < n → W.rangeAt g (off + j * 8) (q j).cs
  v : ∀ j, j < n → (q j).Ok
theorem rangeAt_on {W W' : World} {g off : Nat} {cs : List Value} (h : W.rangeAt g off cs) (hg : g < W.heap.size) (hb : Below W.heap.size W W') : W'.rangeAt g off cs := fun j v hv => by
  have := h j v hv
  unfold World.cell? at this ⊢
  rw [hb.block g hg]
  exact this
theorem OpsAt.on {W W' : World} {ao : Option Addr} {n : Nat} {q : Nat → Oq} (h : OpsAt W ao n q) (hb : Below W.heap.size W W') : OpsAt W' ao n q :=
  ⟨fun hn => by
    obtain ⟨g, off, h1, h2, h3⟩ := h.at_ hn
    exact ⟨g, off, h1, by have := hb.size; omega, fun j hj => rangeAt_on (h3 j hj) h2 hb⟩, h.v⟩
theorem OpsAt.row {W : World} {g off n : Nat} {q : Nat → Oq} (h : OpsAt W (some ⟨g, off, none⟩) n q) {j : Nat} (hj : j < n) : W.rangeAt g (off + j * 8) (q j).cs := by
  obtain ⟨g', off', h1, h2, h3⟩ := h.at_ (by omega)
  cases h1
  exact h3 j hj
def Oq.ch (o : Oq) : Bool := decide (1 ≤ o.k ∧ o.k ≤ 6)
def DS.play (d : DS) (q : Nat → Oq) : Nat → DS
  | 0 => d
  | j + 1 => if (q j).ch = true then (d.play q j).call (q j) else d.play q j
theorem MS.same_self (m : MS) : m.same m = true := by simp [MS.same]
theorem under29 : Try.prog.underlying 29 = some (.struct (Try.prog.fieldsOf 29)) := by kernel_rfl
theorem size29 : (Try.prog.info? 29).map (·.size) = some 8 := by kernel_rfl
end Go.Proofs.Ytajkhkaidjjioaa
