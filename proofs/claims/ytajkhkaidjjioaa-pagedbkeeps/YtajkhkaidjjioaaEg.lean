/- A bag of blocks of the call's own. -/
import Derived.Test.YtajkhkaidjjioaaEf
namespace Go.Proofs.Ytajkhkaidjjioaa
open Go.RowKit
structure Bag (W x : World) (L : List (Nat × TypeId × List Value)) : Prop where
  all : ∀ p ∈ L, Cel x p.1 p.2.1 p.2.2
  below : Below W.heap.size W x
theorem Bag.get {W x : World} {L : List (Nat × TypeId × List Value)} (h : Bag W x L) (k : Nat) {g : Nat} {t : TypeId} {cs : List Value} (hk : L[k]? = some (g, t, cs)) : Cel x g t cs := h.all _ (List.mem_of_getElem? hk)
theorem Bag.on {W x x' : World} {L : List (Nat × TypeId × List Value)} (h : Bag W x L) (hb : Below x.heap.size x x') : Bag W x' L := ⟨fun p hp => (h.all p hp).on hb, below_on h.below hb⟩
theorem Bag.add {W w w2 : World} {L : List (Nat × TypeId × List Value)} {u : TypeId} {ds es : List Value} (h : Bag W w L) (hc : Cel w2 w.heap.size u es) (hb : ButL [w.heap.size] (w.alloc (.cells ds.toArray u)) w2) : Bag W w2 ((w.heap.size, u, es) :: L) :=
  ⟨fun p hp => by
    rcases List.mem_cons.1 hp with rfl | hp
    · exact hc
    · exact new_store (h.all p hp) hb, new_below h.below hb⟩
theorem Bag.two (W : World) (t u : TypeId) (cs ds : List Value) : Bag W ((W.alloc (.cells cs.toArray t)).alloc (.cells ds.toArray u)) [(W.heap.size + 1, u, ds), (W.heap.size, t, cs)] := by
  have h := Bx.new W t u cs ds
  refine ⟨fun p hp => ?_, h.below⟩
  simp only [List.mem_cons, List.not_mem_nil, or_false] at hp
  rcases hp with rfl | rfl
  · exact h.b
  · exact h.a
theorem e1_range (x : En) : 0 ≤ e1 x ∧ e1 x < 4294967296 := by
  unfold e1
  split
  · rename_i h; have := (x.ok_iff.1 h).r0; have := (x.ok_iff.1 h).r1; omega
  · decide
theorem dec_w {x : En} (h : x.ok = true) : dec (e0 x) (e1 x) = x ∧ decE (e0 x) (e1 x) = 0 := by
  have := dok_w h
  unfold dec decE
  rw [if_pos this.1, if_pos this.1]
  exact ⟨this.2, rfl⟩
theorem dec_yes {a b : Int} (h : dok a b = true) : decE a b = 0 ∧ e0 (dec a b) = a ∧ e1 (dec a b) = b ∧ chk (dec a b) = 0 := by
  have h1 := dok_ok h
  unfold dec decE
  rw [if_pos h, if_pos h]
  exact ⟨rfl, h1.2.1, h1.2.2, by unfold chk; rw [if_pos h1.1]⟩
theorem dec_no {a b : Int} (h : dok a b = false) : decE a b = 110 ∧ dec a b = En.zero := by
  unfold dec decE
  rw [h]
  exact ⟨rfl, rfl⟩
theorem chk_yes {x : En} (h : x.ok = true) : chk x = 0 := by unfold chk; rw [if_pos h]
theorem chk_no {x : En} (h : x.ok = false) : chk x = 110 ∧ e0 x = 0 ∧ e1 x = 0 := by unfold chk e0 e1; rw [h]; exact ⟨rfl, rfl, rfl⟩
end Go.Proofs.Ytajkhkaidjjioaa
