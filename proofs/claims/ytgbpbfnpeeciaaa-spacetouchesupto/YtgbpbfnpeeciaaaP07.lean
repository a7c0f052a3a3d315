import Derived.Test.YtgbpbfnpeeciaaaP06
namespace Go.Proofs.Ytgbpbfnpeeciaaa
open Go.RowKit
set_option maxHeartbeats 4000000
structure Rd (w w' : World) (f : Fp) (m : MS) : Prop where
  mem : Mem w' f m
  but : ButL f.w w w'
  lt : ∀ k ∈ f.all, k < w.heap.size
theorem Rd.on {w w' w2 : World} {f : Fp} {m : MS} (h : Rd w w' f m) (hb : Below w'.heap.size w' w2) : Rd w w2 f m := ⟨h.mem.on hb, h.but.on hb, h.lt⟩
theorem Rd.start {w : World} {f : Fp} {m : MS} (h : Mem w f m) : Rd w w f m := ⟨h, .refl _ _, h.lt⟩
theorem Rd.set {w w' w2 : World} {f : Fp} {m : MS} {g : Nat} (h : Rd w w' f m) (hb : ButL [g] w' w2) (hg : w.heap.size ≤ g) : Rd w w2 f m :=
  ⟨h.mem.frame hb (by intro k hk hm; rw [List.mem_singleton] at hm; have := h.lt k hk; omega), h.but.trans' hb hg, h.lt⟩
theorem Rd.step {w w' w2 : World} {f : Fp} {m m' : MS} (h : Rd w w' f m) (hm : Mem w2 f m') (hb : ButL f.w w' w2) : Rd w w2 f m' := ⟨hm, h.but.trans hb, h.lt⟩
theorem Rd.new {w w' : World} {f : Fp} {m : MS} (h : Rd w w' f m) {g : Nat} (hg : w.heap.size ≤ g) : g ∉ f.w := fun hm => by
  have := h.lt g (by simp only [Fp.w, Fp.all, List.mem_cons] at hm ⊢; rcases hm with hm | hm <;> simp [hm])
  omega
end Go.Proofs.Ytgbpbfnpeeciaaa
