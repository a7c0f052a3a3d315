/- The bench as it is being set up: the first n memories, and the bench itself at the end. -/
import Derived.Test.YtnmdhnbgikbpoaaQ11
import Derived.Test.YtnmdhnbgikbpoaaQ12
namespace Go.Proofs.Ytnmdhnbgikbpoaa
open Go.RowKit
structure Pb (W wr : World) (f : Nat → Fp) (r : Nat → Rf) (m : Nat → MS) (n : Nat) : Prop where
  mem : ∀ i, i < n → Mem wr (f i) (m i)
  rmem : ∀ i, i < n → RMem wr (r i) (m i)
  pos : ∀ i, i < n → 0 < (m i).P.length
  flo : ∀ i, i < n → ∀ k ∈ (f i).all, W.heap.size ≤ k
  rlo : ∀ i, i < n → ∀ k ∈ (r i).all, W.heap.size ≤ k
  fap : ∀ i j, i < n → j < n → i ≠ j → ∀ k ∈ (f i).all, k ∉ (f j).all
  rap : ∀ i j, i < n → j < n → i ≠ j → ∀ k ∈ (r i).all, k ∉ (r j).all
theorem Pb.start (W wr : World) (f : Nat → Fp) (r : Nat → Rf) (m : Nat → MS) : Pb W wr f r m 0 := by
  constructor <;> intro i <;> intros <;> omega
section
variable {W wr w' : World} {f : Nat → Fp} {r : Nat → Rf} {m : Nat → MS} {n : Nat} {gb : Nat} {cs : List Value} (h : Pb W wr f r m n)
include h
theorem Pb.keep (hc : Cel wr gb 68 cs) (hb : ButL [gb] wr w') : Pb W w' f r m n := by
  have no : ∀ k t, TyAt wr k t → t ≠ 68 → k ∉ [gb] := fun k t ht hn hk => by rw [List.mem_singleton] at hk; subst hk; exact hn (ht.eq hc.tyAt)
  refine ⟨fun i hi => (h.mem i hi).frame hb (fun k hk => ?_), fun i hi => (h.rmem i hi).frame hb (fun k hk => ?_), h.pos, h.flo, h.rlo, h.fap, h.rap⟩
  · rcases (h.mem i hi).tys k hk with a | a | a <;> exact no k _ a (by decide)
  · rcases (h.rmem i hi).tys k hk with a | a | a <;> exact no k _ a (by decide)
theorem Pb.put (hc : Cel wr gb 68 cs) (hb : ButL [gb] wr w') (hW : W.heap.size ≤ wr.heap.size) {fn : Fp} {rn : Rf} {mn : MS} (hp : Pair wr w' fn rn mn) (i n' : Nat) (hn : ∀ j, j < n' → j ≠ i → j < n) : Pb W w' (upd f i fn) (upd r i rn) (upd m i mn) n' := by
  have hk := h.keep hc hb
  refine ⟨fun j hj => ?_, fun j hj => ?_, fun j hj => ?_, fun j hj => ?_, fun j hj => ?_, fun a b ha hb2 hab => ?_, fun a b ha hb2 hab => ?_⟩
  · by_cases e : j = i
    · subst e; rw [upd_same, upd_same]; exact hp.f
    · rw [upd_ne _ _ e, upd_ne _ _ e]; exact hk.mem j (hn j hj e)
  · by_cases e : j = i
    · subst e; rw [upd_same, upd_same]; exact hp.r
    · rw [upd_ne _ _ e, upd_ne _ _ e]; exact hk.rmem j (hn j hj e)
  · by_cases e : j = i
    · subst e; rw [upd_same]; exact hp.pos
    · rw [upd_ne _ _ e]; exact hk.pos j (hn j hj e)
  · by_cases e : j = i
    · subst e; rw [upd_same]; exact fun k hk2 => Nat.le_trans hW (hp.flo k hk2)
    · rw [upd_ne _ _ e]; exact hk.flo j (hn j hj e)
  · by_cases e : j = i
    · subst e; rw [upd_same]; exact fun k hk2 => Nat.le_trans hW (hp.rlo k hk2)
    · rw [upd_ne _ _ e]; exact hk.rlo j (hn j hj e)
  · by_cases e : a = i
    · have eb : b ≠ i := fun x => hab (e.trans x.symm)
      subst e
      rw [upd_same, upd_ne _ _ eb]
      intro k h1 h2
      have l1 := hp.flo k h1
      have l2 := (h.mem b (hn b hb2 eb)).lt k h2
      omega
    · rw [upd_ne _ _ e]
      by_cases eb : b = i
      · subst eb
        rw [upd_same]
        intro k h1 h2
        have l1 := hp.flo k h2
        have l2 := (h.mem a (hn a ha e)).lt k h1
        omega
      · rw [upd_ne _ _ eb]; exact h.fap a b (hn a ha e) (hn b hb2 eb) hab
  · by_cases e : a = i
    · have eb : b ≠ i := fun x => hab (e.trans x.symm)
      subst e
      rw [upd_same, upd_ne _ _ eb]
      intro k h1 h2
      have l1 := hp.rlo k h1
      have l2 := (h.rmem b (hn b hb2 eb)).lt k h2
      omega
    · rw [upd_ne _ _ e]
      by_cases eb : b = i
      · subst eb
        rw [upd_same]
        intro k h1 h2
        have l1 := hp.rlo k h2
        have l2 := (h.rmem a (hn a ha e)).lt k h1
        omega
      · rw [upd_ne _ _ eb]; exact h.rap a b (hn a ha e) (hn b hb2 eb) hab
end
theorem Pb.bn {W wr : World} {f : Nat → Fp} {r : Nat → Rf} {m : Nat → MS} {gb : Nat} (h : Pb W wr f r m 4) (hb : Below W.heap.size W wr) (hg : W.heap.size ≤ gb) (hc : Cel wr gb 68 (benC f r (.slice none 0 0))) : Bn W wr gb f r m m (.slice none 0 0) [] :=
  ⟨hb, hg, hc, h.mem, h.rmem, fun i hi => ⟨h.pos i hi, h.pos i hi⟩, h.flo, h.rlo, h.fap, h.rap, ⟨World.ownsRow_nil _ _ _ _, hb⟩, fun k hk => absurd hk (Nat.not_lt_zero k), fun k hk => absurd hk (Nat.not_lt_zero k), fun _ _ b hbb => by simp [blkOf] at hbb, fun _ _ k hk => absurd hk (Nat.not_lt_zero k)⟩
end Go.Proofs.Ytnmdhnbgikbpoaa
