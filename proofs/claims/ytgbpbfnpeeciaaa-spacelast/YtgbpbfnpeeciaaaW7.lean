/- Walk 31, Translate 32. -/
import Derived.Test.YtgbpbfnpeeciaaaW6
namespace Go.Proofs.Ytgbpbfnpeeciaaa
open Go.RowKit
set_option maxHeartbeats 4000000
theorem MS.read_p (m : MS) (s : Bool) (p off : Int) (k : Nat) : (m.read s p off).p k = m.p k := by
  unfold MS.read
  split
  · rfl
  · split <;> rfl
theorem MS.read_word (m : MS) (s : Bool) (p off : Int) (s' : Bool) (p' o' : Int) : (m.read s p off).word s' p' o' = m.word s' p' o' := by
  unfold MS.word
  rw [MS.read_at]
  split
  · rfl
  · rw [MS.read_p]
theorem MS.read_err (m : MS) (s : Bool) (p off : Int) (s' : Bool) (p' o' : Int) : (m.read s p off).err s' p' o' = m.err s' p' o' := by
  unfold MS.err
  rw [MS.read_at]
theorem MS.U.read {m : MS} (h : m.U) (s : Bool) (p off : Int) : (m.read s p off).U := fun k j => by rw [MS.read_p]; exact h k j
theorem MS.f2E_read (m : MS) (s : Bool) (p off t n : Int) : (m.read s p off).f2E t n = m.f2E t n := by
  unfold MS.f2E
  rw [MS.read_err, MS.read_word, MS.read_at]
theorem MS.f2_read (m : MS) (s : Bool) (p off t n : Int) : (m.read s p off).f2 t n = m.f2 t n := by
  unfold MS.f2
  rw [MS.f2E_read, MS.read_word]
/-- What the walk answers, and what it leaves. -/
def MS.wkE (m : MS) (l va : Int) : Int := if spE va = 0 then (if m.f1E l (spI va) = 0 then m.f2E (m.f1 l (spI va)) (spJ va) else m.f1E l (spI va)) else spE va
def MS.wk (m : MS) (l va : Int) : Mp := if spE va = 0 then (if m.f1E l (spI va) = 0 then m.f2 (m.f1 l (spI va)) (spJ va) else Mp.z) else Mp.z
def MS.wkS (m : MS) (l va : Int) : MS := if spE va = 0 then (if m.f1E l (spI va) = 0 then (m.read true l (spI va)).read true (m.f1 l (spI va)) (spJ va) else m.read true l (spI va)) else m
theorem walk_any (w : World) (f : Fp) (m : MS) (h : Mem w f m) (hU : m.U) (l va : Int) (h0 : 0 ≤ va) (h1 : va < 4294967296) :
    Calls Try.prog 22 #[ptr f.gm, .int .i64 l, .int .u32 va] w fun x w' => x = .returned (.tuple #[(m.wk l va).v, .int .i64 (m.wkE l va)]) ∧ Rd w w' f (m.wkS l va) := by
  have HC0 : Hid (Cel (w.alloc (.cells #[.bool false, .int .i64 0, .bool false, .bool false] 49)) w.heap.size 49 [.bool Mp.z.s, .int .i64 Mp.z.p, .bool Mp.z.wr, .bool Mp.z.ex]) := hid (Cel.new w 49 _)
  have HR0 : Hid (Rd w (w.alloc (.cells #[.bool false, .int .i64 0, .bool false, .bool false] 49)) f m) := hid ((Rd.start h).on (below_one _ _))
  have HS := hid (fun W => split_any W va h0 h1)
  have HF1 := hid (fun w' (hm : Mem w' f m) => follow1_any w' f m hm hU l (spI va))
  have HF2 := hid (fun w' (hm : Mem w' f (m.read true l (spI va))) => follow2_any w' f (m.read true l (spI va)) hm (hU.read _ _ _) (m.f1 l (spI va)) (spJ va))
  rw [MS.f2_read, MS.f2E_read] at HF2
  clear h hU h0 h1
  unfold MS.wk MS.wkE MS.wkS
  generalize spI va = i at *
  generalize spJ va = j at *
  generalize spO va = of at *
  generalize spE va = e0 at *
  generalize m.f1E l i = e1 at *
  generalize m.f1 l i = p at *
  generalize m.f2E p j = e2 at *
  generalize m.f2 p j = q at *
  generalize hm1 : m.read true l i = m1 at *
  clear hm1
  generalize hm2 : m1.read true p j = m2 at *
  clear hm2
  unfold fnV ptr at *
  by_cases h0 : e0 = 0
  · subst h0
    simp only [if_pos]
    by_cases h1 : e1 = 0
    · subst h1
      simp only [if_pos]
      go_enter Try.func22, Try.ntmps22
      go_upto_region 1 with fail
      generalize hX : w.alloc _ = X at *
      clear hX
      go_wp2_with fail
      refine (HS.out _).mono ?_
      rintro x w1 ⟨rfl, rfl⟩
      go_wp2_with fail
      refine (HF1.out _ HR0.out.mem).mono ?_
      rintro x w2 ⟨rfl, hm2, hb2⟩
      have HE0 := hid (HC0.out.but hb2 (HR0.out.new (Nat.le_refl _)))
      have HR2 := hid (HR0.out.step hm2 hb2)
      clear hm2 hb2 HC0 HR0 HF1
      go_wp2_with fail
      refine (HF2.out _ HR2.out.mem).mono ?_
      rintro x w3 ⟨rfl, hr3⟩
      have HG0 := hid (HE0.out.but hr3.but (HR2.out.new (Nat.le_refl _)))
      have HR3 := hid (HR2.out.step hr3.mem hr3.but)
      clear hr3 HE0 HR2 HF2
      unfold Mp.v
      obtain ⟨a0, a1, a2, a3⟩ := cel4 HG0.out
      have af0 := HG0.out.free 0
      have af1 := HG0.out.free 1
      have af2 := HG0.out.free 2
      have af3 := HG0.out.free 3
      go_wp2_with fail
      generalize hX3 : World.setCell _ _ _ = w9
      have HC3 := chain4 HG0.out _ _ _ _ hX3
      have HR9 := hid (HR3.out.set (chainB _ _ _ _ hX3) (Nat.le_refl _))
      clear hX3
      obtain ⟨d0, d1, d2, d3⟩ := HC3
      (refine bodyPost_ret (by simp [results, Try.results22, go_sem, d0, d1, d2, d3]; try rfl) rfl ?_)
      exact ⟨rfl, HR9.out⟩
    · simp only [if_neg h1]
      go_enter Try.func22, Try.ntmps22
      go_upto_region 1 with fail
      generalize hX : w.alloc _ = X at *
      clear hX
      go_wp2_with fail
      refine (HS.out _).mono ?_
      rintro x w1 ⟨rfl, rfl⟩
      go_wp2_with fail
      refine (HF1.out _ HR0.out.mem).mono ?_
      rintro x w2 ⟨rfl, hm2, hb2⟩
      have HE0 := hid (HC0.out.but hb2 (HR0.out.new (Nat.le_refl _)))
      have HR2 := hid (HR0.out.step hm2 hb2)
      clear hm2 hb2 HC0 HR0 HF1
      obtain ⟨a0, a1, a2, a3⟩ := cel4 HE0.out
      have af0 := HE0.out.free 0
      have af1 := HE0.out.free 1
      have af2 := HE0.out.free 2
      have af3 := HE0.out.free 3
      go_wp2_with fail
      generalize hX3 : World.setCell _ _ _ = w9
      have HC3 := chain4 HE0.out _ _ _ _ hX3
      have HR9 := hid (HR2.out.set (chainB _ _ _ _ hX3) (Nat.le_refl _))
      clear hX3
      obtain ⟨d0, d1, d2, d3⟩ := HC3
      (refine bodyPost_ret (by simp [results, Try.results22, go_sem, d0, d1, d2, d3]; try rfl) rfl ?_)
      exact ⟨rfl, HR9.out⟩
  · simp only [if_neg h0]
    go_enter Try.func22, Try.ntmps22
    go_upto_region 1 with fail
    generalize hX : w.alloc _ = X at *
    clear hX
    go_wp2_with fail
    refine (HS.out _).mono ?_
    rintro x w1 ⟨rfl, rfl⟩
    obtain ⟨a0, a1, a2, a3⟩ := cel4 HC0.out
    have af0 := HC0.out.free 0
    have af1 := HC0.out.free 1
    have af2 := HC0.out.free 2
    have af3 := HC0.out.free 3
    go_wp2_with fail
    generalize hX3 : World.setCell _ _ _ = w9
    have HC3 := chain4 HC0.out _ _ _ _ hX3
    have HR9 := hid (HR0.out.set (chainB _ _ _ _ hX3) (Nat.le_refl _))
    clear hX3
    obtain ⟨d0, d1, d2, d3⟩ := HC3
    (refine bodyPost_ret (by simp [results, Try.results22, go_sem, d0, d1, d2, d3]; try rfl) rfl ?_)
    exact ⟨rfl, HR9.out⟩
theorem chain2 {w w3 : World} {g : Nat} {a b : Value} (h : Cel w g 47 [a, b]) (x y : Value) (e : (w.setCell ⟨g, 0, none⟩ x).setCell ⟨g, 1, none⟩ y = w3) :
    (w3.cell? ⟨g, 0, none⟩ = some x ∧ w3.cell? ⟨g, 1, none⟩ = some y) ∧ ButL [g] w w3 := by
  have h4 : Cel w3 g 47 [x, y] := by rw [← e]; exact (h.setCell 0 x).setCell 1 y
  exact ⟨⟨h4.cell 0, h4.cell 1⟩, by rw [← e]; exact (ButL.setCell w g 0 x (by simp)).trans (.setCell _ g 1 y (by simp))⟩
def MS.trE (m : MS) (l va a : Int) : Int := if m.wkE l va = 0 then (if (m.wk l va).al a then 0 else 93) else m.wkE l va
def MS.trS (m : MS) (l va a : Int) : Bool := if m.trE l va a = 0 then (m.wk l va).s else false
def MS.trP (m : MS) (l va a : Int) : Int := if m.trE l va a = 0 then (m.wk l va).p else 0
def MS.trO (m : MS) (l va a : Int) : Int := if m.trE l va a = 0 then spO va else 0
end Go.Proofs.Ytgbpbfnpeeciaaa
