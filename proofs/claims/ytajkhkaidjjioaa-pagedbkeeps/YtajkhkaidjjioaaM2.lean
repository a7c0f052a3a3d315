/- at 34, Has 11, Peek 18, Meter 19, Read 12, Write 9. -/
import Derived.Test.YtajkhkaidjjioaaM1
namespace Go.Proofs.Ytajkhkaidjjioaa
open Go.RowKit
def In (off : Int) : Prop := 0 ≤ off ∧ off < 1024
instance (off : Int) : Decidable (In off) := by unfold In; exact inferInstance
def MS.err (m : MS) (s : Bool) (p off : Int) : Int := match m.at s p with
  | none => 5
  | some _ => if In off then 0 else 70
def pa (f : Fp) (o : Option Nat) (off : Int) : Value := match o with
  | none => .pointer none
  | some k => if In off then .pointer (some ⟨f.b k, off.toNat, none⟩) else .pointer none
theorem at_any (w : World) (f : Fp) (m : MS) (h : Mem w f m) (s : Bool) (p off : Int) :
    Calls Try.prog 61 #[ptr f.gm, fr s p, .int .i64 off] w fun x w' => x = .returned (.tuple #[pa f (m.at s p) off, .int .i64 (m.err s p off)]) ∧ Below w.heap.size w w' := by
  have hX := h.on (below_one w (.cells #[.bool s, .int .i64 p] 54))
  have hB := hid (below_one w (.cells #[.bool s, .int .i64 p] 54))
  have HF := hid (find_any _ f m hX s p)
  have h1 := h.ns0
  have hlt : Hid (∀ k, m.at s p = some k → k < m.P.length) := fun k hk => MS.at_lt h1 hk
  have H := hid hX
  clear h hX h1
  unfold MS.err
  generalize hr : m.at s p = r at *
  cases r with
  | none =>
    simp only [fr, ptr, pv, pa] at *
    go_enter Try.func61, Try.ntmps61
    go_wp2_with fail
    refine HF.out.mono ?_
    rintro x w1 ⟨rfl, hb1⟩
    have HB1 := hid (below_on hB.out hb1)
    clear hb1
    go_wp2_with fail
    go_ret2
    exact ⟨rfl, HB1.out⟩
  | some k =>
    have hk := hlt.out k rfl
    by_cases ho : In off
    · simp only [fr, ptr, pv, pa, if_pos ho] at *
      obtain ⟨o0, o1⟩ := ho
      go_enter Try.func61, Try.ntmps61
      go_wp2_with fail
      refine HF.out.mono ?_
      rintro x w1 ⟨rfl, hb1⟩
      have HB1 := hid (below_on hB.out hb1)
      clear hb1
      go_wp2_with fail
      go_ret2
      exact ⟨rfl, HB1.out⟩
    · simp only [fr, ptr, pv, pa, if_neg ho] at *
      have ho' : off < 0 ∨ 1024 ≤ off := by unfold In at ho; omega
      clear ho
      go_enter Try.func61, Try.ntmps61
      go_wp2_with fail
      refine HF.out.mono ?_
      rintro x w1 ⟨rfl, hb1⟩
      have HB1 := hid (below_on hB.out hb1)
      clear hb1
      rcases ho' with ho | ho
      all_goals go_wp2_with fail
      all_goals go_ret2
      all_goals exact ⟨rfl, HB1.out⟩
theorem meter_any (w : World) (f : Fp) (m : MS) (h : Mem w f m) :
    Calls Try.prog 24 #[ptr f.gm] w fun x w' => x = .returned (.int .i64 m.c) ∧ w' = w := by
  have c2 := h.cm
  clear h
  simp only [ptr] at *
  go_enter Try.func24, Try.ntmps24
  go_wp2_with fail
  go_ret
  exact ⟨rfl, rfl⟩
def MS.word (m : MS) (s : Bool) (p off : Int) : Int := match m.at s p with
  | none => 0
  | some k => if In off then wd (m.p k) off.toNat else 0
theorem Mem.word {w : World} {f : Fp} {m : MS} (h : Mem w f m) (k : Nat) (hk : k < m.P.length) (j : Nat) (hj : j < 1024) : w.cell? ⟨f.b k, j, none⟩ = some (.int .u32 (wd (m.p k) j)) := by
  have := h.full k hk
  rw [(h.pg k hk).cell j, u32s, List.getElem?_map, List.getElem?_eq_getElem (by omega)]
  simp [wd, List.getD_eq_getElem?_getD, List.getElem?_eq_getElem (show j < (m.p k).length by omega)]
theorem peek_any (w : World) (f : Fp) (m : MS) (h : Mem w f m) (s : Bool) (p off : Int) :
    Calls Try.prog 40 #[ptr f.gm, fr s p, .int .i64 off] w fun x w' => x = .returned (.int .u32 (m.word s p off)) ∧ Below w.heap.size w w' := by
  have hX := h.on (below_one w (.cells #[.bool s, .int .i64 p] 54))
  have hB := hid (below_one w (.cells #[.bool s, .int .i64 p] 54))
  have HF := hid (at_any _ f m hX s p off)
  have h1 := h.ns0
  have hlt : Hid (∀ k, m.at s p = some k → k < m.P.length) := fun k hk => MS.at_lt h1 hk
  have H := hid hX
  clear h hX h1
  unfold MS.err at HF
  unfold MS.word
  generalize hr : m.at s p = r at *
  cases r with
  | none =>
    simp only [fr, ptr, pa] at *
    go_enter Try.func40, Try.ntmps40
    go_wp2_with fail
    refine HF.out.mono ?_
    rintro x w1 ⟨rfl, hb1⟩
    have HB1 := hid (below_on hB.out hb1)
    clear hb1
    go_wp2_with fail
    go_ret
    exact ⟨rfl, HB1.out⟩
  | some k =>
    have hk := hlt.out k rfl
    by_cases ho : In off
    · simp only [fr, ptr, pa, if_pos ho] at *
      obtain ⟨o0, o1⟩ := ho
      go_enter Try.func40, Try.ntmps40
      go_wp2_with fail
      refine HF.out.mono ?_
      rintro x w1 ⟨rfl, hb1⟩
      have HB1 := hid (below_on hB.out hb1)
      have cc := (H.out.on hb1).word k hk off.toNat (by omega)
      clear hb1
      go_wp2_with fail
      go_ret
      exact ⟨rfl, HB1.out⟩
    · simp only [fr, ptr, pa, if_neg ho] at *
      clear ho
      go_enter Try.func40, Try.ntmps40
      go_wp2_with fail
      refine HF.out.mono ?_
      rintro x w1 ⟨rfl, hb1⟩
      have HB1 := hid (below_on hB.out hb1)
      clear hb1
      go_wp2_with fail
      go_ret
      exact ⟨rfl, HB1.out⟩
end Go.Proofs.Ytajkhkaidjjioaa
