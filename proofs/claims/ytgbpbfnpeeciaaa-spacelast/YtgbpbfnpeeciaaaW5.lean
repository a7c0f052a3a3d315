/- walk's secure 54, frame 59, allows 60, follow 57 and 58. -/
import Derived.Test.YtgbpbfnpeeciaaaW3
import Derived.Test.YtgbpbfnpeeciaaaM1M2M3M3rMh
namespace Go.Proofs.Ytgbpbfnpeeciaaa
open Go.RowKit
set_option maxHeartbeats 4000000
theorem w_secure_any (W : World) (p : Int) : Calls Try.prog 47 #[.int .i64 p] W fun x W' => x = .returned (fr true p) ∧ Below W.heap.size W W' := by
  unfold fr
  go_enter Try.func47, Try.ntmps47
  go_wp2_with fail
  go_returns
  exact ⟨rfl, below_one _ _⟩
theorem w_frame_any (W : World) (m : Mp) : Calls Try.prog 54 #[m.v] W fun x W' => x = .returned (fr m.s m.p) ∧ Below W.heap.size W W' := by
  unfold fr Mp.v
  go_enter Try.func54, Try.ntmps54
  go_wp2_with fail
  go_returns
  exact ⟨rfl, (below_one _ _).trans ((below_one _ _).mono (by simp))⟩
def Mp.al (m : Mp) (a : Int) : Bool := if a = 0 then true else if a = 1 then m.wr else if a = 2 then m.ex else false
/-- Every word is a word. -/
def MS.U (m : MS) : Prop := ∀ k j, 0 ≤ wd (m.p k) j ∧ wd (m.p k) j < 4294967296
theorem MS.U.word {m : MS} (h : m.U) (s : Bool) (p off : Int) : 0 ≤ m.word s p off ∧ m.word s p off < 4294967296 := by
  unfold MS.word
  split
  · decide
  · split
    · exact h _ _
    · decide
/-- What a first level's word leads to. -/
def MS.f1E (m : MS) (t n : Int) : Int := if m.err true t n = 0 then (if pfE (m.word true t n) = 0 then (if (m.at true (pf (m.word true t n))).isSome then 0 else 90) else pfE (m.word true t n)) else m.err true t n
def MS.f1 (m : MS) (t n : Int) : Int := if m.f1E t n = 0 then pf (m.word true t n) else 0
def MS.f2E (m : MS) (t n : Int) : Int := if m.err true t n = 0 then (if psE (m.word true t n) = 0 then (if (m.at (ps (m.word true t n)).s (ps (m.word true t n)).p).isSome then 0 else 90) else psE (m.word true t n)) else m.err true t n
def MS.f2 (m : MS) (t n : Int) : Mp := if m.f2E t n = 0 then ps (m.word true t n) else Mp.z
theorem MS.read_at (m : MS) (s : Bool) (p off : Int) (s' : Bool) (p' : Int) : (m.read s p off).at s' p' = m.at s' p' := by
  unfold MS.read
  split
  · rfl
  · split <;> rfl
theorem pf_zero {v : Int} (h : ¬ pfE v = 0) : pf v = 0 := by
  unfold pfE at h; unfold pf
  by_cases h1 : PfOk v
  · by_cases h0 : v = 0
    · subst h0; exact absurd h1 (by decide)
    · simp [h0, h1] at h
  · rw [if_neg h1]
theorem ps_zero {v : Int} (h : ¬ psE v = 0) : ps v = Mp.z := by
  unfold psE at h; unfold ps
  by_cases h1 : PsOk v
  · by_cases h0 : v = 0
    · subst h0; exact absurd h1 (by decide)
    · simp [h0, h1] at h
  · rw [if_neg h1]
theorem follow1_any (w : World) (f : Fp) (m : MS) (h : Mem w f m) (hU : m.U) (t n : Int) :
    Calls Try.prog 50 #[ptr f.gm, .int .i64 t, .int .i64 n, fnV 51, fnV 47] w fun x w' => x = .returned (.tuple #[.int .i64 (m.f1 t n), .int .i64 (m.f1E t n)]) ∧ Mem w' f (m.read true t n) ∧ ButL f.w w w' := by
  have HS := hid (w_secure_any w t)
  have HR := hid (fun w' (hb : Below w.heap.size w w') => read_any w' f m (h.on hb) true t n)
  have hw := hU.word true t n
  have HP := hid (fun W => pf_any W (m.word true t n) hw.1 hw.2)
  have HF := hid (fun W => w_secure_any W (pf (m.word true t n)))
  have HH := hid (fun w' (hm : Mem w' f (m.read true t n)) => has_any w' f (m.read true t n) hm true (pf (m.word true t n)))
  rw [MS.read_at] at HH
  have HZ := hid (@pf_zero (m.word true t n))
  clear h hU hw
  unfold MS.f1 MS.f1E
  generalize m.word true t n = v at *
  generalize hA : m.err true t n = e1 at *
  generalize hB : pfE v = e2 at *
  generalize hC : pf v = q at *
  generalize m.at true q = o at *
  clear hA hB hC
  generalize m.read true t n = m' at *
  unfold fnV ptr at *
  by_cases h1 : e1 = 0
  · subst h1
    rw [if_pos rfl]
    by_cases h2 : e2 = 0
    · subst h2
      rw [if_pos rfl]
      cases o
      all_goals simp only [Option.isSome_none, Option.isSome_some, Bool.false_eq_true, if_false, if_true, if_neg (show ¬ (90 : Int) = 0 by decide)] at *
      all_goals go_enter Try.func50, Try.ntmps50
      all_goals go_wp2_with fail
      all_goals refine HS.out.mono ?_
      all_goals rintro x w1 ⟨rfl, hb1⟩
      all_goals have HR1 := hid (HR.out w1 hb1)
      all_goals have HB1 := hid (ButL.of (G := f.w) hb1)
      all_goals clear hb1 HS HR
      all_goals go_wp2_with fail
      all_goals refine HR1.out.mono ?_
      all_goals rintro x w2 ⟨rfl, hm2, hb2⟩
      all_goals have HM2 := hid hm2
      all_goals have HB2 := hid (HB1.out.trans hb2)
      all_goals clear hb2 hm2 HR1 HB1
      all_goals go_wp2_with fail
      all_goals refine (HP.out _).mono ?_
      all_goals rintro x w3 ⟨rfl, rfl⟩
      all_goals go_wp2_with fail
      all_goals refine (HF.out _).mono ?_
      all_goals rintro x w4 ⟨rfl, hb4⟩
      all_goals have HM4 := hid (HM2.out.on hb4)
      all_goals have HB4 := hid (HB2.out.on hb4)
      all_goals clear hb4 HM2 HB2
      all_goals go_wp2_with fail
      all_goals refine (HH.out _ HM4.out).mono ?_
      all_goals rintro x w5 ⟨rfl, hb5⟩
      all_goals have HM5 := hid (HM4.out.on hb5)
      all_goals have HB5 := hid (HB4.out.on hb5)
      all_goals clear hb5 HM4 HB4
      all_goals go_wp2_with fail
      all_goals go_returns
      all_goals exact ⟨rfl, HM5.out, HB5.out⟩
    · rw [if_neg h2, if_neg h2, ← HZ.out h2]
      clear HZ
      go_enter Try.func50, Try.ntmps50
      go_wp2_with fail
      refine HS.out.mono ?_
      rintro x w1 ⟨rfl, hb1⟩
      have HR1 := hid (HR.out w1 hb1)
      have HB1 := hid (ButL.of (G := f.w) hb1)
      clear hb1 HS HR
      go_wp2_with fail
      refine HR1.out.mono ?_
      rintro x w2 ⟨rfl, hm2, hb2⟩
      have HM2 := hid hm2
      have HB2 := hid (HB1.out.trans hb2)
      clear hb2 hm2 HR1 HB1
      go_wp2_with fail
      refine (HP.out _).mono ?_
      rintro x w3 ⟨rfl, rfl⟩
      go_wp2_with fail
      go_returns
      exact ⟨rfl, HM2.out, HB2.out⟩
  · simp only [if_neg h1]
    go_enter Try.func50, Try.ntmps50
    go_wp2_with fail
    refine HS.out.mono ?_
    rintro x w1 ⟨rfl, hb1⟩
    have HR1 := hid (HR.out w1 hb1)
    have HB1 := hid (ButL.of (G := f.w) hb1)
    clear hb1 HS HR
    go_wp2_with fail
    refine HR1.out.mono ?_
    rintro x w2 ⟨rfl, hm2, hb2⟩
    have HM2 := hid hm2
    have HB2 := hid (HB1.out.trans hb2)
    clear hb2 hm2 HR1 HB1
    go_wp2_with fail
    go_returns
    exact ⟨rfl, HM2.out, HB2.out⟩
end Go.Proofs.Ytgbpbfnpeeciaaa
