/- walk's secure 54, frame 59, allows 60, follow 57 and 58. walk's follow 58. Walk 31, Translate 32. -/
import Derived.Test.YteldpapacdbbiaaGreatDoorW1W2W3
import Derived.Test.YteldpapacdbbiaaGreatDoorM1M2M3
namespace Go.Proofs.YteldpapacdbbiaaGreatDoor
open Go.RowKit
set_option maxHeartbeats 4000000
theorem secure_any (W : World) (p : Int) : Calls Tryz.prog 71 #[.int .i64 p] W fun x W' => x = .returned (fr true p) ∧ Below W.heap.size W W' := by
  unfold fr
  go_enter Tryz.func71, Tryz.ntmps71
  go_wp2_with fail
  go_returns
  exact ⟨rfl, below_one _ _⟩
theorem frame_any (W : World) (m : Mp) : Calls Tryz.prog 74 #[m.v] W fun x W' => x = .returned (fr m.s m.p) ∧ Below W.heap.size W W' := by
  unfold fr Mp.v
  go_enter Tryz.func74, Tryz.ntmps74
  go_wp2_with fail
  go_returns
  exact ⟨rfl, (below_one _ _).trans ((below_one _ _).mono (by simp))⟩
def Mp.al (m : Mp) (a : Int) : Bool := if a = 0 then true else if a = 1 then m.wr else if a = 2 then m.ex else false
theorem allows_any (W : World) (m : Mp) (a : Int) : Calls Tryz.prog 42 #[m.v, .int .i64 a] W fun x W' => x = .returned (.bool (m.al a)) ∧ Below W.heap.size W W' := by
  unfold Mp.al Mp.v
  by_cases h0 : a = 0
  · subst h0
    rw [if_pos rfl]
    go_enter Tryz.func42, Tryz.ntmps42
    go_wp2_with fail
    go_returns
    exact ⟨rfl, below_one _ _⟩
  · rw [if_neg h0]
    by_cases h1 : a = 1
    · subst h1
      rw [if_pos rfl]
      go_enter Tryz.func42, Tryz.ntmps42
      go_wp2_with fail
      go_returns
      exact ⟨rfl, below_one _ _⟩
    · rw [if_neg h1]
      by_cases h2 : a = 2
      · subst h2
        rw [if_pos rfl]
        go_enter Tryz.func42, Tryz.ntmps42
        go_wp2_with fail
        go_returns
        exact ⟨rfl, below_one _ _⟩
      · rw [if_neg h2]
        go_enter Tryz.func42, Tryz.ntmps42
        go_wp2_with fail
        go_returns
        exact ⟨rfl, below_one _ _⟩
/-- Every word is a word. -/
def MS.U (m : MS) : Prop := ∀ k j, 0 ≤ wd (m.p k) j ∧ wd (m.p k) j < 4294967296
theorem MS.U.word {m : MS} (h : m.U) (s : Bool) (p off : Int) : 0 ≤ m.word s p off ∧ m.word s p off < 4294967296 := by
  unfold MS.word
  split
  · decide
  · split
    · exact h _ _
    · decide
/-- What a first level's word leads to. -/
def MS.f1E (m : MS) (t n : Int) : Int := if m.err true t n = 0 then (if pfE (m.word true t n) = 0 then (if (m.at true (pf (m.word true t n))).isSome then 0 else 90) else pfE (m.word true t n)) else m.err true t n
def MS.f1 (m : MS) (t n : Int) : Int := if m.f1E t n = 0 then pf (m.word true t n) else 0
def MS.f2E (m : MS) (t n : Int) : Int := if m.err true t n = 0 then (if psE (m.word true t n) = 0 then (if (m.at (ps (m.word true t n)).s (ps (m.word true t n)).p).isSome then 0 else 90) else psE (m.word true t n)) else m.err true t n
def MS.f2 (m : MS) (t n : Int) : Mp := if m.f2E t n = 0 then ps (m.word true t n) else Mp.z
theorem MS.read_at (m : MS) (s : Bool) (p off : Int) (s' : Bool) (p' : Int) : (m.read s p off).at s' p' = m.at s' p' := by
  unfold MS.read
  split
  · rfl
  · split <;> rfl
theorem pf_zero {v : Int} (h : ¬ pfE v = 0) : pf v = 0 := by
  unfold pfE at h; unfold pf
  by_cases h1 : PfOk v
  · by_cases h0 : v = 0
    · subst h0; exact absurd h1 (by decide)
    · simp [h0, h1] at h
  · rw [if_neg h1]
theorem ps_zero {v : Int} (h : ¬ psE v = 0) : ps v = Mp.z := by
  unfold psE at h; unfold ps
  by_cases h1 : PsOk v
  · by_cases h0 : v = 0
    · subst h0; exact absurd h1 (by decide)
    · simp [h0, h1] at h
  · rw [if_neg h1]
theorem follow1_any (w : World) (f : Fp) (m : MS) (h : Mem w f m) (hU : m.U) (t n : Int) :
    Calls Tryz.prog 69 #[ptr f.gm, .int .i64 t, .int .i64 n, fnV 70, fnV 71] w fun x w' => x = .returned (.tuple #[.int .i64 (m.f1 t n), .int .i64 (m.f1E t n)]) ∧ Mem w' f (m.read true t n) ∧ ButL f.w w w' := by
  have HS := hid (secure_any w t)
  have HR := hid (fun w' (hb : Below w.heap.size w w') => read_any w' f m (h.on hb) true t n)
  have hw := hU.word true t n
  have HP := hid (fun W => pf_any W (m.word true t n) hw.1 hw.2)
  have HF := hid (fun W => secure_any W (pf (m.word true t n)))
  have HH := hid (fun w' (hm : Mem w' f (m.read true t n)) => has_any w' f (m.read true t n) hm true (pf (m.word true t n)))
  rw [MS.read_at] at HH
  have HZ := hid (@pf_zero (m.word true t n))
  clear h hU hw
  unfold MS.f1 MS.f1E
  generalize m.word true t n = v at *
  generalize hA : m.err true t n = e1 at *
  generalize hB : pfE v = e2 at *
  generalize hC : pf v = q at *
  generalize m.at true q = o at *
  clear hA hB hC
  generalize m.read true t n = m' at *
  unfold fnV ptr at *
  by_cases h1 : e1 = 0
  · subst h1
    rw [if_pos rfl]
    by_cases h2 : e2 = 0
    · subst h2
      rw [if_pos rfl]
      cases o
      all_goals simp only [Option.isSome_none, Option.isSome_some, Bool.false_eq_true, if_false, if_true, if_neg (show ¬ (90 : Int) = 0 by decide)] at *
      all_goals go_enter Tryz.func69, Tryz.ntmps69
      all_goals go_wp2_with fail
      all_goals refine HS.out.mono ?_
      all_goals rintro x w1 ⟨rfl, hb1⟩
      all_goals have HR1 := hid (HR.out w1 hb1)
      all_goals have HB1 := hid (ButL.of (G := f.w) hb1)
      all_goals clear hb1 HS HR
      all_goals go_wp2_with fail
      all_goals refine HR1.out.mono ?_
      all_goals rintro x w2 ⟨rfl, hm2, hb2⟩
      all_goals have HM2 := hid hm2
      all_goals have HB2 := hid (HB1.out.trans hb2)
      all_goals clear hb2 hm2 HR1 HB1
      all_goals go_wp2_with fail
      all_goals refine (HP.out _).mono ?_
      all_goals rintro x w3 ⟨rfl, rfl⟩
      all_goals go_wp2_with fail
      all_goals refine (HF.out _).mono ?_
      all_goals rintro x w4 ⟨rfl, hb4⟩
      all_goals have HM4 := hid (HM2.out.on hb4)
      all_goals have HB4 := hid (HB2.out.on hb4)
      all_goals clear hb4 HM2 HB2
      all_goals go_wp2_with fail
      all_goals refine (HH.out _ HM4.out).mono ?_
      all_goals rintro x w5 ⟨rfl, hb5⟩
      all_goals have HM5 := hid (HM4.out.on hb5)
      all_goals have HB5 := hid (HB4.out.on hb5)
      all_goals clear hb5 HM4 HB4
      all_goals go_wp2_with fail
      all_goals go_returns
      all_goals exact ⟨rfl, HM5.out, HB5.out⟩
    · rw [if_neg h2, if_neg h2, ← HZ.out h2]
      clear HZ
      go_enter Tryz.func69, Tryz.ntmps69
      go_wp2_with fail
      refine HS.out.mono ?_
      rintro x w1 ⟨rfl, hb1⟩
      have HR1 := hid (HR.out w1 hb1)
      have HB1 := hid (ButL.of (G := f.w) hb1)
      clear hb1 HS HR
      go_wp2_with fail
      refine HR1.out.mono ?_
      rintro x w2 ⟨rfl, hm2, hb2⟩
      have HM2 := hid hm2
      have HB2 := hid (HB1.out.trans hb2)
      clear hb2 hm2 HR1 HB1
      go_wp2_with fail
      refine (HP.out _).mono ?_
      rintro x w3 ⟨rfl, rfl⟩
      go_wp2_with fail
      go_returns
      exact ⟨rfl, HM2.out, HB2.out⟩
  · simp only [if_neg h1]
    go_enter Tryz.func69, Tryz.ntmps69
    go_wp2_with fail
    refine HS.out.mono ?_
    rintro x w1 ⟨rfl, hb1⟩
    have HR1 := hid (HR.out w1 hb1)
    have HB1 := hid (ButL.of (G := f.w) hb1)
    clear hb1 HS HR
    go_wp2_with fail
    refine HR1.out.mono ?_
    rintro x w2 ⟨rfl, hm2, hb2⟩
    have HM2 := hid hm2
    have HB2 := hid (HB1.out.trans hb2)
    clear hb2 hm2 HR1 HB1
    go_wp2_with fail
    go_returns
    exact ⟨rfl, HM2.out, HB2.out⟩
end Go.Proofs.YteldpapacdbbiaaGreatDoor
namespace Go.Proofs.YteldpapacdbbiaaGreatDoor
open Go.RowKit
set_option maxHeartbeats 4000000
theorem chainB {w w3 : World} {g : Nat} (x y z t : Value) (e : (((w.setCell ⟨g, 0, none⟩ x).setCell ⟨g, 1, none⟩ y).setCell ⟨g, 2, none⟩ z).setCell ⟨g, 3, none⟩ t = w3) : ButL [g] w w3 := by
  rw [← e]
  exact (((ButL.setCell w g 0 x (by simp)).trans (.setCell _ g 1 y (by simp))).trans (.setCell _ g 2 z (by simp))).trans (.setCell _ g 3 t (by simp))
/-- What stands at the end of a call that reads: a memory, and all else as it was. -/
structure Rd (w w' : World) (f : Fp) (m : MS) : Prop where
  mem : Mem w' f m
  but : ButL f.w w w'
  lt : ∀ k ∈ f.all, k < w.heap.size
theorem Rd.on {w w' w2 : World} {f : Fp} {m : MS} (h : Rd w w' f m) (hb : Below w'.heap.size w' w2) : Rd w w2 f m := ⟨h.mem.on hb, h.but.on hb, h.lt⟩
theorem Rd.start {w : World} {f : Fp} {m : MS} (h : Mem w f m) : Rd w w f m := ⟨h, .refl _ _, h.lt⟩
theorem Rd.set {w w' w2 : World} {f : Fp} {m : MS} {g : Nat} (h : Rd w w' f m) (hb : ButL [g] w' w2) (hg : w.heap.size ≤ g) : Rd w w2 f m :=
  ⟨h.mem.frame hb (by intro k hk hm; rw [List.mem_singleton] at hm; have := h.lt k hk; omega), h.but.trans' hb hg, h.lt⟩
theorem Rd.step {w w' w2 : World} {f : Fp} {m m' : MS} (h : Rd w w' f m) (hm : Mem w2 f m') (hb : ButL f.w w' w2) : Rd w w2 f m' := ⟨hm, h.but.trans hb, h.lt⟩
theorem Rd.new {w w' : World} {f : Fp} {m : MS} (h : Rd w w' f m) {g : Nat} (hg : w.heap.size ≤ g) : g ∉ f.w := fun hm => by
  have := h.lt g (by simp only [Fp.w, Fp.all, List.mem_cons] at hm ⊢; rcases hm with hm | hm <;> simp [hm])
  omega
theorem follow2_any (w : World) (f : Fp) (m : MS) (h : Mem w f m) (hU : m.U) (t n : Int) :
    Calls Tryz.prog 72 #[ptr f.gm, .int .i64 t, .int .i64 n, fnV 73, fnV 74] w fun x w' => x = .returned (.tuple #[(m.f2 t n).v, .int .i64 (m.f2E t n)]) ∧ Rd w w' f (m.read true t n) := by
  have HC0 : Hid (Cel ((w.alloc (.cells #[.bool false, .int .i64 0, .bool false, .bool false] 107)).alloc (.cells #[.bool false, .int .i64 0, .bool false, .bool false] 107)) w.heap.size 107 [.bool Mp.z.s, .int .i64 Mp.z.p, .bool Mp.z.wr, .bool Mp.z.ex]) := hid ((Cel.new w 107 _).on (below_one _ _))
  have HC1 : Hid (Cel ((w.alloc (.cells #[.bool false, .int .i64 0, .bool false, .bool false] 107)).alloc (.cells #[.bool false, .int .i64 0, .bool false, .bool false] 107)) (w.heap.size + 1) 107 [.bool Mp.z.s, .int .i64 Mp.z.p, .bool Mp.z.wr, .bool Mp.z.ex]) := by
    have := Cel.new (w.alloc (.cells #[.bool false, .int .i64 0, .bool false, .bool false] 107)) 107 [.bool Mp.z.s, .int .i64 Mp.z.p, .bool Mp.z.wr, .bool Mp.z.ex]
    rw [World.size_alloc] at this
    exact hid this
  have HR0 : Hid (Rd w ((w.alloc (.cells #[.bool false, .int .i64 0, .bool false, .bool false] 107)).alloc (.cells #[.bool false, .int .i64 0, .bool false, .bool false] 107)) f m) := hid (((Rd.start h).on (below_one _ _)).on (below_one _ _))
  have hw := hU.word true t n
  have HP := hid (fun W => ps_any W (m.word true t n) hw.1 hw.2)
  have HF := hid (fun W => frame_any W (ps (m.word true t n)))
  have HH := hid (fun w' (hm : Mem w' f (m.read true t n)) => has_any w' f (m.read true t n) hm (ps (m.word true t n)).s (ps (m.word true t n)).p)
  rw [MS.read_at] at HH
  have HZ := hid (@ps_zero (m.word true t n))
  have HRD := hid (fun w' (hm : Mem w' f m) => read_any w' f m hm true t n)
  clear h hU hw
  unfold MS.f2 MS.f2E
  generalize m.word true t n = v at *
  generalize hA : m.err true t n = e1 at *
  generalize hB : psE v = e2 at *
  generalize hC : ps v = q at *
  generalize m.at q.s q.p = o at *
  clear hA hB hC
  generalize m.read true t n = m' at *
  unfold fnV ptr at *
  by_cases h1 : e1 = 0
  · subst h1
    rw [if_pos rfl]
    by_cases h2 : e2 = 0
    · subst h2
      rw [if_pos rfl]
      cases o
      all_goals simp only [Option.isSome_none, Option.isSome_some, Bool.false_eq_true, if_false, if_true, if_neg (show ¬ (90 : Int) = 0 by decide)] at *
      all_goals go_enter Tryz.func72, Tryz.ntmps72
      all_goals go_upto_region 2 with fail
      all_goals generalize hX : (w.alloc _).alloc _ = X at *
      all_goals clear hX
      all_goals go_wp2_with fail
      all_goals refine (secure_any _ _).mono ?_
      all_goals rintro x w1 ⟨rfl, hb1⟩
      all_goals have HD0 := hid (HC0.out.on hb1)
      all_goals have HD1 := hid (HC1.out.on hb1)
      all_goals have HR1 := hid (HR0.out.on hb1)
      all_goals clear hb1 HC0 HC1 HR0
      all_goals have HN0 := hid (HR1.out.new (Nat.le_refl _))
      all_goals have HN1 := hid (HR1.out.new (Nat.le_succ _))
      all_goals go_wp2_with fail
      all_goals refine (HRD.out _ HR1.out.mem).mono ?_
      all_goals rintro x w2 ⟨rfl, hm2, hb2⟩
      all_goals have HE0 := hid (HD0.out.but hb2 HN0.out)
      all_goals have HE1 := hid (HD1.out.but hb2 HN1.out)
      all_goals have HR2 := hid (HR1.out.step hm2 hb2)
      all_goals clear hb2 hm2 HD0 HD1 HR1 HRD
      all_goals go_wp2_with fail
      all_goals refine (HP.out _).mono ?_
      all_goals rintro x w3 ⟨rfl, hb3⟩
      all_goals have HF0 := hid ((HE0.out.on hb3).on (below_one _ (.cells #[.bool q.s, .int .i64 q.p, .bool q.wr, .bool q.ex] 107)))
      all_goals have HF1 := hid ((HE1.out.on hb3).on (below_one _ (.cells #[.bool q.s, .int .i64 q.p, .bool q.wr, .bool q.ex] 107)))
      all_goals have HR3 := hid ((HR2.out.on hb3).on (below_one _ (.cells #[.bool q.s, .int .i64 q.p, .bool q.wr, .bool q.ex] 107)))
      all_goals have HF9 := hid (Cel.new w3 107 [.bool q.s, .int .i64 q.p, .bool q.wr, .bool q.ex])
      all_goals clear hb3 HE0 HE1 HR2
      all_goals unfold Mp.v
      all_goals go_wp2_with fail
      all_goals refine (HF.out _).mono ?_
      all_goals rintro x w4 ⟨rfl, hb4⟩
      all_goals have HG0 := hid (HF0.out.on hb4)
      all_goals have HG1 := hid (HF1.out.on hb4)
      all_goals have HG9 := hid (HF9.out.on hb4)
      all_goals have HR4 := hid (HR3.out.on hb4)
      all_goals clear hb4 HF0 HF1 HF9 HR3
      all_goals generalize w3.heap.size = g9 at *
      all_goals go_wp2_with fail
      all_goals refine (HH.out _ HR4.out.mem).mono ?_
      all_goals rintro x w5 ⟨rfl, hb5⟩
      all_goals have HI0 := hid (HG0.out.on hb5)
      all_goals have HI1 := hid (HG1.out.on hb5)
      all_goals have HI9 := hid (HG9.out.on hb5)
      all_goals have HR5 := hid (HR4.out.on hb5)
      all_goals clear hb5 HG0 HG1 HG9 HR4
      · obtain ⟨a0, a1, a2, a3⟩ := cel4 HI0.out
        have af0 := HI0.out.free 0
        have af1 := HI0.out.free 1
        have af2 := HI0.out.free 2
        have af3 := HI0.out.free 3
        obtain ⟨b0, b1, b2, b3⟩ := cel4 HI1.out
        go_wp2_with fail
        generalize hX3 : World.setCell _ _ _ = w9
        have HC3 := chain4 HI0.out _ _ _ _ hX3
        have HR9 := hid (HR5.out.set (chainB _ _ _ _ hX3) (Nat.le_refl _))
        clear hX3
        obtain ⟨d0, d1, d2, d3⟩ := HC3
        (refine bodyPost_ret (by simp [results, Tryz.results72, go_sem, d0, d1, d2, d3]; try rfl) rfl ?_)
        exact ⟨rfl, HR9.out⟩
      · obtain ⟨a0, a1, a2, a3⟩ := cel4 HI0.out
        have af0 := HI0.out.free 0
        have af1 := HI0.out.free 1
        have af2 := HI0.out.free 2
        have af3 := HI0.out.free 3
        obtain ⟨b0, b1, b2, b3⟩ := cel4 HI9.out
        go_wp2_with fail
        generalize hX3 : World.setCell _ _ _ = w9
        have HC3 := chain4 HI0.out _ _ _ _ hX3
        have HR9 := hid (HR5.out.set (chainB _ _ _ _ hX3) (Nat.le_refl _))
        clear hX3
        obtain ⟨d0, d1, d2, d3⟩ := HC3
        (refine bodyPost_ret (by simp [results, Tryz.results72, go_sem, d0, d1, d2, d3]; try rfl) rfl ?_)
        exact ⟨rfl, HR9.out⟩
    · rw [if_neg h2, if_neg h2, ← HZ.out h2]
      clear HZ
      go_enter Tryz.func72, Tryz.ntmps72
      go_upto_region 2 with fail
      generalize hX : (w.alloc _).alloc _ = X at *
      clear hX
      go_wp2_with fail
      refine (secure_any _ _).mono ?_
      rintro x w1 ⟨rfl, hb1⟩
      have HD0 := hid (HC0.out.on hb1)
      have HD1 := hid (HC1.out.on hb1)
      have HR1 := hid (HR0.out.on hb1)
      clear hb1 HC0 HC1 HR0
      have HN0 := hid (HR1.out.new (Nat.le_refl _))
      have HN1 := hid (HR1.out.new (Nat.le_succ _))
      go_wp2_with fail
      refine (HRD.out _ HR1.out.mem).mono ?_
      rintro x w2 ⟨rfl, hm2, hb2⟩
      have HE0 := hid (HD0.out.but hb2 HN0.out)
      have HE1 := hid (HD1.out.but hb2 HN1.out)
      have HR2 := hid (HR1.out.step hm2 hb2)
      clear hb2 hm2 HD0 HD1 HR1 HRD
      go_wp2_with fail
      refine (HP.out _).mono ?_
      rintro x w3 ⟨rfl, hb3⟩
      have HF0 := hid ((HE0.out.on hb3).on (below_one _ (.cells #[.bool q.s, .int .i64 q.p, .bool q.wr, .bool q.ex] 107)))
      have HF1 := hid ((HE1.out.on hb3).on (below_one _ (.cells #[.bool q.s, .int .i64 q.p, .bool q.wr, .bool q.ex] 107)))
      have HR3 := hid ((HR2.out.on hb3).on (below_one _ (.cells #[.bool q.s, .int .i64 q.p, .bool q.wr, .bool q.ex] 107)))
      have HF9 := hid (Cel.new w3 107 [.bool q.s, .int .i64 q.p, .bool q.wr, .bool q.ex])
      clear hb3 HE0 HE1 HR2
      unfold Mp.v
      obtain ⟨a0, a1, a2, a3⟩ := cel4 HF0.out
      have af0 := HF0.out.free 0
      have af1 := HF0.out.free 1
      have af2 := HF0.out.free 2
      have af3 := HF0.out.free 3
      obtain ⟨b0, b1, b2, b3⟩ := cel4 HF9.out
      go_wp2_with fail
      generalize hX3 : World.setCell _ _ _ = w9
      have HC3 := chain4 HF0.out _ _ _ _ hX3
      have HR9 := hid (HR3.out.set (chainB _ _ _ _ hX3) (Nat.le_refl _))
      clear hX3
      obtain ⟨d0, d1, d2, d3⟩ := HC3
      (refine bodyPost_ret (by simp [results, Tryz.results72, go_sem, d0, d1, d2, d3]; try rfl) rfl ?_)
      exact ⟨rfl, HR9.out⟩
  · simp only [if_neg h1]
    go_enter Tryz.func72, Tryz.ntmps72
    go_upto_region 2 with fail
    generalize hX : (w.alloc _).alloc _ = X at *
    clear hX
    go_wp2_with fail
    refine (secure_any _ _).mono ?_
    rintro x w1 ⟨rfl, hb1⟩
    have HD0 := hid (HC0.out.on hb1)
    have HD1 := hid (HC1.out.on hb1)
    have HR1 := hid (HR0.out.on hb1)
    clear hb1 HC0 HC1 HR0
    have HN0 := hid (HR1.out.new (Nat.le_refl _))
    have HN1 := hid (HR1.out.new (Nat.le_succ _))
    go_wp2_with fail
    refine (HRD.out _ HR1.out.mem).mono ?_
    rintro x w2 ⟨rfl, hm2, hb2⟩
    have HE0 := hid (HD0.out.but hb2 HN0.out)
    have HE1 := hid (HD1.out.but hb2 HN1.out)
    have HR2 := hid (HR1.out.step hm2 hb2)
    clear hb2 hm2 HD0 HD1 HR1 HRD
    obtain ⟨a0, a1, a2, a3⟩ := cel4 HE0.out
    have af0 := HE0.out.free 0
    have af1 := HE0.out.free 1
    have af2 := HE0.out.free 2
    have af3 := HE0.out.free 3
    obtain ⟨b0, b1, b2, b3⟩ := cel4 HE1.out
    go_wp2_with fail
    generalize hX3 : World.setCell _ _ _ = w9
    have HC3 := chain4 HE0.out _ _ _ _ hX3
    have HR9 := hid (HR2.out.set (chainB _ _ _ _ hX3) (Nat.le_refl _))
    clear hX3
    obtain ⟨d0, d1, d2, d3⟩ := HC3
    (refine bodyPost_ret (by simp [results, Tryz.results72, go_sem, d0, d1, d2, d3]; try rfl) rfl ?_)
    exact ⟨rfl, HR9.out⟩
end Go.Proofs.YteldpapacdbbiaaGreatDoor
namespace Go.Proofs.YteldpapacdbbiaaGreatDoor
open Go.RowKit
set_option maxHeartbeats 4000000
theorem MS.read_p (m : MS) (s : Bool) (p off : Int) (k : Nat) : (m.read s p off).p k = m.p k := by
  unfold MS.read
  split
  · rfl
  · split <;> rfl
theorem MS.read_word (m : MS) (s : Bool) (p off : Int) (s' : Bool) (p' o' : Int) : (m.read s p off).word s' p' o' = m.word s' p' o' := by
  unfold MS.word
  rw [MS.read_at]
  split
  · rfl
  · rw [MS.read_p]
theorem MS.read_err (m : MS) (s : Bool) (p off : Int) (s' : Bool) (p' o' : Int) : (m.read s p off).err s' p' o' = m.err s' p' o' := by
  unfold MS.err
  rw [MS.read_at]
theorem MS.U.read {m : MS} (h : m.U) (s : Bool) (p off : Int) : (m.read s p off).U := fun k j => by rw [MS.read_p]; exact h k j
theorem MS.f2E_read (m : MS) (s : Bool) (p off t n : Int) : (m.read s p off).f2E t n = m.f2E t n := by
  unfold MS.f2E
  rw [MS.read_err, MS.read_word, MS.read_at]
theorem MS.f2_read (m : MS) (s : Bool) (p off t n : Int) : (m.read s p off).f2 t n = m.f2 t n := by
  unfold MS.f2
  rw [MS.f2E_read, MS.read_word]
/-- What the walk answers, and what it leaves. -/
def MS.wkE (m : MS) (l va : Int) : Int := if spE va = 0 then (if m.f1E l (spI va) = 0 then m.f2E (m.f1 l (spI va)) (spJ va) else m.f1E l (spI va)) else spE va
def MS.wk (m : MS) (l va : Int) : Mp := if spE va = 0 then (if m.f1E l (spI va) = 0 then m.f2 (m.f1 l (spI va)) (spJ va) else Mp.z) else Mp.z
def MS.wkS (m : MS) (l va : Int) : MS := if spE va = 0 then (if m.f1E l (spI va) = 0 then (m.read true l (spI va)).read true (m.f1 l (spI va)) (spJ va) else m.read true l (spI va)) else m
theorem walk_any (w : World) (f : Fp) (m : MS) (h : Mem w f m) (hU : m.U) (l va : Int) (h0 : 0 ≤ va) (h1 : va < 4294967296) :
    Calls Tryz.prog 41 #[ptr f.gm, .int .i64 l, .int .u32 va] w fun x w' => x = .returned (.tuple #[(m.wk l va).v, .int .i64 (m.wkE l va)]) ∧ Rd w w' f (m.wkS l va) := by
  have HC0 : Hid (Cel (w.alloc (.cells #[.bool false, .int .i64 0, .bool false, .bool false] 107)) w.heap.size 107 [.bool Mp.z.s, .int .i64 Mp.z.p, .bool Mp.z.wr, .bool Mp.z.ex]) := hid (Cel.new w 107 _)
  have HR0 : Hid (Rd w (w.alloc (.cells #[.bool false, .int .i64 0, .bool false, .bool false] 107)) f m) := hid ((Rd.start h).on (below_one _ _))
  have HS := hid (fun W => split_any W va h0 h1)
  have HF1 := hid (fun w' (hm : Mem w' f m) => follow1_any w' f m hm hU l (spI va))
  have HF2 := hid (fun w' (hm : Mem w' f (m.read true l (spI va))) => follow2_any w' f (m.read true l (spI va)) hm (hU.read _ _ _) (m.f1 l (spI va)) (spJ va))
  rw [MS.f2_read, MS.f2E_read] at HF2
  clear h hU h0 h1
  unfold MS.wk MS.wkE MS.wkS
  generalize spI va = i at *
  generalize spJ va = j at *
  generalize spO va = of at *
  generalize spE va = e0 at *
  generalize m.f1E l i = e1 at *
  generalize m.f1 l i = p at *
  generalize m.f2E p j = e2 at *
  generalize m.f2 p j = q at *
  generalize hm1 : m.read true l i = m1 at *
  clear hm1
  generalize hm2 : m1.read true p j = m2 at *
  clear hm2
  unfold fnV ptr at *
  by_cases h0 : e0 = 0
  · subst h0
    simp only [if_pos]
    by_cases h1 : e1 = 0
    · subst h1
      simp only [if_pos]
      go_enter Tryz.func41, Tryz.ntmps41
      go_upto_region 1 with fail
      generalize hX : w.alloc _ = X at *
      clear hX
      go_wp2_with fail
      refine (HS.out _).mono ?_
      rintro x w1 ⟨rfl, rfl⟩
      go_wp2_with fail
      refine (HF1.out _ HR0.out.mem).mono ?_
      rintro x w2 ⟨rfl, hm2, hb2⟩
      have HE0 := hid (HC0.out.but hb2 (HR0.out.new (Nat.le_refl _)))
      have HR2 := hid (HR0.out.step hm2 hb2)
      clear hm2 hb2 HC0 HR0 HF1
      go_wp2_with fail
      refine (HF2.out _ HR2.out.mem).mono ?_
      rintro x w3 ⟨rfl, hr3⟩
      have HG0 := hid (HE0.out.but hr3.but (HR2.out.new (Nat.le_refl _)))
      have HR3 := hid (HR2.out.step hr3.mem hr3.but)
      clear hr3 HE0 HR2 HF2
      unfold Mp.v
      obtain ⟨a0, a1, a2, a3⟩ := cel4 HG0.out
      have af0 := HG0.out.free 0
      have af1 := HG0.out.free 1
      have af2 := HG0.out.free 2
      have af3 := HG0.out.free 3
      go_wp2_with fail
      generalize hX3 : World.setCell _ _ _ = w9
      have HC3 := chain4 HG0.out _ _ _ _ hX3
      have HR9 := hid (HR3.out.set (chainB _ _ _ _ hX3) (Nat.le_refl _))
      clear hX3
      obtain ⟨d0, d1, d2, d3⟩ := HC3
      (refine bodyPost_ret (by simp [results, Tryz.results41, go_sem, d0, d1, d2, d3]; try rfl) rfl ?_)
      exact ⟨rfl, HR9.out⟩
    · simp only [if_neg h1]
      go_enter Tryz.func41, Tryz.ntmps41
      go_upto_region 1 with fail
      generalize hX : w.alloc _ = X at *
      clear hX
      go_wp2_with fail
      refine (HS.out _).mono ?_
      rintro x w1 ⟨rfl, rfl⟩
      go_wp2_with fail
      refine (HF1.out _ HR0.out.mem).mono ?_
      rintro x w2 ⟨rfl, hm2, hb2⟩
      have HE0 := hid (HC0.out.but hb2 (HR0.out.new (Nat.le_refl _)))
      have HR2 := hid (HR0.out.step hm2 hb2)
      clear hm2 hb2 HC0 HR0 HF1
      obtain ⟨a0, a1, a2, a3⟩ := cel4 HE0.out
      have af0 := HE0.out.free 0
      have af1 := HE0.out.free 1
      have af2 := HE0.out.free 2
      have af3 := HE0.out.free 3
      go_wp2_with fail
      generalize hX3 : World.setCell _ _ _ = w9
      have HC3 := chain4 HE0.out _ _ _ _ hX3
      have HR9 := hid (HR2.out.set (chainB _ _ _ _ hX3) (Nat.le_refl _))
      clear hX3
      obtain ⟨d0, d1, d2, d3⟩ := HC3
      (refine bodyPost_ret (by simp [results, Tryz.results41, go_sem, d0, d1, d2, d3]; try rfl) rfl ?_)
      exact ⟨rfl, HR9.out⟩
  · simp only [if_neg h0]
    go_enter Tryz.func41, Tryz.ntmps41
    go_upto_region 1 with fail
    generalize hX : w.alloc _ = X at *
    clear hX
    go_wp2_with fail
    refine (HS.out _).mono ?_
    rintro x w1 ⟨rfl, rfl⟩
    obtain ⟨a0, a1, a2, a3⟩ := cel4 HC0.out
    have af0 := HC0.out.free 0
    have af1 := HC0.out.free 1
    have af2 := HC0.out.free 2
    have af3 := HC0.out.free 3
    go_wp2_with fail
    generalize hX3 : World.setCell _ _ _ = w9
    have HC3 := chain4 HC0.out _ _ _ _ hX3
    have HR9 := hid (HR0.out.set (chainB _ _ _ _ hX3) (Nat.le_refl _))
    clear hX3
    obtain ⟨d0, d1, d2, d3⟩ := HC3
    (refine bodyPost_ret (by simp [results, Tryz.results41, go_sem, d0, d1, d2, d3]; try rfl) rfl ?_)
    exact ⟨rfl, HR9.out⟩
theorem chain2 {w w3 : World} {g : Nat} {a b : Value} (h : Cel w g 59 [a, b]) (x y : Value) (e : (w.setCell ⟨g, 0, none⟩ x).setCell ⟨g, 1, none⟩ y = w3) :
    (w3.cell? ⟨g, 0, none⟩ = some x ∧ w3.cell? ⟨g, 1, none⟩ = some y) ∧ ButL [g] w w3 := by
  have h4 : Cel w3 g 59 [x, y] := by rw [← e]; exact (h.setCell 0 x).setCell 1 y
  exact ⟨⟨h4.cell 0, h4.cell 1⟩, by rw [← e]; exact (ButL.setCell w g 0 x (by simp)).trans (.setCell _ g 1 y (by simp))⟩
def MS.trE (m : MS) (l va a : Int) : Int := if m.wkE l va = 0 then (if (m.wk l va).al a then 0 else 93) else m.wkE l va
def MS.trS (m : MS) (l va a : Int) : Bool := if m.trE l va a = 0 then (m.wk l va).s else false
def MS.trP (m : MS) (l va a : Int) : Int := if m.trE l va a = 0 then (m.wk l va).p else 0
def MS.trO (m : MS) (l va a : Int) : Int := if m.trE l va a = 0 then spO va else 0
theorem translate_any (w : World) (f : Fp) (m : MS) (h : Mem w f m) (hU : m.U) (l va a : Int) (h0 : 0 ≤ va) (h1 : va < 4294967296) :
    Calls Tryz.prog 24 #[ptr f.gm, .int .i64 l, .int .u32 va, .int .i64 a] w fun x w' => x = .returned (.tuple #[fr (m.trS l va a) (m.trP l va a), .int .i64 (m.trO l va a), .int .i64 (m.trE l va a)]) ∧ Rd w w' f (m.wkS l va) := by
  have HC0 : Hid (Cel (w.alloc (.cells #[.bool false, .int .i64 0] 59)) w.heap.size 59 [.bool false, .int .i64 0]) := hid (Cel.new w 59 _)
  have HR0 : Hid (Rd w (w.alloc (.cells #[.bool false, .int .i64 0] 59)) f m) := hid ((Rd.start h).on (below_one _ _))
  have HS := hid (fun W => split_any W va h0 h1)
  have HW := hid (fun w' (hm : Mem w' f m) => walk_any w' f m hm hU l va h0 h1)
  have HA := hid (fun W => allows_any W (m.wk l va) a)
  clear h hU h0 h1
  unfold MS.trS MS.trP MS.trO MS.trE
  generalize spI va = i at *
  generalize spJ va = j at *
  generalize spO va = of at *
  generalize spE va = e0 at *
  generalize m.wkE l va = e1 at *
  generalize m.wk l va = q at *
  generalize q.al a = al at *
  generalize m.wkS l va = m' at *
  unfold fr ptr at *
  by_cases h1 : e1 = 0
  · subst h1
    simp only [if_pos]
    cases al
    all_goals simp only [Bool.false_eq_true, if_false, if_true, if_neg (show ¬ (93 : Int) = 0 by decide)] at *
    all_goals go_enter Tryz.func24, Tryz.ntmps24
    all_goals go_upto_region 1 with fail
    all_goals generalize hX : w.alloc _ = X at *
    all_goals clear hX
    all_goals go_wp2_with fail
    all_goals refine (HW.out _ HR0.out.mem).mono ?_
    all_goals rintro x w2 ⟨rfl, hr2⟩
    all_goals have HE0 := hid ((HC0.out.but hr2.but (HR0.out.new (Nat.le_refl _))).on (below_one _ (.cells #[.bool q.s, .int .i64 q.p, .bool q.wr, .bool q.ex] 107)))
    all_goals have HR2 := hid ((HR0.out.step hr2.mem hr2.but).on (below_one _ (.cells #[.bool q.s, .int .i64 q.p, .bool q.wr, .bool q.ex] 107)))
    all_goals have HE9 := hid (Cel.new w2 107 [.bool q.s, .int .i64 q.p, .bool q.wr, .bool q.ex])
    all_goals clear hr2 HC0 HR0 HW
    all_goals unfold Mp.v
    all_goals go_wp2_with fail
    all_goals refine (HA.out _).mono ?_
    all_goals rintro x w3 ⟨rfl, hb3⟩
    all_goals have HG0 := hid (HE0.out.on hb3)
    all_goals have HG9 := hid (HE9.out.on hb3)
    all_goals have HR3 := hid (HR2.out.on hb3)
    all_goals clear hb3 HE0 HE9 HR2
    all_goals generalize w2.heap.size = g9 at *
    · have a0 := HG0.out.cell 0
      have a1 := HG0.out.cell 1
      simp only [List.getElem?_cons_zero, List.getElem?_cons_succ] at a0 a1
      have af0 := HG0.out.free 0
      have af1 := HG0.out.free 1
      go_wp2_with fail
      generalize hX3 : World.setCell _ _ _ = w9
      have HC3 := chain2 HG0.out _ _ hX3
      have HR9 := hid (HR3.out.set HC3.2 (Nat.le_refl _))
      clear hX3
      obtain ⟨⟨d0, d1⟩, _⟩ := HC3
      (refine bodyPost_ret (by simp [results, Tryz.results24, go_sem, d0, d1]; try rfl) rfl ?_)
      exact ⟨rfl, HR9.out⟩
    · obtain ⟨b0, b1, b2, b3⟩ := cel4 HG9.out
      go_wp2_with fail
      refine (HS.out _).mono ?_
      rintro x w4 ⟨rfl, rfl⟩
      have a0 := HG0.out.cell 0
      have a1 := HG0.out.cell 1
      simp only [List.getElem?_cons_zero, List.getElem?_cons_succ] at a0 a1
      have af0 := HG0.out.free 0
      have af1 := HG0.out.free 1
      go_wp2_with fail
      generalize hX3 : World.setCell _ _ _ = w9
      have HC3 := chain2 HG0.out _ _ hX3
      have HR9 := hid (HR3.out.set HC3.2 (Nat.le_refl _))
      clear hX3
      obtain ⟨⟨d0, d1⟩, _⟩ := HC3
      (refine bodyPost_ret (by simp [results, Tryz.results24, go_sem, d0, d1]; try rfl) rfl ?_)
      exact ⟨rfl, HR9.out⟩
  · simp only [if_neg h1]
    go_enter Tryz.func24, Tryz.ntmps24
    go_upto_region 1 with fail
    generalize hX : w.alloc _ = X at *
    clear hX
    go_wp2_with fail
    refine (HW.out _ HR0.out.mem).mono ?_
    rintro x w2 ⟨rfl, hr2⟩
    have HE0 := hid ((HC0.out.but hr2.but (HR0.out.new (Nat.le_refl _))).on (below_one _ (.cells #[.bool q.s, .int .i64 q.p, .bool q.wr, .bool q.ex] 107)))
    have HR2 := hid ((HR0.out.step hr2.mem hr2.but).on (below_one _ (.cells #[.bool q.s, .int .i64 q.p, .bool q.wr, .bool q.ex] 107)))
    have HE9 := hid (Cel.new w2 107 [.bool q.s, .int .i64 q.p, .bool q.wr, .bool q.ex])
    clear hr2 HC0 HR0 HW
    unfold Mp.v
    have a0 := HE0.out.cell 0
    have a1 := HE0.out.cell 1
    simp only [List.getElem?_cons_zero, List.getElem?_cons_succ] at a0 a1
    have af0 := HE0.out.free 0
    have af1 := HE0.out.free 1
    go_wp2_with fail
    generalize hX3 : World.setCell _ _ _ = w9
    have HC3 := chain2 HE0.out _ _ hX3
    have HR9 := hid (HR2.out.set HC3.2 (Nat.le_refl _))
    clear hX3
    obtain ⟨⟨d0, d1⟩, _⟩ := HC3
    (refine bodyPost_ret (by simp [results, Tryz.results24, go_sem, d0, d1]; try rfl) rfl ?_)
    exact ⟨rfl, HR9.out⟩
end Go.Proofs.YteldpapacdbbiaaGreatDoor
