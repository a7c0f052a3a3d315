/- walk's follow 58. -/
import Derived.Test.YtgbpbfnpeeciaaaW5
namespace Go.Proofs.Ytgbpbfnpeeciaaa
open Go.RowKit
set_option maxHeartbeats 4000000
theorem chainB {w w3 : World} {g : Nat} (x y z t : Value) (e : (((w.setCell ⟨g, 0, none⟩ x).setCell ⟨g, 1, none⟩ y).setCell ⟨g, 2, none⟩ z).setCell ⟨g, 3, none⟩ t = w3) : ButL [g] w w3 := by
  rw [← e]
  exact (((ButL.setCell w g 0 x (by simp)).trans (.setCell _ g 1 y (by simp))).trans (.setCell _ g 2 z (by simp))).trans (.setCell _ g 3 t (by simp))
/-- What stands at the end of a call that reads: a memory, and all else as it was. -/
structure Rd (w w' : World) (f : Fp) (m : MS) : Prop where
  mem : Mem w' f m
  but : ButL f.w w w'
  lt : ∀ k ∈ f.all, k < w.heap.size
theorem Rd.on {w w' w2 : World} {f : Fp} {m : MS} (h : Rd w w' f m) (hb : Below w'.heap.size w' w2) : Rd w w2 f m := ⟨h.mem.on hb, h.but.on hb, h.lt⟩
theorem Rd.start {w : World} {f : Fp} {m : MS} (h : Mem w f m) : Rd w w f m := ⟨h, .refl _ _, h.lt⟩
theorem Rd.set {w w' w2 : World} {f : Fp} {m : MS} {g : Nat} (h : Rd w w' f m) (hb : ButL [g] w' w2) (hg : w.heap.size ≤ g) : Rd w w2 f m :=
  ⟨h.mem.frame hb (by intro k hk hm; rw [List.mem_singleton] at hm; have := h.lt k hk; omega), h.but.trans' hb hg, h.lt⟩
theorem Rd.step {w w' w2 : World} {f : Fp} {m m' : MS} (h : Rd w w' f m) (hm : Mem w2 f m') (hb : ButL f.w w' w2) : Rd w w2 f m' := ⟨hm, h.but.trans hb, h.lt⟩
theorem Rd.new {w w' : World} {f : Fp} {m : MS} (h : Rd w w' f m) {g : Nat} (hg : w.heap.size ≤ g) : g ∉ f.w := fun hm => by
  have := h.lt g (by simp only [Fp.w, Fp.all, List.mem_cons] at hm ⊢; rcases hm with hm | hm <;> simp [hm])
  omega
theorem follow2_any (w : World) (f : Fp) (m : MS) (h : Mem w f m) (hU : m.U) (t n : Int) :
    Calls Try.prog 52 #[ptr f.gm, .int .i64 t, .int .i64 n, fnV 53, fnV 54] w fun x w' => x = .returned (.tuple #[(m.f2 t n).v, .int .i64 (m.f2E t n)]) ∧ Rd w w' f (m.read true t n) := by
  have HC0 : Hid (Cel ((w.alloc (.cells #[.bool false, .int .i64 0, .bool false, .bool false] 49)).alloc (.cells #[.bool false, .int .i64 0, .bool false, .bool false] 49)) w.heap.size 49 [.bool Mp.z.s, .int .i64 Mp.z.p, .bool Mp.z.wr, .bool Mp.z.ex]) := hid ((Cel.new w 49 _).on (below_one _ _))
  have HC1 : Hid (Cel ((w.alloc (.cells #[.bool false, .int .i64 0, .bool false, .bool false] 49)).alloc (.cells #[.bool false, .int .i64 0, .bool false, .bool false] 49)) (w.heap.size + 1) 49 [.bool Mp.z.s, .int .i64 Mp.z.p, .bool Mp.z.wr, .bool Mp.z.ex]) := by
    have := Cel.new (w.alloc (.cells #[.bool false, .int .i64 0, .bool false, .bool false] 49)) 49 [.bool Mp.z.s, .int .i64 Mp.z.p, .bool Mp.z.wr, .bool Mp.z.ex]
    rw [World.size_alloc] at this
    exact hid this
  have HR0 : Hid (Rd w ((w.alloc (.cells #[.bool false, .int .i64 0, .bool false, .bool false] 49)).alloc (.cells #[.bool false, .int .i64 0, .bool false, .bool false] 49)) f m) := hid (((Rd.start h).on (below_one _ _)).on (below_one _ _))
  have hw := hU.word true t n
  have HP := hid (fun W => ps_any W (m.word true t n) hw.1 hw.2)
  have HF := hid (fun W => w_frame_any W (ps (m.word true t n)))
  have HH := hid (fun w' (hm : Mem w' f (m.read true t n)) => has_any w' f (m.read true t n) hm (ps (m.word true t n)).s (ps (m.word true t n)).p)
  rw [MS.read_at] at HH
  have HZ := hid (@ps_zero (m.word true t n))
  have HRD := hid (fun w' (hm : Mem w' f m) => read_any w' f m hm true t n)
  clear h hU hw
  unfold MS.f2 MS.f2E
  generalize m.word true t n = v at *
  generalize hA : m.err true t n = e1 at *
  generalize hB : psE v = e2 at *
  generalize hC : ps v = q at *
  generalize m.at q.s q.p = o at *
  clear hA hB hC
  generalize m.read true t n = m' at *
  unfold fnV ptr at *
  by_cases h1 : e1 = 0
  · subst h1
    rw [if_pos rfl]
    by_cases h2 : e2 = 0
    · subst h2
      rw [if_pos rfl]
      cases o
      all_goals simp only [Option.isSome_none, Option.isSome_some, Bool.false_eq_true, if_false, if_true, if_neg (show ¬ (90 : Int) = 0 by decide)] at *
      all_goals go_enter Try.func52, Try.ntmps52
      all_goals go_upto_region 2 with fail
      all_goals generalize hX : (w.alloc _).alloc _ = X at *
      all_goals clear hX
      all_goals go_wp2_with fail
      all_goals refine (w_secure_any _ _).mono ?_
      all_goals rintro x w1 ⟨rfl, hb1⟩
      all_goals have HD0 := hid (HC0.out.on hb1)
      all_goals have HD1 := hid (HC1.out.on hb1)
      all_goals have HR1 := hid (HR0.out.on hb1)
      all_goals clear hb1 HC0 HC1 HR0
      all_goals have HN0 := hid (HR1.out.new (Nat.le_refl _))
      all_goals have HN1 := hid (HR1.out.new (Nat.le_succ _))
      all_goals go_wp2_with fail
      all_goals refine (HRD.out _ HR1.out.mem).mono ?_
      all_goals rintro x w2 ⟨rfl, hm2, hb2⟩
      all_goals have HE0 := hid (HD0.out.but hb2 HN0.out)
      all_goals have HE1 := hid (HD1.out.but hb2 HN1.out)
      all_goals have HR2 := hid (HR1.out.step hm2 hb2)
      all_goals clear hb2 hm2 HD0 HD1 HR1 HRD
      all_goals go_wp2_with fail
      all_goals refine (HP.out _).mono ?_
      all_goals rintro x w3 ⟨rfl, hb3⟩
      all_goals have HF0 := hid ((HE0.out.on hb3).on (below_one _ (.cells #[.bool q.s, .int .i64 q.p, .bool q.wr, .bool q.ex] 49)))
      all_goals have HF1 := hid ((HE1.out.on hb3).on (below_one _ (.cells #[.bool q.s, .int .i64 q.p, .bool q.wr, .bool q.ex] 49)))
      all_goals have HR3 := hid ((HR2.out.on hb3).on (below_one _ (.cells #[.bool q.s, .int .i64 q.p, .bool q.wr, .bool q.ex] 49)))
      all_goals have HF9 := hid (Cel.new w3 49 [.bool q.s, .int .i64 q.p, .bool q.wr, .bool q.ex])
      all_goals clear hb3 HE0 HE1 HR2
      all_goals unfold Mp.v
      all_goals go_wp2_with fail
      all_goals refine (HF.out _).mono ?_
      all_goals rintro x w4 ⟨rfl, hb4⟩
      all_goals have HG0 := hid (HF0.out.on hb4)
      all_goals have HG1 := hid (HF1.out.on hb4)
      all_goals have HG9 := hid (HF9.out.on hb4)
      all_goals have HR4 := hid (HR3.out.on hb4)
      all_goals clear hb4 HF0 HF1 HF9 HR3
      all_goals generalize w3.heap.size = g9 at *
      all_goals go_wp2_with fail
      all_goals refine (HH.out _ HR4.out.mem).mono ?_
      all_goals rintro x w5 ⟨rfl, hb5⟩
      all_goals have HI0 := hid (HG0.out.on hb5)
      all_goals have HI1 := hid (HG1.out.on hb5)
      all_goals have HI9 := hid (HG9.out.on hb5)
      all_goals have HR5 := hid (HR4.out.on hb5)
      all_goals clear hb5 HG0 HG1 HG9 HR4
      · obtain ⟨a0, a1, a2, a3⟩ := cel4 HI0.out
        have af0 := HI0.out.free 0
        have af1 := HI0.out.free 1
        have af2 := HI0.out.free 2
        have af3 := HI0.out.free 3
        obtain ⟨b0, b1, b2, b3⟩ := cel4 HI1.out
        go_wp2_with fail
        generalize hX3 : World.setCell _ _ _ = w9
        have HC3 := chain4 HI0.out _ _ _ _ hX3
        have HR9 := hid (HR5.out.set (chainB _ _ _ _ hX3) (Nat.le_refl _))
        clear hX3
        obtain ⟨d0, d1, d2, d3⟩ := HC3
        (refine bodyPost_ret (by simp [results, Try.results52, go_sem, d0, d1, d2, d3]; try rfl) rfl ?_)
        exact ⟨rfl, HR9.out⟩
      · obtain ⟨a0, a1, a2, a3⟩ := cel4 HI0.out
        have af0 := HI0.out.free 0
        have af1 := HI0.out.free 1
        have af2 := HI0.out.free 2
        have af3 := HI0.out.free 3
        obtain ⟨b0, b1, b2, b3⟩ := cel4 HI9.out
        go_wp2_with fail
        generalize hX3 : World.setCell _ _ _ = w9
        have HC3 := chain4 HI0.out _ _ _ _ hX3
        have HR9 := hid (HR5.out.set (chainB _ _ _ _ hX3) (Nat.le_refl _))
        clear hX3
        obtain ⟨d0, d1, d2, d3⟩ := HC3
        (refine bodyPost_ret (by simp [results, Try.results52, go_sem, d0, d1, d2, d3]; try rfl) rfl ?_)
        exact ⟨rfl, HR9.out⟩
    · rw [if_neg h2, if_neg h2, ← HZ.out h2]
      clear HZ
      go_enter Try.func52, Try.ntmps52
      go_upto_region 2 with fail
      generalize hX : (w.alloc _).alloc _ = X at *
      clear hX
      go_wp2_with fail
      refine (w_secure_any _ _).mono ?_
      rintro x w1 ⟨rfl, hb1⟩
      have HD0 := hid (HC0.out.on hb1)
      have HD1 := hid (HC1.out.on hb1)
      have HR1 := hid (HR0.out.on hb1)
      clear hb1 HC0 HC1 HR0
      have HN0 := hid (HR1.out.new (Nat.le_refl _))
      have HN1 := hid (HR1.out.new (Nat.le_succ _))
      go_wp2_with fail
      refine (HRD.out _ HR1.out.mem).mono ?_
      rintro x w2 ⟨rfl, hm2, hb2⟩
      have HE0 := hid (HD0.out.but hb2 HN0.out)
      have HE1 := hid (HD1.out.but hb2 HN1.out)
      have HR2 := hid (HR1.out.step hm2 hb2)
      clear hb2 hm2 HD0 HD1 HR1 HRD
      go_wp2_with fail
      refine (HP.out _).mono ?_
      rintro x w3 ⟨rfl, hb3⟩
      have HF0 := hid ((HE0.out.on hb3).on (below_one _ (.cells #[.bool q.s, .int .i64 q.p, .bool q.wr, .bool q.ex] 49)))
      have HF1 := hid ((HE1.out.on hb3).on (below_one _ (.cells #[.bool q.s, .int .i64 q.p, .bool q.wr, .bool q.ex] 49)))
      have HR3 := hid ((HR2.out.on hb3).on (below_one _ (.cells #[.bool q.s, .int .i64 q.p, .bool q.wr, .bool q.ex] 49)))
      have HF9 := hid (Cel.new w3 49 [.bool q.s, .int .i64 q.p, .bool q.wr, .bool q.ex])
      clear hb3 HE0 HE1 HR2
      unfold Mp.v
      obtain ⟨a0, a1, a2, a3⟩ := cel4 HF0.out
      have af0 := HF0.out.free 0
      have af1 := HF0.out.free 1
      have af2 := HF0.out.free 2
      have af3 := HF0.out.free 3
      obtain ⟨b0, b1, b2, b3⟩ := cel4 HF9.out
      go_wp2_with fail
      generalize hX3 : World.setCell _ _ _ = w9
      have HC3 := chain4 HF0.out _ _ _ _ hX3
      have HR9 := hid (HR3.out.set (chainB _ _ _ _ hX3) (Nat.le_refl _))
      clear hX3
      obtain ⟨d0, d1, d2, d3⟩ := HC3
      (refine bodyPost_ret (by simp [results, Try.results52, go_sem, d0, d1, d2, d3]; try rfl) rfl ?_)
      exact ⟨rfl, HR9.out⟩
  · simp only [if_neg h1]
    go_enter Try.func52, Try.ntmps52
    go_upto_region 2 with fail
    generalize hX : (w.alloc _).alloc _ = X at *
    clear hX
    go_wp2_with fail
    refine (w_secure_any _ _).mono ?_
    rintro x w1 ⟨rfl, hb1⟩
    have HD0 := hid (HC0.out.on hb1)
    have HD1 := hid (HC1.out.on hb1)
    have HR1 := hid (HR0.out.on hb1)
    clear hb1 HC0 HC1 HR0
    have HN0 := hid (HR1.out.new (Nat.le_refl _))
    have HN1 := hid (HR1.out.new (Nat.le_succ _))
    go_wp2_with fail
    refine (HRD.out _ HR1.out.mem).mono ?_
    rintro x w2 ⟨rfl, hm2, hb2⟩
    have HE0 := hid (HD0.out.but hb2 HN0.out)
    have HE1 := hid (HD1.out.but hb2 HN1.out)
    have HR2 := hid (HR1.out.step hm2 hb2)
    clear hb2 hm2 HD0 HD1 HR1 HRD
    obtain ⟨a0, a1, a2, a3⟩ := cel4 HE0.out
    have af0 := HE0.out.free 0
    have af1 := HE0.out.free 1
    have af2 := HE0.out.free 2
    have af3 := HE0.out.free 3
    obtain ⟨b0, b1, b2, b3⟩ := cel4 HE1.out
    go_wp2_with fail
    generalize hX3 : World.setCell _ _ _ = w9
    have HC3 := chain4 HE0.out _ _ _ _ hX3
    have HR9 := hid (HR2.out.set (chainB _ _ _ _ hX3) (Nat.le_refl _))
    clear hX3
    obtain ⟨d0, d1, d2, d3⟩ := HC3
    (refine bodyPost_ret (by simp [results, Try.results52, go_sem, d0, d1, d2, d3]; try rfl) rfl ?_)
    exact ⟨rfl, HR9.out⟩
end Go.Proofs.Ytgbpbfnpeeciaaa
