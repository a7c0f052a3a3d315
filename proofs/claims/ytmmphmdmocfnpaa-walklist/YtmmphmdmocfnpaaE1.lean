/- The document's Walk 88. -/
import Derived.Test.YtmmphmdmocfnpaaRf
import Derived.Test.YtmmphmdmocfnpaaN4
import Derived.Test.YtmmphmdmocfnpaaLp
namespace Go.Proofs.Ytmmphmdmocfnpaa
open Go.RowKit
set_option maxHeartbeats 8000000
set_option maxRecDepth 100000
theorem MS.read_ns (m : MS) (s : Bool) (p o : Int) : (m.read s p o).ns = m.ns := by
  unfold MS.read
  split
  · rfl
  · split <;> rfl
theorem at_sec (m : MS) (p : Int) : (m.at true p).isSome = decide (0 ≤ p ∧ p < (m.ns : Int)) := by
  unfold MS.at
  by_cases h : 0 ≤ p
  · by_cases h2 : p < (m.ns : Int) <;> simp [h, h2]
  · simp [h]
theorem spI_range (va : Int) (h0 : 0 ≤ va) (h1 : va < 4294967296) : In (spI va) := by
  unfold spI In
  split <;> omega
theorem err_sec {m : MS} {p o : Int} (h : 0 ≤ p ∧ p < (m.ns : Int)) (ho : In o) : m.err true p o = 0 := by
  have := at_sec m p
  rw [decide_eq_true h] at this
  obtain ⟨k, hk⟩ := Option.isSome_iff_exists.1 this
  unfold MS.err
  rw [hk]
  exact if_pos ho
theorem err_none {m : MS} {p o : Int} (h : ¬ (0 ≤ p ∧ p < (m.ns : Int))) : m.err true p o = 5 ∧ m.read true p o = m := by
  have := at_sec m p
  rw [decide_eq_false h] at this
  have hk : m.at true p = none := by simpa using this
  unfold MS.err MS.read
  rw [hk]
  exact ⟨rfl, rfl⟩
theorem pf_nonneg {v : Int} (h : 0 ≤ v) : 0 ≤ pf v := by unfold pf; split <;> omega
theorem wk0 {m : MS} {l va : Int} (h : ¬ spE va = 0) : m.wk l va = Mp.z ∧ m.wkE l va = spE va ∧ m.wkS l va = m := by unfold MS.wk MS.wkE MS.wkS; rw [if_neg h, if_neg h, if_neg h]; exact ⟨rfl, rfl, rfl⟩
theorem wk1 {m : MS} {l va : Int} (h : spE va = 0) (hl : ¬ (0 ≤ l ∧ l < (m.ns : Int))) : m.wk l va = Mp.z ∧ m.wkE l va = 5 ∧ m.wkS l va = m := by
  have he := err_none (o := spI va) hl
  have h1 : m.f1E l (spI va) = 5 := by unfold MS.f1E; rw [he.1]; rfl
  unfold MS.wk MS.wkE MS.wkS
  rw [if_pos h, if_pos h, if_pos h, h1, he.2]
  exact ⟨rfl, rfl, rfl⟩
theorem wk2 {m : MS} {l va : Int} (v0 : 0 ≤ va) (v1 : va < 4294967296) (h : spE va = 0) (hl : 0 ≤ l ∧ l < (m.ns : Int)) (hp : ¬ pfE (m.word true l (spI va)) = 0) : m.wk l va = Mp.z ∧ m.wkE l va = pfE (m.word true l (spI va)) ∧ m.wkS l va = m.read true l (spI va) := by
  have he := err_sec hl (spI_range va v0 v1)
  have h1 : m.f1E l (spI va) = pfE (m.word true l (spI va)) := by unfold MS.f1E; rw [if_pos he, if_neg hp]
  unfold MS.wk MS.wkE MS.wkS
  rw [if_pos h, if_pos h, if_pos h, h1, if_neg hp, if_neg hp, if_neg hp]
  exact ⟨rfl, rfl, rfl⟩
theorem wk3 {m : MS} {l va : Int} (v0 : 0 ≤ va) (v1 : va < 4294967296) (h : spE va = 0) (hl : 0 ≤ l ∧ l < (m.ns : Int)) (hp : pfE (m.word true l (spI va)) = 0) (hq : ¬ pf (m.word true l (spI va)) < (m.ns : Int)) : m.wk l va = Mp.z ∧ m.wkE l va = 90 ∧ m.wkS l va = m.read true l (spI va) := by
  have he := err_sec hl (spI_range va v0 v1)
  have h1 : m.f1E l (spI va) = 90 := by
    unfold MS.f1E
    rw [if_pos he, if_pos hp, at_sec, decide_eq_false (fun hh => hq hh.2)]
    rfl
  unfold MS.wk MS.wkE MS.wkS
  rw [if_pos h, if_pos h, if_pos h, h1]
  exact ⟨rfl, rfl, rfl⟩
theorem wk4 {m : MS} {l va : Int} (v0 : 0 ≤ va) (v1 : va < 4294967296) (hU : m.U) (h : spE va = 0) (hl : 0 ≤ l ∧ l < (m.ns : Int)) (hp : pfE (m.word true l (spI va)) = 0) (hq : pf (m.word true l (spI va)) < (m.ns : Int)) : m.wk l va = m.f2 (pf (m.word true l (spI va))) (spJ va) ∧ m.wkE l va = m.f2E (pf (m.word true l (spI va))) (spJ va) ∧ m.wkS l va = (m.read true l (spI va)).read true (pf (m.word true l (spI va))) (spJ va) ∧ m.err true (pf (m.word true l (spI va))) (spJ va) = 0 := by
  have he := err_sec hl (spI_range va v0 v1)
  have hn := pf_nonneg (hU.word true l (spI va)).1
  have h1 : m.f1E l (spI va) = 0 := by
    unfold MS.f1E
    rw [if_pos he, if_pos hp, at_sec, decide_eq_true ⟨hn, hq⟩]
    rfl
  have h2 : m.f1 l (spI va) = pf (m.word true l (spI va)) := by unfold MS.f1; rw [if_pos h1]
  unfold MS.wk MS.wkE MS.wkS
  rw [if_pos h, if_pos h, if_pos h, if_pos h1, if_pos h1, if_pos h1, h2]
  exact ⟨rfl, rfl, rfl, err_sec ⟨hn, hq⟩ (spJ_range va)⟩
/-- What stands while the document's memory is read. -/
structure Rr (w w' : World) (r : Rf) (m : MS) : Prop where
  mem : RMem w' r m
  but : ButL r.all w w'
  lt : ∀ k ∈ r.all, k < w.heap.size
theorem Rr.on {w w' w2 : World} {r : Rf} {m : MS} (h : Rr w w' r m) (hb : Below w'.heap.size w' w2) : Rr w w2 r m := ⟨h.mem.on hb, h.but.on hb, h.lt⟩
theorem Rr.start {w : World} {r : Rf} {m : MS} (h : RMem w r m) : Rr w w r m := ⟨h, .refl _ _, h.lt⟩
theorem Rr.set {w w' w2 : World} {r : Rf} {m : MS} {g : Nat} (h : Rr w w' r m) (hb : ButL [g] w' w2) (hg : w.heap.size ≤ g) : Rr w w2 r m :=
  ⟨h.mem.frame hb (by intro k hk hm; rw [List.mem_singleton] at hm; have := h.lt k hk; omega), h.but.trans' hb hg, h.lt⟩
theorem Rr.step {w w' w2 : World} {r : Rf} {m m' : MS} (h : Rr w w' r m) (s : RSt w' w2 r r m') : Rr w w2 r m' := ⟨s.mem, h.but.trans s.but, h.lt⟩
theorem Rr.new {w w' : World} {r : Rf} {m : MS} (h : Rr w w' r m) {g : Nat} (hg : w.heap.size ≤ g) : g ∉ r.all := fun hm => by have := h.lt g hm; omega
theorem Rr.st {w w' : World} {r : Rf} {m : MS} (h : Rr w w' r m) : RSt w w' r r m := ⟨h.mem, h.but, rfl, fun _ hk => .inl hk⟩
theorem rwalk_any (w : World) (r : Rf) (m : MS) (h : RMem w r m) (hU : m.U) (l va : Int) (h0 : 0 ≤ va) (h1 : va < 4294967296) :
    Calls Try.prog 42 #[ptr r.g, .int .i64 l, .int .u32 va] w fun x w' => x = .returned (.tuple #[(m.wk l va).v, .int .i64 (m.wkE l va)]) ∧ RSt w w' r r (m.wkS l va) := by
  have HC0 : Hid (Cel (w.alloc (.cells #[.bool false, .int .i64 0, .bool false, .bool false] 41)) w.heap.size 41 [.bool Mp.z.s, .int .i64 Mp.z.p, .bool Mp.z.wr, .bool Mp.z.ex]) := hid (Cel.new w 41 _)
  have HR0 : Hid (Rr w (w.alloc (.cells #[.bool false, .int .i64 0, .bool false, .bool false] 41)) r m) := hid ((Rr.start h).on (below_one _ _))
  have HS := hid (fun W => rsplit_any W va h0 h1)
  have HSe := hid (fun x (hx : RMem x r m) => rsecure_any x r m hx)
  have HSe1 := hid (fun x (hx : RMem x r (m.read true l (spI va))) => rsecure_any x r _ hx)
  rw [MS.read_ns] at HSe1
  have HRd := hid (fun x (hx : RMem x r m) => rread_any x r m hx true l (spI va))
  have HPf := hid (fun W => rpf_any W (m.word true l (spI va)))
  unfold ptr fr at *
  by_cases c0 : spE va = 0
  · by_cases c1 : 0 ≤ l ∧ l < (m.ns : Int)
    · obtain ⟨l0, l1⟩ := c1
      have l2 : ¬ l < 0 := by omega
      have l3 : ¬ (m.ns : Int) ≤ l := by omega
      by_cases c2 : pfE (m.word true l (spI va)) = 0
      · by_cases c3 : pf (m.word true l (spI va)) < (m.ns : Int)
        · obtain ⟨k1, k2, k3, k4⟩ := wk4 h0 h1 hU c0 ⟨l0, l1⟩ c2 c3
          rw [k1, k2, k3]
          have hw1 := hU.word true (pf (m.word true l (spI va))) (spJ va)
          have HRd2 := hid (fun x (hx : RMem x r (m.read true l (spI va))) => rread_any x r _ hx true (pf (m.word true l (spI va))) (spJ va))
          rw [MS.read_word] at HRd2
          have HPs := hid (fun W => rps_any W (m.word true (pf (m.word true l (spI va))) (spJ va)) hw1.1 hw1.2)
          have HHa := hid (fun x (hx : RMem x r ((m.read true l (spI va)).read true (pf (m.word true l (spI va))) (spJ va))) => rhas_any x r _ hx (ps (m.word true (pf (m.word true l (spI va))) (spJ va))).s (ps (m.word true (pf (m.word true l (spI va))) (spJ va))).p)
          rw [MS.read_at, MS.read_at] at HHa
          unfold MS.f2 MS.f2E
          rw [if_pos k4]
          clear k1 k2 k3 k4 hw1 h hU h0 h1
          have p0 : ¬ (m.ns : Int) ≤ pf (m.word true l (spI va)) := by omega
          rw [c0] at HS
          rw [c2] at HPf
          unfold ptr fr at *
          unfold Mp.v at HPs
          generalize (m.at (ps (m.word true (pf (m.word true l (spI va))) (spJ va))).s (ps (m.word true (pf (m.word true l (spI va))) (spJ va))).p).isSome = hs at *
          generalize ps (m.word true (pf (m.word true l (spI va))) (spJ va)) = q at *
          generalize psE (m.word true (pf (m.word true l (spI va))) (spJ va)) = e2 at *
          generalize m.word true (pf (m.word true l (spI va))) (spJ va) = w1v at *
          generalize pf (m.word true l (spI va)) = p at *
          generalize m.word true l (spI va) = w0v at *
          by_cases c4 : e2 = 0
          · subst c4
            simp only [if_pos]
            cases hs with
            | true =>
              simp only [if_pos]
              go_enter Try.func42, Try.ntmps42
              go_upto_region 1 with fail
              generalize hX : w.alloc _ = X at *
              clear hX
              go_upto_region 6 with (first | (go_at_call 16; refine (HS.out _).mono ?_; rintro x ws ⟨rfl, rfl⟩) | (go_at_call 65; refine (HSe.out _ HR0.out.mem).mono ?_; rintro x ws ⟨rfl, rfl⟩))
              go_wp2_with fail
              refine (HRd.out _ HR0.out.mem).mono ?_
              rintro x w2 ⟨rfl, hr2⟩
              have HE0 := hid (HC0.out.but hr2.but (HR0.out.new (Nat.le_refl _)))
              have HR2 := hid (HR0.out.step hr2)
              clear hr2 HC0 HR0 HRd
              go_upto_region 12 with (first | (go_at_call 20; refine (HPf.out _).mono ?_; rintro x ws ⟨rfl, rfl⟩) | (go_at_call 65; refine (HSe1.out _ HR2.out.mem).mono ?_; rintro x ws ⟨rfl, rfl⟩))
              go_wp2_with fail
              refine (HRd2.out _ HR2.out.mem).mono ?_
              rintro x w3 ⟨rfl, hr3⟩
              have HG0 := hid (HE0.out.but hr3.but (HR2.out.new (Nat.le_refl _)))
              have HR3 := hid (HR2.out.step hr3)
              clear hr3 HE0 HR2 HRd2
              go_wp2_with fail
              refine (HPs.out _).mono ?_
              rintro x w4 ⟨rfl, hb4⟩
              have HG4 := hid ((HG0.out.on hb4).on (below_one w4 (.cells #[.bool q.s, .int .i64 q.p, .bool q.wr, .bool q.ex] 41)))
              have HR4 := hid ((HR3.out.on hb4).on (below_one w4 (.cells #[.bool q.s, .int .i64 q.p, .bool q.wr, .bool q.ex] 41)))
              have HC15 : Hid (Cel (w4.alloc (.cells #[.bool q.s, .int .i64 q.p, .bool q.wr, .bool q.ex] 41)) w4.heap.size 41 [.bool q.s, .int .i64 q.p, .bool q.wr, .bool q.ex]) := hid (Cel.new w4 41 _)
              clear hb4 HG0 HR3 HPs
              go_upto_region 14 with fail
              generalize hX4 : World.alloc _ _ = X4 at *
              clear hX4
              generalize w4.heap.size = g15 at *
              obtain ⟨b0, b1, b2, b3⟩ := cel4r HC15.out
              go_upto_region 17 with (go_at_call 67; refine (HHa.out _ HR4.out.mem).mono ?_; rintro x w5 ⟨rfl, hb5⟩; have HG5 := hid (HG4.out.on hb5); have HR5 := hid (HR4.out.on hb5); have HC5 := hid (HC15.out.on hb5); clear hb5)
              clear HG4 HR4 HC15 b0 b1 b2 b3
              obtain ⟨b0, b1, b2, b3⟩ := cel4r HC5.out
              obtain ⟨a0, a1, a2, a3⟩ := cel4r HG5.out
              have af0 := HG5.out.free 0
              have af1 := HG5.out.free 1
              have af2 := HG5.out.free 2
              have af3 := HG5.out.free 3
              go_wp2_with fail
              generalize hX3 : World.setCell _ _ _ = w9
              have HC3 := chain4r HG5.out _ _ _ _ hX3
              have HR9 := hid (HR5.out.set (chainB _ _ _ _ hX3) (Nat.le_refl _))
              clear hX3
              obtain ⟨d0, d1, d2, d3⟩ := HC3
              (refine bodyPost_ret (by simp [results, Try.results42, go_sem, d0, d1, d2, d3]; try rfl) rfl ?_)
              exact ⟨rfl, HR9.out.st⟩
            | false =>
              simp only [Bool.false_eq_true, if_false]
              go_enter Try.func42, Try.ntmps42
              go_upto_region 1 with fail
              generalize hX : w.alloc _ = X at *
              clear hX
              go_upto_region 6 with (first | (go_at_call 16; refine (HS.out _).mono ?_; rintro x ws ⟨rfl, rfl⟩) | (go_at_call 65; refine (HSe.out _ HR0.out.mem).mono ?_; rintro x ws ⟨rfl, rfl⟩))
              go_wp2_with fail
              refine (HRd.out _ HR0.out.mem).mono ?_
              rintro x w2 ⟨rfl, hr2⟩
              have HE0 := hid (HC0.out.but hr2.but (HR0.out.new (Nat.le_refl _)))
              have HR2 := hid (HR0.out.step hr2)
              clear hr2 HC0 HR0 HRd
              go_upto_region 12 with (first | (go_at_call 20; refine (HPf.out _).mono ?_; rintro x ws ⟨rfl, rfl⟩) | (go_at_call 65; refine (HSe1.out _ HR2.out.mem).mono ?_; rintro x ws ⟨rfl, rfl⟩))
              go_wp2_with fail
              refine (HRd2.out _ HR2.out.mem).mono ?_
              rintro x w3 ⟨rfl, hr3⟩
              have HG0 := hid (HE0.out.but hr3.but (HR2.out.new (Nat.le_refl _)))
              have HR3 := hid (HR2.out.step hr3)
              clear hr3 HE0 HR2 HRd2
              go_wp2_with fail
              refine (HPs.out _).mono ?_
              rintro x w4 ⟨rfl, hb4⟩
              have HG4 := hid ((HG0.out.on hb4).on (below_one w4 (.cells #[.bool q.s, .int .i64 q.p, .bool q.wr, .bool q.ex] 41)))
              have HR4 := hid ((HR3.out.on hb4).on (below_one w4 (.cells #[.bool q.s, .int .i64 q.p, .bool q.wr, .bool q.ex] 41)))
              have HC15 : Hid (Cel (w4.alloc (.cells #[.bool q.s, .int .i64 q.p, .bool q.wr, .bool q.ex] 41)) w4.heap.size 41 [.bool q.s, .int .i64 q.p, .bool q.wr, .bool q.ex]) := hid (Cel.new w4 41 _)
              clear hb4 HG0 HR3 HPs
              go_upto_region 14 with fail
              generalize hX4 : World.alloc _ _ = X4 at *
              clear hX4
              generalize w4.heap.size = g15 at *
              obtain ⟨b0, b1, b2, b3⟩ := cel4r HC15.out
              go_upto_region 17 with (go_at_call 67; refine (HHa.out _ HR4.out.mem).mono ?_; rintro x w5 ⟨rfl, hb5⟩; have HG5 := hid (HG4.out.on hb5); have HR5 := hid (HR4.out.on hb5); have HC5 := hid (HC15.out.on hb5); clear hb5)
              clear HG4 HR4 HC15 b0 b1 b2 b3
              obtain ⟨b0, b1, b2, b3⟩ := cel4r HC5.out
              obtain ⟨a0, a1, a2, a3⟩ := cel4r HG5.out
              have af0 := HG5.out.free 0
              have af1 := HG5.out.free 1
              have af2 := HG5.out.free 2
              have af3 := HG5.out.free 3
              go_wp2_with fail
              generalize hX3 : World.setCell _ _ _ = w9
              have HC3 := chain4r HG5.out _ _ _ _ hX3
              have HR9 := hid (HR5.out.set (chainB _ _ _ _ hX3) (Nat.le_refl _))
              clear hX3
              obtain ⟨d0, d1, d2, d3⟩ := HC3
              (refine bodyPost_ret (by simp [results, Try.results42, go_sem, d0, d1, d2, d3]; try rfl) rfl ?_)
              exact ⟨rfl, HR9.out.st⟩
          · have e2' : (e2 != 0) = true := by simpa using c4
            simp only [if_neg c4]
            clear c4
            go_enter Try.func42, Try.ntmps42
            go_upto_region 1 with fail
            generalize hX : w.alloc _ = X at *
            clear hX
            go_upto_region 6 with (first | (go_at_call 16; refine (HS.out _).mono ?_; rintro x ws ⟨rfl, rfl⟩) | (go_at_call 65; refine (HSe.out _ HR0.out.mem).mono ?_; rintro x ws ⟨rfl, rfl⟩))
            go_wp2_with fail
            refine (HRd.out _ HR0.out.mem).mono ?_
            rintro x w2 ⟨rfl, hr2⟩
            have HE0 := hid (HC0.out.but hr2.but (HR0.out.new (Nat.le_refl _)))
            have HR2 := hid (HR0.out.step hr2)
            clear hr2 HC0 HR0 HRd
            go_upto_region 12 with (first | (go_at_call 20; refine (HPf.out _).mono ?_; rintro x ws ⟨rfl, rfl⟩) | (go_at_call 65; refine (HSe1.out _ HR2.out.mem).mono ?_; rintro x ws ⟨rfl, rfl⟩))
            go_wp2_with fail
            refine (HRd2.out _ HR2.out.mem).mono ?_
            rintro x w3 ⟨rfl, hr3⟩
            have HG0 := hid (HE0.out.but hr3.but (HR2.out.new (Nat.le_refl _)))
            have HR3 := hid (HR2.out.step hr3)
            clear hr3 HE0 HR2 HRd2
            go_wp2_with fail
            refine (HPs.out _).mono ?_
            rintro x w4 ⟨rfl, hb4⟩
            have HG4 := hid ((HG0.out.on hb4).on (below_one w4 (.cells #[.bool q.s, .int .i64 q.p, .bool q.wr, .bool q.ex] 41)))
            have HR4 := hid ((HR3.out.on hb4).on (below_one w4 (.cells #[.bool q.s, .int .i64 q.p, .bool q.wr, .bool q.ex] 41)))
            have HC15 : Hid (Cel (w4.alloc (.cells #[.bool q.s, .int .i64 q.p, .bool q.wr, .bool q.ex] 41)) w4.heap.size 41 [.bool q.s, .int .i64 q.p, .bool q.wr, .bool q.ex]) := hid (Cel.new w4 41 _)
            clear hb4 HG0 HR3 HPs
            go_upto_region 14 with fail
            generalize hX4 : World.alloc _ _ = X4 at *
            clear hX4
            generalize w4.heap.size = g15 at *
            obtain ⟨a0, a1, a2, a3⟩ := cel4r HG4.out
            have af0 := HG4.out.free 0
            have af1 := HG4.out.free 1
            have af2 := HG4.out.free 2
            have af3 := HG4.out.free 3
            go_wp2_with fail
            generalize hX3 : World.setCell _ _ _ = w9
            have HC3 := chain4r HG4.out _ _ _ _ hX3
            have HR9 := hid (HR4.out.set (chainB _ _ _ _ hX3) (Nat.le_refl _))
            clear hX3
            obtain ⟨d0, d1, d2, d3⟩ := HC3
            (refine bodyPost_ret (by simp [results, Try.results42, go_sem, d0, d1, d2, d3]; try rfl) rfl ?_)
            exact ⟨rfl, HR9.out.st⟩
        · obtain ⟨k1, k2, k3⟩ := wk3 h0 h1 c0 ⟨l0, l1⟩ c2 c3
          rw [k1, k2, k3]
          clear k1 k2 k3 h hU h0 h1
          have p0 : (m.ns : Int) ≤ pf (m.word true l (spI va)) := by omega
          rw [c0] at HS
          rw [c2] at HPf
          generalize pf (m.word true l (spI va)) = p at *
          generalize m.word true l (spI va) = w0v at *
          go_enter Try.func42, Try.ntmps42
          go_upto_region 1 with fail
          generalize hX : w.alloc _ = X at *
          clear hX
          go_upto_region 6 with (first | (go_at_call 16; refine (HS.out _).mono ?_; rintro x ws ⟨rfl, rfl⟩) | (go_at_call 65; refine (HSe.out _ HR0.out.mem).mono ?_; rintro x ws ⟨rfl, rfl⟩))
          go_wp2_with fail
          refine (HRd.out _ HR0.out.mem).mono ?_
          rintro x w2 ⟨rfl, hr2⟩
          have HE0 := hid (HC0.out.but hr2.but (HR0.out.new (Nat.le_refl _)))
          have HR2 := hid (HR0.out.step hr2)
          clear hr2 HC0 HR0 HRd
          obtain ⟨a0, a1, a2, a3⟩ := cel4r HE0.out
          have af0 := HE0.out.free 0
          have af1 := HE0.out.free 1
          have af2 := HE0.out.free 2
          have af3 := HE0.out.free 3
          go_wp2_with (first | (go_at_call 20; refine (HPf.out _).mono ?_; rintro x ws ⟨rfl, rfl⟩) | (go_at_call 65; refine (HSe1.out _ HR2.out.mem).mono ?_; rintro x ws ⟨rfl, rfl⟩))
          generalize hX3 : World.setCell _ _ _ = w9
          have HC3 := chain4r HE0.out _ _ _ _ hX3
          have HR9 := hid (HR2.out.set (chainB _ _ _ _ hX3) (Nat.le_refl _))
          clear hX3
          obtain ⟨d0, d1, d2, d3⟩ := HC3
          (refine bodyPost_ret (by simp [results, Try.results42, go_sem, d0, d1, d2, d3]; try rfl) rfl ?_)
          exact ⟨rfl, HR9.out.st⟩
      · obtain ⟨k1, k2, k3⟩ := wk2 h0 h1 c0 ⟨l0, l1⟩ c2
        rw [k1, k2, k3]
        clear k1 k2 k3 h hU h0 h1
        rw [c0] at HS
        have e2' : (pfE (m.word true l (spI va)) != 0) = true := by simpa using c2
        generalize pfE (m.word true l (spI va)) = e1 at *
        generalize pf (m.word true l (spI va)) = p at *
        generalize m.word true l (spI va) = w0v at *
        go_enter Try.func42, Try.ntmps42
        go_upto_region 1 with fail
        generalize hX : w.alloc _ = X at *
        clear hX
        go_upto_region 6 with (first | (go_at_call 16; refine (HS.out _).mono ?_; rintro x ws ⟨rfl, rfl⟩) | (go_at_call 65; refine (HSe.out _ HR0.out.mem).mono ?_; rintro x ws ⟨rfl, rfl⟩))
        go_wp2_with fail
        refine (HRd.out _ HR0.out.mem).mono ?_
        rintro x w2 ⟨rfl, hr2⟩
        have HE0 := hid (HC0.out.but hr2.but (HR0.out.new (Nat.le_refl _)))
        have HR2 := hid (HR0.out.step hr2)
        clear hr2 HC0 HR0 HRd
        obtain ⟨a0, a1, a2, a3⟩ := cel4r HE0.out
        have af0 := HE0.out.free 0
        have af1 := HE0.out.free 1
        have af2 := HE0.out.free 2
        have af3 := HE0.out.free 3
        go_wp2_with (go_at_call 20; refine (HPf.out _).mono ?_; rintro x ws ⟨rfl, rfl⟩)
        generalize hX3 : World.setCell _ _ _ = w9
        have HC3 := chain4r HE0.out _ _ _ _ hX3
        have HR9 := hid (HR2.out.set (chainB _ _ _ _ hX3) (Nat.le_refl _))
        clear hX3
        obtain ⟨d0, d1, d2, d3⟩ := HC3
        (refine bodyPost_ret (by simp [results, Try.results42, go_sem, d0, d1, d2, d3]; try rfl) rfl ?_)
        exact ⟨rfl, HR9.out.st⟩
    · obtain ⟨k1, k2, k3⟩ := wk1 c0 c1
      rw [k1, k2, k3]
      rw [c0] at HS
      clear k1 k2 k3 h hU h0 h1
      by_cases l0 : l < 0
      · go_enter Try.func42, Try.ntmps42
        go_upto_region 1 with fail
        generalize hX : w.alloc _ = X at *
        clear hX
        obtain ⟨a0, a1, a2, a3⟩ := cel4r HC0.out
        have af0 := HC0.out.free 0
        have af1 := HC0.out.free 1
        have af2 := HC0.out.free 2
        have af3 := HC0.out.free 3
        go_wp2_with (first | (go_at_call 16; refine (HS.out _).mono ?_; rintro x ws ⟨rfl, rfl⟩) | (go_at_call 65; refine (HSe.out _ HR0.out.mem).mono ?_; rintro x ws ⟨rfl, rfl⟩))
        generalize hX3 : World.setCell _ _ _ = w9
        have HC3 := chain4r HC0.out _ _ _ _ hX3
        have HR9 := hid (HR0.out.set (chainB _ _ _ _ hX3) (Nat.le_refl _))
        clear hX3
        obtain ⟨d0, d1, d2, d3⟩ := HC3
        (refine bodyPost_ret (by simp [results, Try.results42, go_sem, d0, d1, d2, d3]; try rfl) rfl ?_)
        exact ⟨rfl, HR9.out.st⟩
      · have l1 : (m.ns : Int) ≤ l := by omega
        go_enter Try.func42, Try.ntmps42
        go_upto_region 1 with fail
        generalize hX : w.alloc _ = X at *
        clear hX
        obtain ⟨a0, a1, a2, a3⟩ := cel4r HC0.out
        have af0 := HC0.out.free 0
        have af1 := HC0.out.free 1
        have af2 := HC0.out.free 2
        have af3 := HC0.out.free 3
        go_wp2_with (first | (go_at_call 16; refine (HS.out _).mono ?_; rintro x ws ⟨rfl, rfl⟩) | (go_at_call 65; refine (HSe.out _ HR0.out.mem).mono ?_; rintro x ws ⟨rfl, rfl⟩))
        generalize hX3 : World.setCell _ _ _ = w9
        have HC3 := chain4r HC0.out _ _ _ _ hX3
        have HR9 := hid (HR0.out.set (chainB _ _ _ _ hX3) (Nat.le_refl _))
        clear hX3
        obtain ⟨d0, d1, d2, d3⟩ := HC3
        (refine bodyPost_ret (by simp [results, Try.results42, go_sem, d0, d1, d2, d3]; try rfl) rfl ?_)
        exact ⟨rfl, HR9.out.st⟩
  · obtain ⟨k1, k2, k3⟩ := wk0 (m := m) (l := l) c0
    rw [k1, k2, k3]
    clear k1 k2 k3 h hU h0 h1
    have e2' : (spE va != 0) = true := by simpa using c0
    go_enter Try.func42, Try.ntmps42
    go_upto_region 1 with fail
    generalize hX : w.alloc _ = X at *
    clear hX
    obtain ⟨a0, a1, a2, a3⟩ := cel4r HC0.out
    have af0 := HC0.out.free 0
    have af1 := HC0.out.free 1
    have af2 := HC0.out.free 2
    have af3 := HC0.out.free 3
    go_wp2_with (go_at_call 16; refine (HS.out _).mono ?_; rintro x ws ⟨rfl, rfl⟩)
    generalize hX3 : World.setCell _ _ _ = w9
    have HC3 := chain4r HC0.out _ _ _ _ hX3
    have HR9 := hid (HR0.out.set (chainB _ _ _ _ hX3) (Nat.le_refl _))
    clear hX3
    obtain ⟨d0, d1, d2, d3⟩ := HC3
    (refine bodyPost_ret (by simp [results, Try.results42, go_sem, d0, d1, d2, d3]; try rfl) rfl ?_)
    exact ⟨rfl, HR9.out.st⟩
end Go.Proofs.Ytmmphmdmocfnpaa
