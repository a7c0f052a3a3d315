/- The document's Translate 57. -/
import Derived.Test.YtmmphmdmocfnpaaE1
namespace Go.Proofs.Ytmmphmdmocfnpaa
open Go.RowKit
set_option maxHeartbeats 8000000
set_option maxRecDepth 100000
theorem chain2r {w w3 : World} {g : Nat} {a b : Value} (h : Cel w g 99 [a, b]) (x y : Value) (e : (w.setCell ⟨g, 0, none⟩ x).setCell ⟨g, 1, none⟩ y = w3) :
    (w3.cell? ⟨g, 0, none⟩ = some x ∧ w3.cell? ⟨g, 1, none⟩ = some y) ∧ ButL [g] w w3 := by
  have h4 : Cel w3 g 99 [x, y] := by rw [← e]; exact (h.setCell 0 x).setCell 1 y
  exact ⟨⟨h4.cell 0, h4.cell 1⟩, by rw [← e]; exact (ButL.setCell w g 0 x (by simp)).trans (.setCell _ g 1 y (by simp))⟩
theorem rtranslate_any (w : World) (r : Rf) (m : MS) (h : RMem w r m) (hU : m.U) (l va a : Int) (h0 : 0 ≤ va) (h1 : va < 4294967296) :
    Calls Try.prog 43 #[ptr r.g, .int .i64 l, .int .u32 va, .int .i64 a] w fun x w' => x = .returned (.tuple #[fr (m.trS l va a) (m.trP l va a), .int .i64 (m.trO l va a), .int .i64 (m.trE l va a)]) ∧ RSt w w' r r (m.wkS l va) := by
  have ha : a = 0 ∨ a = 1 ∨ a = 2 ∨ (¬ a = 0 ∧ ¬ a = 1 ∧ ¬ a = 2) := by omega
  have HC0 : Hid (Cel (w.alloc (.cells #[.bool false, .int .i64 0] 99)) w.heap.size 99 [.bool false, .int .i64 0]) := hid (Cel.new w 99 _)
  have HR0 : Hid (Rr w (w.alloc (.cells #[.bool false, .int .i64 0] 99)) r m) := hid ((Rr.start h).on (below_one _ _))
  have HS := hid (fun W => rsplit_any W va h0 h1)
  have HW := hid (fun w' (hm : RMem w' r m) => rwalk_any w' r m hm hU l va h0 h1)
  clear h hU h0 h1
  unfold MS.trS MS.trP MS.trO MS.trE
  generalize spI va = i at *
  generalize spJ va = j at *
  generalize spO va = of at *
  generalize spE va = e0 at *
  generalize m.wkE l va = e1 at *
  generalize m.wk l va = q at *
  generalize m.wkS l va = m' at *
  obtain ⟨qs, qp, qw, qx⟩ := q
  unfold Mp.v at HW
  simp only [Mp.al] at *
  unfold fr ptr at *
  by_cases h1 : e1 = 0
  · subst h1
    rcases ha with rfl | rfl | rfl | ⟨n0, n1, n2⟩
    · simp only [if_true]
      go_enter Try.func43, Try.ntmps43
      go_upto_region 1 with fail
      generalize hX : w.alloc _ = X at *
      clear hX
      go_wp2_with fail
      refine (HW.out _ HR0.out.mem).mono ?_
      rintro x w2 ⟨rfl, hr2⟩
      have HE0 := hid ((HC0.out.but hr2.but (HR0.out.new (Nat.le_refl _))).on (below_one _ (.cells #[.bool qs, .int .i64 qp, .bool qw, .bool qx] 41)))
      have HR2 := hid ((HR0.out.step hr2).on (below_one _ (.cells #[.bool qs, .int .i64 qp, .bool qw, .bool qx] 41)))
      have HE9 := hid (Cel.new w2 41 [.bool qs, .int .i64 qp, .bool qw, .bool qx])
      clear hr2 HC0 HR0 HW
      go_upto_region 2 with fail
      generalize hX2 : World.alloc _ _ = X2 at *
      clear hX2
      generalize w2.heap.size = g9 at *
      have b0 := HE9.out.cell 0
      have b1 := HE9.out.cell 1
      have b2 := HE9.out.cell 2
      have b3 := HE9.out.cell 3
      have a0 := HE0.out.cell 0
      have a1 := HE0.out.cell 1
      simp only [List.getElem?_cons_zero, List.getElem?_cons_succ] at a0 a1 b0 b1 b2 b3
      have af0 := HE0.out.free 0
      have af1 := HE0.out.free 1
      go_wp2_with (go_at_call 16; refine (HS.out _).mono ?_; rintro x ws ⟨rfl, rfl⟩)
      generalize hX3 : World.setCell _ _ _ = w9
      have HC3 := chain2r HE0.out _ _ hX3
      have HR9 := hid (HR2.out.set HC3.2 (Nat.le_refl _))
      clear hX3
      obtain ⟨⟨d0, d1⟩, _⟩ := HC3
      (refine bodyPost_ret (by simp [results, Try.results43, go_sem, d0, d1]; try rfl) rfl ?_)
      exact ⟨rfl, HR9.out.st⟩
    · cases qw
      · simp only [Bool.false_eq_true, if_false, if_true, if_neg (show ¬ (93 : Int) = 0 by decide), if_neg (show ¬ (1 : Int) = 0 by decide)] at *
        go_enter Try.func43, Try.ntmps43
        go_upto_region 1 with fail
        generalize hX : w.alloc _ = X at *
        clear hX
        go_wp2_with fail
        refine (HW.out _ HR0.out.mem).mono ?_
        rintro x w2 ⟨rfl, hr2⟩
        have HE0 := hid ((HC0.out.but hr2.but (HR0.out.new (Nat.le_refl _))).on (below_one _ (.cells #[.bool qs, .int .i64 qp, .bool false, .bool qx] 41)))
        have HR2 := hid ((HR0.out.step hr2).on (below_one _ (.cells #[.bool qs, .int .i64 qp, .bool false, .bool qx] 41)))
        have HE9 := hid (Cel.new w2 41 [.bool qs, .int .i64 qp, .bool false, .bool qx])
        clear hr2 HC0 HR0 HW
        go_upto_region 2 with fail
        generalize hX2 : World.alloc _ _ = X2 at *
        clear hX2
        generalize w2.heap.size = g9 at *
        have b0 := HE9.out.cell 0
        have b1 := HE9.out.cell 1
        have b2 := HE9.out.cell 2
        have b3 := HE9.out.cell 3
        have a0 := HE0.out.cell 0
        have a1 := HE0.out.cell 1
        simp only [List.getElem?_cons_zero, List.getElem?_cons_succ] at a0 a1 b0 b1 b2 b3
        have af0 := HE0.out.free 0
        have af1 := HE0.out.free 1
        go_wp2_with (go_at_call 16; refine (HS.out _).mono ?_; rintro x ws ⟨rfl, rfl⟩)
        generalize hX3 : World.setCell _ _ _ = w9
        have HC3 := chain2r HE0.out _ _ hX3
        have HR9 := hid (HR2.out.set HC3.2 (Nat.le_refl _))
        clear hX3
        obtain ⟨⟨d0, d1⟩, _⟩ := HC3
        (refine bodyPost_ret (by simp [results, Try.results43, go_sem, d0, d1]; try rfl) rfl ?_)
        exact ⟨rfl, HR9.out.st⟩
      · simp only [if_true, if_neg (show ¬ (1 : Int) = 0 by decide)] at *
        go_enter Try.func43, Try.ntmps43
        go_upto_region 1 with fail
        generalize hX : w.alloc _ = X at *
        clear hX
        go_wp2_with fail
        refine (HW.out _ HR0.out.mem).mono ?_
        rintro x w2 ⟨rfl, hr2⟩
        have HE0 := hid ((HC0.out.but hr2.but (HR0.out.new (Nat.le_refl _))).on (below_one _ (.cells #[.bool qs, .int .i64 qp, .bool true, .bool qx] 41)))
        have HR2 := hid ((HR0.out.step hr2).on (below_one _ (.cells #[.bool qs, .int .i64 qp, .bool true, .bool qx] 41)))
        have HE9 := hid (Cel.new w2 41 [.bool qs, .int .i64 qp, .bool true, .bool qx])
        clear hr2 HC0 HR0 HW
        go_upto_region 2 with fail
        generalize hX2 : World.alloc _ _ = X2 at *
        clear hX2
        generalize w2.heap.size = g9 at *
        have b0 := HE9.out.cell 0
        have b1 := HE9.out.cell 1
        have b2 := HE9.out.cell 2
        have b3 := HE9.out.cell 3
        have a0 := HE0.out.cell 0
        have a1 := HE0.out.cell 1
        simp only [List.getElem?_cons_zero, List.getElem?_cons_succ] at a0 a1 b0 b1 b2 b3
        have af0 := HE0.out.free 0
        have af1 := HE0.out.free 1
        go_wp2_with (go_at_call 16; refine (HS.out _).mono ?_; rintro x ws ⟨rfl, rfl⟩)
        generalize hX3 : World.setCell _ _ _ = w9
        have HC3 := chain2r HE0.out _ _ hX3
        have HR9 := hid (HR2.out.set HC3.2 (Nat.le_refl _))
        clear hX3
        obtain ⟨⟨d0, d1⟩, _⟩ := HC3
        (refine bodyPost_ret (by simp [results, Try.results43, go_sem, d0, d1]; try rfl) rfl ?_)
        exact ⟨rfl, HR9.out.st⟩
    · cases qx
      · simp only [Bool.false_eq_true, if_false, if_true, if_neg (show ¬ (93 : Int) = 0 by decide), if_neg (show ¬ (2 : Int) = 0 by decide), if_neg (show ¬ (2 : Int) = 1 by decide)] at *
        go_enter Try.func43, Try.ntmps43
        go_upto_region 1 with fail
        generalize hX : w.alloc _ = X at *
        clear hX
        go_wp2_with fail
        refine (HW.out _ HR0.out.mem).mono ?_
        rintro x w2 ⟨rfl, hr2⟩
        have HE0 := hid ((HC0.out.but hr2.but (HR0.out.new (Nat.le_refl _))).on (below_one _ (.cells #[.bool qs, .int .i64 qp, .bool qw, .bool false] 41)))
        have HR2 := hid ((HR0.out.step hr2).on (below_one _ (.cells #[.bool qs, .int .i64 qp, .bool qw, .bool false] 41)))
        have HE9 := hid (Cel.new w2 41 [.bool qs, .int .i64 qp, .bool qw, .bool false])
        clear hr2 HC0 HR0 HW
        go_upto_region 2 with fail
        generalize hX2 : World.alloc _ _ = X2 at *
        clear hX2
        generalize w2.heap.size = g9 at *
        have b0 := HE9.out.cell 0
        have b1 := HE9.out.cell 1
        have b2 := HE9.out.cell 2
        have b3 := HE9.out.cell 3
        have a0 := HE0.out.cell 0
        have a1 := HE0.out.cell 1
        simp only [List.getElem?_cons_zero, List.getElem?_cons_succ] at a0 a1 b0 b1 b2 b3
        have af0 := HE0.out.free 0
        have af1 := HE0.out.free 1
        go_wp2_with (go_at_call 16; refine (HS.out _).mono ?_; rintro x ws ⟨rfl, rfl⟩)
        generalize hX3 : World.setCell _ _ _ = w9
        have HC3 := chain2r HE0.out _ _ hX3
        have HR9 := hid (HR2.out.set HC3.2 (Nat.le_refl _))
        clear hX3
        obtain ⟨⟨d0, d1⟩, _⟩ := HC3
        (refine bodyPost_ret (by simp [results, Try.results43, go_sem, d0, d1]; try rfl) rfl ?_)
        exact ⟨rfl, HR9.out.st⟩
      · simp only [if_true, if_neg (show ¬ (2 : Int) = 0 by decide), if_neg (show ¬ (2 : Int) = 1 by decide)] at *
        go_enter Try.func43, Try.ntmps43
        go_upto_region 1 with fail
        generalize hX : w.alloc _ = X at *
        clear hX
        go_wp2_with fail
        refine (HW.out _ HR0.out.mem).mono ?_
        rintro x w2 ⟨rfl, hr2⟩
        have HE0 := hid ((HC0.out.but hr2.but (HR0.out.new (Nat.le_refl _))).on (below_one _ (.cells #[.bool qs, .int .i64 qp, .bool qw, .bool true] 41)))
        have HR2 := hid ((HR0.out.step hr2).on (below_one _ (.cells #[.bool qs, .int .i64 qp, .bool qw, .bool true] 41)))
        have HE9 := hid (Cel.new w2 41 [.bool qs, .int .i64 qp, .bool qw, .bool true])
        clear hr2 HC0 HR0 HW
        go_upto_region 2 with fail
        generalize hX2 : World.alloc _ _ = X2 at *
        clear hX2
        generalize w2.heap.size = g9 at *
        have b0 := HE9.out.cell 0
        have b1 := HE9.out.cell 1
        have b2 := HE9.out.cell 2
        have b3 := HE9.out.cell 3
        have a0 := HE0.out.cell 0
        have a1 := HE0.out.cell 1
        simp only [List.getElem?_cons_zero, List.getElem?_cons_succ] at a0 a1 b0 b1 b2 b3
        have af0 := HE0.out.free 0
        have af1 := HE0.out.free 1
        go_wp2_with (go_at_call 16; refine (HS.out _).mono ?_; rintro x ws ⟨rfl, rfl⟩)
        generalize hX3 : World.setCell _ _ _ = w9
        have HC3 := chain2r HE0.out _ _ hX3
        have HR9 := hid (HR2.out.set HC3.2 (Nat.le_refl _))
        clear hX3
        obtain ⟨⟨d0, d1⟩, _⟩ := HC3
        (refine bodyPost_ret (by simp [results, Try.results43, go_sem, d0, d1]; try rfl) rfl ?_)
        exact ⟨rfl, HR9.out.st⟩
    · simp only [Bool.false_eq_true, if_false, if_true, if_neg (show ¬ (93 : Int) = 0 by decide), if_neg n0, if_neg n1, if_neg n2] at *
      have k0 : (a == 0) = false := by simpa using n0
      have k1 : (a == 1) = false := by simpa using n1
      have k2 : (a == 2) = false := by simpa using n2
      clear n0 n1 n2
      go_enter Try.func43, Try.ntmps43
      go_upto_region 1 with fail
      generalize hX : w.alloc _ = X at *
      clear hX
      go_wp2_with fail
      refine (HW.out _ HR0.out.mem).mono ?_
      rintro x w2 ⟨rfl, hr2⟩
      have HE0 := hid ((HC0.out.but hr2.but (HR0.out.new (Nat.le_refl _))).on (below_one _ (.cells #[.bool qs, .int .i64 qp, .bool qw, .bool qx] 41)))
      have HR2 := hid ((HR0.out.step hr2).on (below_one _ (.cells #[.bool qs, .int .i64 qp, .bool qw, .bool qx] 41)))
      have HE9 := hid (Cel.new w2 41 [.bool qs, .int .i64 qp, .bool qw, .bool qx])
      clear hr2 HC0 HR0 HW
      go_upto_region 2 with fail
      generalize hX2 : World.alloc _ _ = X2 at *
      clear hX2
      generalize w2.heap.size = g9 at *
      have b0 := HE9.out.cell 0
      have b1 := HE9.out.cell 1
      have b2 := HE9.out.cell 2
      have b3 := HE9.out.cell 3
      have a0 := HE0.out.cell 0
      have a1 := HE0.out.cell 1
      simp only [List.getElem?_cons_zero, List.getElem?_cons_succ] at a0 a1 b0 b1 b2 b3
      have af0 := HE0.out.free 0
      have af1 := HE0.out.free 1
      go_wp2_with (go_at_call 16; refine (HS.out _).mono ?_; rintro x ws ⟨rfl, rfl⟩)
      generalize hX3 : World.setCell _ _ _ = w9
      have HC3 := chain2r HE0.out _ _ hX3
      have HR9 := hid (HR2.out.set HC3.2 (Nat.le_refl _))
      clear hX3
      obtain ⟨⟨d0, d1⟩, _⟩ := HC3
      (refine bodyPost_ret (by simp [results, Try.results43, go_sem, d0, d1]; try rfl) rfl ?_)
      exact ⟨rfl, HR9.out.st⟩
  · simp only [if_neg h1]
    have e1' : (e1 != 0) = true := by simpa using h1
    clear ha h1
    go_enter Try.func43, Try.ntmps43
    go_upto_region 1 with fail
    generalize hX : w.alloc _ = X at *
    clear hX
    go_wp2_with fail
    refine (HW.out _ HR0.out.mem).mono ?_
    rintro x w2 ⟨rfl, hr2⟩
    have HE0 := hid ((HC0.out.but hr2.but (HR0.out.new (Nat.le_refl _))).on (below_one _ (.cells #[.bool qs, .int .i64 qp, .bool qw, .bool qx] 41)))
    have HR2 := hid ((HR0.out.step hr2).on (below_one _ (.cells #[.bool qs, .int .i64 qp, .bool qw, .bool qx] 41)))
    have HE9 := hid (Cel.new w2 41 [.bool qs, .int .i64 qp, .bool qw, .bool qx])
    clear hr2 HC0 HR0 HW
    go_upto_region 2 with fail
    generalize hX2 : World.alloc _ _ = X2 at *
    clear hX2
    generalize w2.heap.size = g9 at *
    have b0 := HE9.out.cell 0
    have b1 := HE9.out.cell 1
    have b2 := HE9.out.cell 2
    have b3 := HE9.out.cell 3
    have a0 := HE0.out.cell 0
    have a1 := HE0.out.cell 1
    simp only [List.getElem?_cons_zero, List.getElem?_cons_succ] at a0 a1 b0 b1 b2 b3
    have af0 := HE0.out.free 0
    have af1 := HE0.out.free 1
    go_wp2_with (go_at_call 16; refine (HS.out _).mono ?_; rintro x ws ⟨rfl, rfl⟩)
    generalize hX3 : World.setCell _ _ _ = w9
    have HC3 := chain2r HE0.out _ _ hX3
    have HR9 := hid (HR2.out.set HC3.2 (Nat.le_refl _))
    clear hX3
    obtain ⟨⟨d0, d1⟩, _⟩ := HC3
    (refine bodyPost_ret (by simp [results, Try.results43, go_sem, d0, d1]; try rfl) rfl ?_)
    exact ⟨rfl, HR9.out.st⟩
end Go.Proofs.Ytmmphmdmocfnpaa
