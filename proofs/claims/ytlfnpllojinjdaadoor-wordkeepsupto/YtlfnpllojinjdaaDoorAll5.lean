import Derived.Test.YtlfnpllojinjdaaDoorAll2
import Derived.Test.YtlfnpllojinjdaaDoorAll4
namespace Go.Proofs.YtlfnpllojinjdaaDoor
open Go.RowKit

theorem OpV.Ok.below {W w : World} {o : OpV} (h : o.Ok W) (hb : Below W.heap.size W w) : o.Ok w :=
  { h with la := h.la.below hb, pa := h.pa.below hb, ba := h.ba.below hb }
theorem texts_any (W : World) (hT : Tab W) (h0 : 0 < W.heap.size) (o : OpV) (ok : o.Ok W) (k : Int) (k1 : 1 ≤ k) (k2 : k ≤ 6) :
    Calls Tryd.prog 43 #[.agg (o.cells k)] W fun e W' => e = .returned (.bool true) ∧ Below W.heap.size W W' := by
  rcases (show k = 1 ∨ k = 2 ∨ k = 3 ∨ k = 4 ∨ k = 5 ∨ k = 6 by omega) with rfl | rfl | rfl | rfl | rfl | rfl
  · exact texts1 W hT h0 o ok
  · exact texts2 W hT h0 o ok
  · exact texts3 W hT h0 o ok
  · exact texts4 W hT h0 o ok
  · exact texts5 W hT h0 o ok
  · exact texts6 W hT h0 o ok
theorem sums_kinds (W : World) (hT : Tab W) (h0 : 0 < W.heap.size) (o : OpV) (ok : o.Ok W) (k : Int) (k1 : 7 ≤ k) (k2 : k ≤ 15) :
    Calls Tryd.prog 44 #[.agg (o.cells k)] W fun e W' => e = .returned (.bool true) ∧ Below W.heap.size W W' := by
  rcases (show k = 7 ∨ k = 8 ∨ k = 9 ∨ k = 10 ∨ k = 11 ∨ k = 12 ∨ k = 13 ∨ k = 14 ∨ k = 15 by omega) with rfl | rfl | rfl | rfl | rfl | rfl | rfl | rfl | rfl
  · exact sums7 W hT h0 o ok
  · exact sums8 W hT h0 o ok
  · exact sums9 W hT h0 o ok
  · exact sums10 W hT h0 o ok
  · exact sums11 W hT h0 o ok
  · exact sums12 W hT h0 o ok
  · exact sums13 W hT h0 o ok
  · exact sums14 W hT h0 o ok
  · exact sums15 W hT h0 o ok
set_option maxRecDepth 100000 in
set_option maxHeartbeats 1000000 in
theorem plays_any (W : World) (hT : Tab W) (h0 : 0 < W.heap.size) (o : OpV) (ok : o.Ok W) (k : Int) :
    Calls Tryd.prog 33 #[.agg (o.cells k)] W fun e W' => e = .returned (.bool true) ∧ Below W.heap.size W W' := by
  have HB : Hid (∀ x, Below W.heap.size W (W.alloc x)) := fun x => below_one W x
  have HT : Hid (∀ x, Tab (W.alloc x)) := fun x => hT.alloc h0 x
  have HO : Hid (∀ x, o.Ok (W.alloc x)) := fun x => ok.below (below_one W x)
  have HX : Hid (∀ x, 1 ≤ k → k ≤ 6 → Calls Tryd.prog 43 #[.agg (o.cells k)] (W.alloc x) fun e W' => e = .returned (.bool true) ∧ Below W.heap.size W W') := fun x g1 g2 =>
    (texts_any _ (HT.out x) (by simp) o (HO.out x) k g1 g2).mono fun e w' h => ⟨h.1, after_box h.2⟩
  have HS : Hid (∀ x, 7 ≤ k → k ≤ 15 → Calls Tryd.prog 44 #[.agg (o.cells k)] (W.alloc x) fun e W' => e = .returned (.bool true) ∧ Below W.heap.size W W') := fun x g1 g2 =>
    (sums_kinds _ (HT.out x) (by simp) o (HO.out x) k g1 g2).mono fun e w' h => ⟨h.1, after_box h.2⟩
  clear HT HO ok hT h0
  obtain ⟨a, b, c, d, n, m, lao, ln, lc, lx, pao, pn, pc, px, bao, bn, bc, bx, s⟩ := o
  simp only [OpV.cells] at *
  rcases (show k < 1 ∨ (1 ≤ k ∧ k ≤ 6) ∨ (7 ≤ k ∧ k ≤ 15) ∨ 15 < k by omega) with g | ⟨g1, g2⟩ | ⟨g1, g2⟩ | g
  · have g2 : k < 7 := by omega
    go_enter Tryd.func33, Tryd.ntmps33
    go_wp2
    go_ret
    exact ⟨rfl, HB.out _⟩
  · go_enter Tryd.func33, Tryd.ntmps33
    go_wp2_with (first | (go_at_call 43; refine (HX.out _ g1 g2).mono ?_; rintro e w1 ⟨rfl, hb⟩))
    go_ret
    exact ⟨rfl, hb⟩
  · go_enter Tryd.func33, Tryd.ntmps33
    go_wp2_with (first | (go_at_call 44; refine (HS.out _ g1 g2).mono ?_; rintro e w1 ⟨rfl, hb⟩))
    go_ret
    exact ⟨rfl, hb⟩
  · go_enter Tryd.func33, Tryd.ntmps33
    go_wp2
    go_ret
    exact ⟨rfl, HB.out _⟩
end Go.Proofs.YtlfnpllojinjdaaDoor
