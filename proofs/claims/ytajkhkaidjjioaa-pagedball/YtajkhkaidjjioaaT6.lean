/- The law's step 37, the kinds that change. -/
import Derived.Test.YtajkhkaidjjioaaT5
import Derived.Test.YtajkhkaidjjioaaS4
namespace Go.Proofs.Ytajkhkaidjjioaa
open Go.RowKit
set_option maxHeartbeats 4000000
set_option maxRecDepth 100000
theorem TP.begin {W : World} {p : Dp} {r : Rp} {d : DS} (h : DB W p d) (h' : RDB W r d) (ha : ∀ k ∈ p.all, k ∉ r.all) (o : Oq) : TP W ((W.alloc (.cells [ptr p.g, ptr r.g].toArray 68)).alloc (.cells o.cs.toArray 29)) p r r d d [(W.heap.size + 1, 29, o.cs), (W.heap.size, 68, [ptr p.g, ptr r.g])] := by
  have h1 := ((TP.start h h' ha).box 68 [ptr p.g, ptr r.g]).box 29 o.cs
  rw [show (W.alloc (.cells [ptr p.g, ptr r.g].toArray 68)).heap.size = W.heap.size + 1 from Array.size_push ..] at h1
  exact h1
theorem step_1 (W : World) (p : Dp) (r : Rp) (d : DS) (h : DB W p d) (h' : RDB W r d) (ha : ∀ k ∈ p.all, k ∉ r.all) (o : Oq) (hk : o.k = 1) :
    Calls Try.prog 37 #[.agg #[ptr p.g, ptr r.g], o.val] W fun x W' => x = .returned (.bool true) ∧ ∃ q, TP W W' p r q (d.takeSpace o.a o.b) (d.takeSpace o.a o.b) [] := by
  have T0 := hid (TP.begin h h' ha o)
  have HR := hid (fun w (hw : RDB w r d) => rtakeSpace_any w r d hw o.a o.b)
  have HA := hid (fun w (hw : DB w p d) => takeSpace_any w p d hw o.a o.b)
  clear h h' ha
  obtain ⟨k, dd, a, b, t, on, off, v⟩ := o
  simp only at hk
  subst hk
  simp only [Oq.val, Oq.cs, ptr] at *
  generalize d.takeSpace a b = d2 at *
  go_enter Try.func37, Try.ntmps37
  go_upto_region 1 with fail
  generalize World.alloc _ _ = X at *
  generalize W.heap.size = g2 at *
  generalize g2 + 1 = g3 at *
  obtain ⟨x0, x1⟩ := T0.out.pair 1 rfl
  obtain ⟨y0, y1, y2, y3, y4, y5, y6, y7⟩ := T0.out.op 0 rfl
  go_wp2_with (first | (go_at_call 70; refine (HR.out _ T0.out.doc).mono ?_; rintro e w1 ⟨rfl, r1, hg⟩; have T1 := hid (T0.out.stepR hg); clear hg T0 x0 x1 y0 y1 y2 y3 y4 y5 y6 y7; obtain ⟨x0, x1⟩ := T1.out.pair 1 rfl; obtain ⟨y0, y1, y2, y3, y4, y5, y6, y7⟩ := T1.out.op 0 rfl) | (go_at_call 18; refine (HA.out _ T1.out.own).mono ?_; rintro e w2 ⟨rfl, hd, hb⟩; have T2 := hid (T1.out.stepA hd hb); clear hd hb T1 x0 x1 y0 y1 y2 y3 y4 y5 y6 y7))
  go_ret
  exact ⟨rfl, _, T2.out.drop⟩
theorem step_2 (W : World) (p : Dp) (r : Rp) (d : DS) (h : DB W p d) (h' : RDB W r d) (ha : ∀ k ∈ p.all, k ∉ r.all) (o : Oq) (hk : o.k = 2) :
    Calls Try.prog 37 #[.agg #[ptr p.g, ptr r.g], o.val] W fun x W' => x = .returned (.bool true) ∧ ∃ q, TP W W' p r q (d.take o.a o.t o.b) (d.take o.a o.t o.b) [] := by
  have T0 := hid (TP.begin h h' ha o)
  have HR := hid (fun w (hw : RDB w r d) => rtake_any w r d hw o.a o.t o.b)
  have HA := hid (fun w (hw : DB w p d) => take_any w p d hw o.a o.t o.b)
  clear h h' ha
  obtain ⟨k, dd, a, b, t, on, off, v⟩ := o
  simp only at hk
  subst hk
  simp only [Oq.val, Oq.cs, ptr] at *
  generalize d.take a t b = d2 at *
  go_enter Try.func37, Try.ntmps37
  go_upto_region 1 with fail
  generalize World.alloc _ _ = X at *
  generalize W.heap.size = g2 at *
  generalize g2 + 1 = g3 at *
  obtain ⟨x0, x1⟩ := T0.out.pair 1 rfl
  obtain ⟨y0, y1, y2, y3, y4, y5, y6, y7⟩ := T0.out.op 0 rfl
  go_wp2_with (first | (go_at_call 71; refine (HR.out _ T0.out.doc).mono ?_; rintro e w1 ⟨rfl, hg⟩; have T1 := hid (T0.out.stepR hg); clear hg T0 x0 x1 y0 y1 y2 y3 y4 y5 y6 y7; obtain ⟨x0, x1⟩ := T1.out.pair 1 rfl; obtain ⟨y0, y1, y2, y3, y4, y5, y6, y7⟩ := T1.out.op 0 rfl) | (go_at_call 19; refine (HA.out _ T1.out.own).mono ?_; rintro e w2 ⟨rfl, hd, hb⟩; have T2 := hid (T1.out.stepA hd hb); clear hd hb T1 x0 x1 y0 y1 y2 y3 y4 y5 y6 y7))
  go_ret
  exact ⟨rfl, _, T2.out.drop⟩
theorem step_3 (W : World) (p : Dp) (r : Rp) (d : DS) (h : DB W p d) (h' : RDB W r d) (ha : ∀ k ∈ p.all, k ∉ r.all) (o : Oq) (hk : o.k = 3) :
    Calls Try.prog 37 #[.agg #[ptr p.g, ptr r.g], o.val] W fun x W' => x = .returned (.bool true) ∧ ∃ q, TP W W' p r q (d.turn o.a o.t) (d.turn o.a o.t) [] := by
  have T0 := hid (TP.begin h h' ha o)
  have HR := hid (fun w (hw : RDB w r d) => rturn_any w r d hw o.a o.t)
  have HA := hid (fun w (hw : DB w p d) => turn_any w p d hw o.a o.t)
  clear h h' ha
  obtain ⟨k, dd, a, b, t, on, off, v⟩ := o
  simp only at hk
  subst hk
  simp only [Oq.val, Oq.cs, ptr] at *
  generalize d.turn a t = d2 at *
  go_enter Try.func37, Try.ntmps37
  go_upto_region 1 with fail
  generalize World.alloc _ _ = X at *
  generalize W.heap.size = g2 at *
  generalize g2 + 1 = g3 at *
  obtain ⟨x0, x1⟩ := T0.out.pair 1 rfl
  obtain ⟨y0, y1, y2, y3, y4, y5, y6, y7⟩ := T0.out.op 0 rfl
  go_wp2_with (first | (go_at_call 72; refine (HR.out _ T0.out.doc).mono ?_; rintro e w1 ⟨rfl, r1, hg⟩; have T1 := hid (T0.out.stepR hg); clear hg T0 x0 x1 y0 y1 y2 y3 y4 y5 y6 y7; obtain ⟨x0, x1⟩ := T1.out.pair 1 rfl; obtain ⟨y0, y1, y2, y3, y4, y5, y6, y7⟩ := T1.out.op 0 rfl) | (go_at_call 42; refine (HA.out _ T1.out.own).mono ?_; rintro e w2 ⟨rfl, hd, hb⟩; have T2 := hid (T1.out.stepA hd hb); clear hd hb T1 x0 x1 y0 y1 y2 y3 y4 y5 y6 y7))
  go_ret
  exact ⟨rfl, _, T2.out.drop⟩
theorem step_4 (W : World) (p : Dp) (r : Rp) (d : DS) (h : DB W p d) (h' : RDB W r d) (ha : ∀ k ∈ p.all, k ∉ r.all) (o : Oq) (hk : o.k = 4) :
    Calls Try.prog 37 #[.agg #[ptr p.g, ptr r.g], o.val] W fun x W' => x = .returned (.bool true) ∧ ∃ q, TP W W' p r q (d.give o.a) (d.give o.a) [] := by
  have T0 := hid (TP.begin h h' ha o)
  have HR := hid (fun w (hw : RDB w r d) => rgive_any w r d hw o.a)
  have HA := hid (fun w (hw : DB w p d) => give_any w p d hw o.a)
  clear h h' ha
  obtain ⟨k, dd, a, b, t, on, off, v⟩ := o
  simp only at hk
  subst hk
  simp only [Oq.val, Oq.cs, ptr] at *
  generalize d.give a = d2 at *
  go_enter Try.func37, Try.ntmps37
  go_upto_region 1 with fail
  generalize World.alloc _ _ = X at *
  generalize W.heap.size = g2 at *
  generalize g2 + 1 = g3 at *
  obtain ⟨x0, x1⟩ := T0.out.pair 1 rfl
  obtain ⟨y0, y1, y2, y3, y4, y5, y6, y7⟩ := T0.out.op 0 rfl
  go_wp2_with (first | (go_at_call 73; refine (HR.out _ T0.out.doc).mono ?_; rintro e w1 ⟨rfl, r1, hg⟩; have T1 := hid (T0.out.stepR hg); clear hg T0 x0 x1 y0 y1 y2 y3 y4 y5 y6 y7; obtain ⟨x0, x1⟩ := T1.out.pair 1 rfl; obtain ⟨y0, y1, y2, y3, y4, y5, y6, y7⟩ := T1.out.op 0 rfl) | (go_at_call 41; refine (HA.out _ T1.out.own).mono ?_; rintro e w2 ⟨rfl, hd, hb⟩; have T2 := hid (T1.out.stepA hd hb); clear hd hb T1 x0 x1 y0 y1 y2 y3 y4 y5 y6 y7))
  go_ret
  exact ⟨rfl, _, T2.out.drop⟩
theorem step_5 (W : World) (p : Dp) (r : Rp) (d : DS) (h : DB W p d) (h' : RDB W r d) (ha : ∀ k ∈ p.all, k ∉ r.all) (o : Oq) (hk : o.k = 5) :
    Calls Try.prog 37 #[.agg #[ptr p.g, ptr r.g], o.val] W fun x W' => x = .returned (.bool true) ∧ ∃ q, TP W W' p r q (d.state o.a o.t) (d.state o.a o.t) [] := by
  have T0 := hid (TP.begin h h' ha o)
  have HR := hid (fun w (hw : RDB w r d) => rsetState_any w r d hw o.a o.t)
  have HA := hid (fun w (hw : DB w p d) => setState_any w p d hw o.a o.t)
  clear h h' ha
  obtain ⟨k, dd, a, b, t, on, off, v⟩ := o
  simp only at hk
  subst hk
  simp only [Oq.val, Oq.cs, ptr] at *
  generalize d.state a t = d2 at *
  go_enter Try.func37, Try.ntmps37
  go_upto_region 1 with fail
  generalize World.alloc _ _ = X at *
  generalize W.heap.size = g2 at *
  generalize g2 + 1 = g3 at *
  obtain ⟨x0, x1⟩ := T0.out.pair 1 rfl
  obtain ⟨y0, y1, y2, y3, y4, y5, y6, y7⟩ := T0.out.op 0 rfl
  go_wp2_with (first | (go_at_call 74; refine (HR.out _ T0.out.doc).mono ?_; rintro e w1 ⟨rfl, hg⟩; have T1 := hid (T0.out.stepR hg); clear hg T0 x0 x1 y0 y1 y2 y3 y4 y5 y6 y7; obtain ⟨x0, x1⟩ := T1.out.pair 1 rfl; obtain ⟨y0, y1, y2, y3, y4, y5, y6, y7⟩ := T1.out.op 0 rfl) | (go_at_call 43; refine (HA.out _ T1.out.own).mono ?_; rintro e w2 ⟨rfl, hd, hb⟩; have T2 := hid (T1.out.stepA hd hb); clear hd hb T1 x0 x1 y0 y1 y2 y3 y4 y5 y6 y7))
  go_ret
  exact ⟨rfl, _, T2.out.drop⟩
theorem step_6 (W : World) (p : Dp) (r : Rp) (d : DS) (h : DB W p d) (h' : RDB W r d) (ha : ∀ k ∈ p.all, k ∉ r.all) (o : Oq) (hk : o.k = 6) :
    Calls Try.prog 37 #[.agg #[ptr p.g, ptr r.g], o.val] W fun x W' => x = .returned (.bool true) ∧ ∃ q, TP W W' p r q (d.entered o.a o.on) (d.entered o.a o.on) [] := by
  have T0 := hid (TP.begin h h' ha o)
  have HR := hid (fun w (hw : RDB w r d) => rsetEntered_any w r d hw o.a o.on)
  have HA := hid (fun w (hw : DB w p d) => setEntered_any w p d hw o.a o.on)
  clear h h' ha
  obtain ⟨k, dd, a, b, t, on, off, v⟩ := o
  simp only at hk
  subst hk
  simp only [Oq.val, Oq.cs, ptr] at *
  generalize d.entered a on = d2 at *
  go_enter Try.func37, Try.ntmps37
  go_upto_region 1 with fail
  generalize World.alloc _ _ = X at *
  generalize W.heap.size = g2 at *
  generalize g2 + 1 = g3 at *
  obtain ⟨x0, x1⟩ := T0.out.pair 1 rfl
  obtain ⟨y0, y1, y2, y3, y4, y5, y6, y7⟩ := T0.out.op 0 rfl
  go_wp2_with (first | (go_at_call 75; refine (HR.out _ T0.out.doc).mono ?_; rintro e w1 ⟨rfl, hg⟩; have T1 := hid (T0.out.stepR hg); clear hg T0 x0 x1 y0 y1 y2 y3 y4 y5 y6 y7; obtain ⟨x0, x1⟩ := T1.out.pair 1 rfl; obtain ⟨y0, y1, y2, y3, y4, y5, y6, y7⟩ := T1.out.op 0 rfl) | (go_at_call 44; refine (HA.out _ T1.out.own).mono ?_; rintro e w2 ⟨rfl, hd, hb⟩; have T2 := hid (T1.out.stepA hd hb); clear hd hb T1 x0 x1 y0 y1 y2 y3 y4 y5 y6 y7))
  go_ret
  exact ⟨rfl, _, T2.out.drop⟩
end Go.Proofs.Ytajkhkaidjjioaa
