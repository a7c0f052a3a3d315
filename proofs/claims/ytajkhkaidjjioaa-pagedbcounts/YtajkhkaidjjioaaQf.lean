/- The law's kept 28. -/
import Derived.Test.YtajkhkaidjjioaaQe
namespace Go.Proofs.Ytajkhkaidjjioaa
open Go.RowKit
set_option maxHeartbeats 4000000
set_option maxRecDepth 100000
theorem Bag.three (W : World) (t u v : TypeId) (cs ds es : List Value) : Bag W (((W.alloc (.cells cs.toArray t)).alloc (.cells ds.toArray u)).alloc (.cells es.toArray v)) [(W.heap.size + 1 + 1, v, es), (W.heap.size + 1, u, ds), (W.heap.size, t, cs)] := by
  have h := (Bag.two W t u cs ds).on (below_one _ (.cells es.toArray v))
  have hn := Cel.new ((W.alloc (.cells cs.toArray t)).alloc (.cells ds.toArray u)) v es
  rw [World.size_alloc, World.size_alloc] at hn
  exact ⟨fun p hp => by
    rcases List.mem_cons.1 hp with rfl | hp
    · exact hn
    · exact h.all p hp, h.below⟩
theorem kept_any (W : World) (x y : En) (p : Int) (o : Oq) (w : Int) (h : (p = o.a ∨ (p = o.b ∧ o.k = 1)) ∨ ∃ r, y = { x with r := r } ∧ (r = x.r ∨ (p = o.b ∧ o.k = 2) ∨ (p = w ∧ o.k = 4))) :
    Calls Try.prog 28 #[x.v, y.v, .int .i64 p, o.val, .int .i64 w] W fun e W' => e = .returned (.bool true) ∧ Below W.heap.size W W' := by
  have B0 := hid (Bag.three W 62 62 29 x.cs y.cs o.cs)
  obtain ⟨k, dd, a, b, t, on, off, v⟩ := o
  simp only [Oq.val] at *
  by_cases h1 : p = a
  · subst h1
    clear h
    simp only [En.v, Oq.cs] at *
    go_enter Try.func28, Try.ntmps28
    go_upto_region 1 with fail
    generalize World.alloc _ _ = X at *
    generalize W.heap.size + 1 + 1 = g8 at *
    generalize W.heap.size + 1 = g6 at *
    generalize hg : W.heap.size = g5 at B0 ⊢
    have HG := hid hg
    clear hg
    have c0 := (B0.out.get 0 rfl).cell 0
    have c2 := (B0.out.get 0 rfl).cell 2
    have c3 := (B0.out.get 0 rfl).cell 3
    simp only [List.getElem?_cons_zero, List.getElem?_cons_succ] at c0 c2 c3
    go_wp2_with fail
    go_ret
    exact ⟨rfl, B0.out.below⟩
  have h1' : (p == a) = false := by simpa using h1
  by_cases h2 : p = b ∧ k = 1
  · obtain ⟨rfl, rfl⟩ := h2
    clear h h1
    simp only [En.v, Oq.cs] at *
    go_enter Try.func28, Try.ntmps28
    go_upto_region 1 with fail
    generalize World.alloc _ _ = X at *
    generalize W.heap.size + 1 + 1 = g8 at *
    generalize W.heap.size + 1 = g6 at *
    generalize hg : W.heap.size = g5 at B0 ⊢
    have HG := hid hg
    clear hg
    have c0 := (B0.out.get 0 rfl).cell 0
    have c2 := (B0.out.get 0 rfl).cell 2
    have c3 := (B0.out.get 0 rfl).cell 3
    simp only [List.getElem?_cons_zero, List.getElem?_cons_succ] at c0 c2 c3
    go_wp2_with fail
    go_ret
    exact ⟨rfl, B0.out.below⟩
  obtain ⟨r, rfl, h3⟩ := h.resolve_left (by rintro (h | h); exact h1 h; exact h2 h)
  obtain ⟨xt, xo, xr, xs, xx⟩ := x
  simp only at h3 B0
  have HSx : Hid (∀ w : World, (Op.equalIn 10000 62 (.agg (En.mk xt xo r xs xx).cs.toArray) (.agg (En.mk xt xo r xs xx).cs.toArray)).run Try.prog w = .ok true w) := hid (fun w => (eqE w 9996 _ _).trans (by rw [En.same_self]))
  by_cases h4 : p = b
  · subst h4
    have k1 : (k == 1) = false := by simp only [true_and] at h2; simpa using h2
    by_cases h5 : k = 2
    · subst h5
      clear h h1 h2 h3
      have HNN : Hid (W.heap.size + 1 ≠ W.heap.size) := hid (by omega)
      simp only [En.v, Oq.cs] at *
      go_enter Try.func28, Try.ntmps28
      go_upto_region 1 with fail
      generalize World.alloc _ _ = X at *
      generalize W.heap.size + 1 + 1 = g8 at *
      generalize W.heap.size + 1 = g6 at *
      generalize hg : W.heap.size = g5 at B0 ⊢
      have HG := hid hg
      clear hg
      have c0 := (B0.out.get 0 rfl).cell 0
      have c2 := (B0.out.get 0 rfl).cell 2
      have c3 := (B0.out.get 0 rfl).cell 3
      simp only [List.getElem?_cons_zero, List.getElem?_cons_succ] at c0 c2 c3
      have y2 := (B0.out.get 1 rfl).cell 2
      have x2 := (B0.out.get 2 rfl).cell 2
      have f2 := (B0.out.get 2 rfl).free 2
      simp only [En.cs, List.getElem?_cons_zero, List.getElem?_cons_succ] at y2 x2
      have H5 := hid ((B0.out.get 2 rfl).setCell 2 (.int .i64 r))
      have H6 : Hid (Cel (X.setCell ⟨g5, 2, none⟩ (.int .i64 r)) g6 62 (En.mk xt xo r xs xx).cs) := hid ((B0.out.get 1 rfl).but (.setCell (G := [g5]) _ _ _ _ (by simp)) (by have := HNN.out; have := HG.out; simp; omega))
      have HBB := hid (B0.out.below.trans ((ButL.setCell (G := [g5]) X g5 2 (.int .i64 r) (by simp)).below (by have := HG.out; simp; omega) B0.out.below.size))
      simp only [En.cs, List.set_cons_zero, List.set_cons_succ] at H5
      go_upto_region 5 with fail
      generalize X.setCell _ _ = Y at *
      go_wp2_with (first | (refine wpList_load_mid rfl 62 _ rfl g5 0 rfl _ _ H5.out.range underE rfl (by rw [sizeE]; rfl) ?_) | (refine wpList_load_mid rfl 62 _ rfl g6 0 rfl _ _ H6.out.range underE rfl (by rw [sizeE]; rfl) ?_) | (refine wpList_eq rfl 62 _ _ rfl _ _ rfl rfl guardE true (HSx.out _) ?_))
      go_ret
      exact ⟨rfl, HBB.out⟩
    · have k2 : (k == 2) = false := by simpa using h5
      by_cases h6 : p = w
      · subst h6
        by_cases h7 : k = 4
        · subst h7
          clear h h1 h2 h3
          have HNN : Hid (W.heap.size + 1 ≠ W.heap.size) := hid (by omega)
          simp only [En.v, Oq.cs] at *
          go_enter Try.func28, Try.ntmps28
          go_upto_region 1 with fail
          generalize World.alloc _ _ = X at *
          generalize W.heap.size + 1 + 1 = g8 at *
          generalize W.heap.size + 1 = g6 at *
          generalize hg : W.heap.size = g5 at B0 ⊢
          have HG := hid hg
          clear hg
          have c0 := (B0.out.get 0 rfl).cell 0
          have c2 := (B0.out.get 0 rfl).cell 2
          have c3 := (B0.out.get 0 rfl).cell 3
          simp only [List.getElem?_cons_zero, List.getElem?_cons_succ] at c0 c2 c3
          have y2 := (B0.out.get 1 rfl).cell 2
          have x2 := (B0.out.get 2 rfl).cell 2
          have f2 := (B0.out.get 2 rfl).free 2
          simp only [En.cs, List.getElem?_cons_zero, List.getElem?_cons_succ] at y2 x2
          have H5 := hid ((B0.out.get 2 rfl).setCell 2 (.int .i64 r))
          have H6 : Hid (Cel (X.setCell ⟨g5, 2, none⟩ (.int .i64 r)) g6 62 (En.mk xt xo r xs xx).cs) := hid ((B0.out.get 1 rfl).but (.setCell (G := [g5]) _ _ _ _ (by simp)) (by have := HNN.out; have := HG.out; simp; omega))
          have HBB := hid (B0.out.below.trans ((ButL.setCell (G := [g5]) X g5 2 (.int .i64 r) (by simp)).below (by have := HG.out; simp; omega) B0.out.below.size))
          simp only [En.cs, List.set_cons_zero, List.set_cons_succ] at H5
          go_upto_region 5 with fail
          generalize X.setCell _ _ = Y at *
          go_wp2_with (first | (refine wpList_load_mid rfl 62 _ rfl g5 0 rfl _ _ H5.out.range underE rfl (by rw [sizeE]; rfl) ?_) | (refine wpList_load_mid rfl 62 _ rfl g6 0 rfl _ _ H6.out.range underE rfl (by rw [sizeE]; rfl) ?_) | (refine wpList_eq rfl 62 _ _ rfl _ _ rfl rfl guardE true (HSx.out _) ?_))
          go_ret
          exact ⟨rfl, HBB.out⟩
        · have k4 : (k == 4) = false := by simpa using h7
          have hr : r = xr := by clear h; omega
          subst hr
          clear h h1 h2 h3 h5 h7
          simp only [En.v, Oq.cs] at *
          go_enter Try.func28, Try.ntmps28
          go_upto_region 1 with fail
          generalize World.alloc _ _ = X at *
          generalize W.heap.size + 1 + 1 = g8 at *
          generalize W.heap.size + 1 = g6 at *
          generalize hg : W.heap.size = g5 at B0 ⊢
          have HG := hid hg
          clear hg
          have c0 := (B0.out.get 0 rfl).cell 0
          have c2 := (B0.out.get 0 rfl).cell 2
          have c3 := (B0.out.get 0 rfl).cell 3
          simp only [List.getElem?_cons_zero, List.getElem?_cons_succ] at c0 c2 c3
          go_wp2_with (first | (refine wpList_load_mid rfl 62 _ rfl g5 0 rfl _ _ ((B0.out.get 2 rfl).range) underE rfl (by rw [sizeE]; rfl) ?_) | (refine wpList_load_mid rfl 62 _ rfl g6 0 rfl _ _ ((B0.out.get 1 rfl).range) underE rfl (by rw [sizeE]; rfl) ?_) | (refine wpList_eq rfl 62 _ _ rfl _ _ rfl rfl guardE true (HSx.out _) ?_))
          go_ret
          exact ⟨rfl, B0.out.below⟩
      · have h6' : (p == w) = false := by simpa using h6
        have hr : r = xr := by clear h; omega
        subst hr
        clear h h1 h2 h3 h5 h6
        simp only [En.v, Oq.cs] at *
        go_enter Try.func28, Try.ntmps28
        go_upto_region 1 with fail
        generalize World.alloc _ _ = X at *
        generalize W.heap.size + 1 + 1 = g8 at *
        generalize W.heap.size + 1 = g6 at *
        generalize hg : W.heap.size = g5 at B0 ⊢
        have HG := hid hg
        clear hg
        have c0 := (B0.out.get 0 rfl).cell 0
        have c2 := (B0.out.get 0 rfl).cell 2
        have c3 := (B0.out.get 0 rfl).cell 3
        simp only [List.getElem?_cons_zero, List.getElem?_cons_succ] at c0 c2 c3
        go_wp2_with (first | (refine wpList_load_mid rfl 62 _ rfl g5 0 rfl _ _ ((B0.out.get 2 rfl).range) underE rfl (by rw [sizeE]; rfl) ?_) | (refine wpList_load_mid rfl 62 _ rfl g6 0 rfl _ _ ((B0.out.get 1 rfl).range) underE rfl (by rw [sizeE]; rfl) ?_) | (refine wpList_eq rfl 62 _ _ rfl _ _ rfl rfl guardE true (HSx.out _) ?_))
        go_ret
        exact ⟨rfl, B0.out.below⟩
  · have h4' : (p == b) = false := by simpa using h4
    by_cases h6 : p = w
    · subst h6
      by_cases h7 : k = 4
      · subst h7
        clear h h1 h2 h3 h4
        have HNN : Hid (W.heap.size + 1 ≠ W.heap.size) := hid (by omega)
        simp only [En.v, Oq.cs] at *
        go_enter Try.func28, Try.ntmps28
        go_upto_region 1 with fail
        generalize World.alloc _ _ = X at *
        generalize W.heap.size + 1 + 1 = g8 at *
        generalize W.heap.size + 1 = g6 at *
        generalize hg : W.heap.size = g5 at B0 ⊢
        have HG := hid hg
        clear hg
        have c0 := (B0.out.get 0 rfl).cell 0
        have c2 := (B0.out.get 0 rfl).cell 2
        have c3 := (B0.out.get 0 rfl).cell 3
        simp only [List.getElem?_cons_zero, List.getElem?_cons_succ] at c0 c2 c3
        have y2 := (B0.out.get 1 rfl).cell 2
        have x2 := (B0.out.get 2 rfl).cell 2
        have f2 := (B0.out.get 2 rfl).free 2
        simp only [En.cs, List.getElem?_cons_zero, List.getElem?_cons_succ] at y2 x2
        have H5 := hid ((B0.out.get 2 rfl).setCell 2 (.int .i64 r))
        have H6 : Hid (Cel (X.setCell ⟨g5, 2, none⟩ (.int .i64 r)) g6 62 (En.mk xt xo r xs xx).cs) := hid ((B0.out.get 1 rfl).but (.setCell (G := [g5]) _ _ _ _ (by simp)) (by have := HNN.out; have := HG.out; simp; omega))
        have HBB := hid (B0.out.below.trans ((ButL.setCell (G := [g5]) X g5 2 (.int .i64 r) (by simp)).below (by have := HG.out; simp; omega) B0.out.below.size))
        simp only [En.cs, List.set_cons_zero, List.set_cons_succ] at H5
        go_upto_region 5 with fail
        generalize X.setCell _ _ = Y at *
        go_wp2_with (first | (refine wpList_load_mid rfl 62 _ rfl g5 0 rfl _ _ H5.out.range underE rfl (by rw [sizeE]; rfl) ?_) | (refine wpList_load_mid rfl 62 _ rfl g6 0 rfl _ _ H6.out.range underE rfl (by rw [sizeE]; rfl) ?_) | (refine wpList_eq rfl 62 _ _ rfl _ _ rfl rfl guardE true (HSx.out _) ?_))
        go_ret
        exact ⟨rfl, HBB.out⟩
      · have k4 : (k == 4) = false := by simpa using h7
        have hr : r = xr := by clear h; omega
        subst hr
        clear h h1 h2 h3 h4 h7
        simp only [En.v, Oq.cs] at *
        go_enter Try.func28, Try.ntmps28
        go_upto_region 1 with fail
        generalize World.alloc _ _ = X at *
        generalize W.heap.size + 1 + 1 = g8 at *
        generalize W.heap.size + 1 = g6 at *
        generalize hg : W.heap.size = g5 at B0 ⊢
        have HG := hid hg
        clear hg
        have c0 := (B0.out.get 0 rfl).cell 0
        have c2 := (B0.out.get 0 rfl).cell 2
        have c3 := (B0.out.get 0 rfl).cell 3
        simp only [List.getElem?_cons_zero, List.getElem?_cons_succ] at c0 c2 c3
        go_wp2_with (first | (refine wpList_load_mid rfl 62 _ rfl g5 0 rfl _ _ ((B0.out.get 2 rfl).range) underE rfl (by rw [sizeE]; rfl) ?_) | (refine wpList_load_mid rfl 62 _ rfl g6 0 rfl _ _ ((B0.out.get 1 rfl).range) underE rfl (by rw [sizeE]; rfl) ?_) | (refine wpList_eq rfl 62 _ _ rfl _ _ rfl rfl guardE true (HSx.out _) ?_))
        go_ret
        exact ⟨rfl, B0.out.below⟩
    · have h6' : (p == w) = false := by simpa using h6
      have hr : r = xr := by clear h; omega
      subst hr
      clear h h1 h2 h3 h4 h6
      simp only [En.v, Oq.cs] at *
      go_enter Try.func28, Try.ntmps28
      go_upto_region 1 with fail
      generalize World.alloc _ _ = X at *
      generalize W.heap.size + 1 + 1 = g8 at *
      generalize W.heap.size + 1 = g6 at *
      generalize hg : W.heap.size = g5 at B0 ⊢
      have HG := hid hg
      clear hg
      have c0 := (B0.out.get 0 rfl).cell 0
      have c2 := (B0.out.get 0 rfl).cell 2
      have c3 := (B0.out.get 0 rfl).cell 3
      simp only [List.getElem?_cons_zero, List.getElem?_cons_succ] at c0 c2 c3
      go_wp2_with (first | (refine wpList_load_mid rfl 62 _ rfl g5 0 rfl _ _ ((B0.out.get 2 rfl).range) underE rfl (by rw [sizeE]; rfl) ?_) | (refine wpList_load_mid rfl 62 _ rfl g6 0 rfl _ _ ((B0.out.get 1 rfl).range) underE rfl (by rw [sizeE]; rfl) ?_) | (refine wpList_eq rfl 62 _ _ rfl _ _ rfl rfl guardE true (HSx.out _) ?_))
      go_ret
      exact ⟨rfl, B0.out.below⟩
end Go.Proofs.Ytajkhkaidjjioaa
