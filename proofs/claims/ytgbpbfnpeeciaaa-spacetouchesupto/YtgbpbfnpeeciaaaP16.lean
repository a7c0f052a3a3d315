import Derived.Test.YtgbpbfnpeeciaaaP15
namespace Go.Proofs.Ytgbpbfnpeeciaaa
open Go.RowKit
set_option maxHeartbeats 4000000
set_option maxRecDepth 100000
theorem below_any (W : World) (n : Int) : Calls Try.prog 106 #[.int .i64 n] W fun e W' => e = .returned (.bool (blw n)) ∧ W = W' := by
  unfold blw
  by_cases h0 : 0 ≤ n
  · by_cases h1 : n < 64
    · have hd : decide (0 ≤ n ∧ n < 64) = true := decide_eq_true ⟨h0, h1⟩
      rw [hd]
      go_enter Try.func106, Try.ntmps106
      go_wp2
      go_ret
      exact ⟨rfl, rfl⟩
    · have hd : decide (0 ≤ n ∧ n < 64) = false := decide_eq_false (by omega)
      rw [hd]
      go_enter Try.func106, Try.ntmps106
      go_wp2
      go_ret
      exact ⟨rfl, rfl⟩
  · have hd : decide (0 ≤ n ∧ n < 64) = false := decide_eq_false (by omega)
    rw [hd]
    go_enter Try.func106, Try.ntmps106
    go_wp2
    go_ret
    exact ⟨rfl, rfl⟩
theorem fits_any (W : World) (s t : Int) : Calls Try.prog 107 #[.int .i64 s, .int .i64 t] W fun e W' => e = .returned (.bool (fit s t)) ∧ W = W' := by
  unfold fit
  by_cases ht : t = 1
  · subst ht
    rw [if_pos rfl]
    by_cases h0 : 0 < s
    · by_cases h1 : s < 4
      · have hd : decide (0 < s ∧ s < 4) = true := decide_eq_true ⟨h0, h1⟩
        rw [hd]
        go_enter Try.func107, Try.ntmps107
        go_wp2
        go_ret
        exact ⟨rfl, rfl⟩
      · have hd : decide (0 < s ∧ s < 4) = false := decide_eq_false (by omega)
        rw [hd]
        go_enter Try.func107, Try.ntmps107
        go_wp2
        go_ret
        exact ⟨rfl, rfl⟩
    · have hd : decide (0 < s ∧ s < 4) = false := decide_eq_false (by omega)
      rw [hd]
      go_enter Try.func107, Try.ntmps107
      go_wp2
      go_ret
      exact ⟨rfl, rfl⟩
  · rw [if_neg ht]
    have h' : (t == 1) = false := by simpa using ht
    clear ht
    go_enter Try.func107, Try.ntmps107
    go_wp2
    go_ret
    exact ⟨rfl, rfl⟩
structure Bx (W x : World) (g h : Nat) (t u : TypeId) (cs ds : List Value) : Prop where
  a : Cel x g t cs
  b : Cel x h u ds
  below : Below W.heap.size W x
  lh : W.heap.size ≤ h
theorem Bx.new (W : World) (t u : TypeId) (cs ds : List Value) : Bx W ((W.alloc (.cells cs.toArray t)).alloc (.cells ds.toArray u)) W.heap.size (W.heap.size + 1) t u cs ds := by
  have h := Cel.new (W.alloc (.cells cs.toArray t)) u ds
  rw [World.size_alloc] at h
  exact ⟨(Cel.new W t cs).on (below_one _ _), h, below_on (below_one _ _) (below_one _ _), by omega⟩
theorem Bx.on {W x x' : World} {g h : Nat} {t u : TypeId} {cs ds : List Value} (k : Bx W x g h t u cs ds) (hb : Below x.heap.size x x') : Bx W x' g h t u cs ds := ⟨k.a.on hb, k.b.on hb, below_on k.below hb, k.lh⟩
theorem Bx.put {W x x' : World} {g h : Nat} {t u : TypeId} {cs ds es : List Value} (k : Bx W x g h t u cs ds) (hc : Cel x' h u es) (hb : ButL [h] x x') : Cel x' h u es ∧ Below W.heap.size W x' :=
  ⟨hc, k.below.trans (hb.below (B := W.heap.size) (by simpa using k.lh) k.below.size)⟩
theorem used_any (W : World) (x : En) : Calls Try.prog 105 #[x.v] W fun e W' => e = .returned x.used.v ∧ Below W.heap.size W W' := by
  have HX := hid (Bx.new W 136 136 x.cs En.zero.cs)
  obtain ⟨t, o, r, s, e⟩ := x
  generalize hu : En.used ⟨t, o, r, s, e⟩ = u
  simp only [En.v, En.cs, En.zero] at HX ⊢
  unfold En.used at hu
  simp only [En.zero] at hu
  by_cases h1 : t = 1
  · subst h1
    rw [if_pos rfl] at hu
    subst hu
    go_enter Try.func105, Try.ntmps105
    go_upto_region 1 with fail
    generalize hX : (W.alloc _).alloc _ = X at *
    clear hX
    generalize W.heap.size + 1 = g2 at *
    generalize W.heap.size = g1 at *
    have c0 := HX.out.a.cell 0
    have c1 := HX.out.a.cell 1
    have c2 := HX.out.a.cell 2
    have c3 := HX.out.a.cell 3
    have c4 := HX.out.a.cell 4
    simp only [List.getElem?_cons_zero, List.getElem?_cons_succ] at c0 c1 c2 c3 c4
    go_wp2_with (refine wpList_store_st rfl 136 _ _ rfl g2 [.int .i64 1, .int .i64 o, .int .i64 r, .int .i64 s, .bool false] rfl rfl HX.out.b sizeE rfl rfl ?_; intro w2 hc2 hb2 hs2; have HF := hid (HX.out.put hc2 hb2); clear hc2 hb2 hs2)
    exact ret_st rfl rfl g2 _ rfl HF.out.1 underE rfl (by rw [sizeE]; rfl) ⟨rfl, HF.out.2⟩
  rw [if_neg h1] at hu
  by_cases h2 : t = 2
  · subst h2
    rw [if_pos rfl] at hu
    subst hu
    clear h1
    go_enter Try.func105, Try.ntmps105
    go_upto_region 1 with fail
    generalize hX : (W.alloc _).alloc _ = X at *
    clear hX
    generalize W.heap.size + 1 = g2 at *
    generalize W.heap.size = g1 at *
    have c0 := HX.out.a.cell 0
    have c1 := HX.out.a.cell 1
    have c2 := HX.out.a.cell 2
    have c3 := HX.out.a.cell 3
    have c4 := HX.out.a.cell 4
    simp only [List.getElem?_cons_zero, List.getElem?_cons_succ] at c0 c1 c2 c3 c4
    go_wp2_with (refine wpList_store_st rfl 136 _ _ rfl g2 [.int .i64 2, .int .i64 o, .int .i64 0, .int .i64 0, .bool e] rfl rfl HX.out.b sizeE rfl rfl ?_; intro w2 hc2 hb2 hs2; have HF := hid (HX.out.put hc2 hb2); clear hc2 hb2 hs2)
    exact ret_st rfl rfl g2 _ rfl HF.out.1 underE rfl (by rw [sizeE]; rfl) ⟨rfl, HF.out.2⟩
  rw [if_neg h2] at hu
  by_cases h3 : t = 3
  · subst h3
    rw [if_pos (by decide)] at hu
    subst hu
    clear h1 h2
    go_enter Try.func105, Try.ntmps105
    go_upto_region 1 with fail
    generalize hX : (W.alloc _).alloc _ = X at *
    clear hX
    generalize W.heap.size + 1 = g2 at *
    generalize W.heap.size = g1 at *
    have c0 := HX.out.a.cell 0
    have c1 := HX.out.a.cell 1
    have c2 := HX.out.a.cell 2
    have c3 := HX.out.a.cell 3
    have c4 := HX.out.a.cell 4
    simp only [List.getElem?_cons_zero, List.getElem?_cons_succ] at c0 c1 c2 c3 c4
    go_wp2_with (refine wpList_store_st rfl 136 _ _ rfl g2 [.int .i64 3, .int .i64 o, .int .i64 0, .int .i64 0, .bool false] rfl rfl HX.out.b sizeE rfl rfl ?_; intro w2 hc2 hb2 hs2; have HF := hid (HX.out.put hc2 hb2); clear hc2 hb2 hs2)
    exact ret_st rfl rfl g2 _ rfl HF.out.1 underE rfl (by rw [sizeE]; rfl) ⟨rfl, HF.out.2⟩
  by_cases h4 : t = 4
  · subst h4
    rw [if_pos (by decide)] at hu
    subst hu
    clear h1 h2 h3
    go_enter Try.func105, Try.ntmps105
    go_upto_region 1 with fail
    generalize hX : (W.alloc _).alloc _ = X at *
    clear hX
    generalize W.heap.size + 1 = g2 at *
    generalize W.heap.size = g1 at *
    have c0 := HX.out.a.cell 0
    have c1 := HX.out.a.cell 1
    have c2 := HX.out.a.cell 2
    have c3 := HX.out.a.cell 3
    have c4 := HX.out.a.cell 4
    simp only [List.getElem?_cons_zero, List.getElem?_cons_succ] at c0 c1 c2 c3 c4
    go_wp2_with (refine wpList_store_st rfl 136 _ _ rfl g2 [.int .i64 4, .int .i64 o, .int .i64 0, .int .i64 0, .bool false] rfl rfl HX.out.b sizeE rfl rfl ?_; intro w2 hc2 hb2 hs2; have HF := hid (HX.out.put hc2 hb2); clear hc2 hb2 hs2)
    exact ret_st rfl rfl g2 _ rfl HF.out.1 underE rfl (by rw [sizeE]; rfl) ⟨rfl, HF.out.2⟩
  by_cases h5 : t = 5
  · subst h5
    rw [if_pos (by decide)] at hu
    subst hu
    clear h1 h2 h3 h4
    go_enter Try.func105, Try.ntmps105
    go_upto_region 1 with fail
    generalize hX : (W.alloc _).alloc _ = X at *
    clear hX
    generalize W.heap.size + 1 = g2 at *
    generalize W.heap.size = g1 at *
    have c0 := HX.out.a.cell 0
    have c1 := HX.out.a.cell 1
    have c2 := HX.out.a.cell 2
    have c3 := HX.out.a.cell 3
    have c4 := HX.out.a.cell 4
    simp only [List.getElem?_cons_zero, List.getElem?_cons_succ] at c0 c1 c2 c3 c4
    go_wp2_with (refine wpList_store_st rfl 136 _ _ rfl g2 [.int .i64 5, .int .i64 o, .int .i64 0, .int .i64 0, .bool false] rfl rfl HX.out.b sizeE rfl rfl ?_; intro w2 hc2 hb2 hs2; have HF := hid (HX.out.put hc2 hb2); clear hc2 hb2 hs2)
    exact ret_st rfl rfl g2 _ rfl HF.out.1 underE rfl (by rw [sizeE]; rfl) ⟨rfl, HF.out.2⟩
  by_cases h6 : t = 6
  · subst h6
    rw [if_pos (by decide)] at hu
    subst hu
    clear h1 h2 h3 h4 h5
    go_enter Try.func105, Try.ntmps105
    go_upto_region 1 with fail
    generalize hX : (W.alloc _).alloc _ = X at *
    clear hX
    generalize W.heap.size + 1 = g2 at *
    generalize W.heap.size = g1 at *
    have c0 := HX.out.a.cell 0
    have c1 := HX.out.a.cell 1
    have c2 := HX.out.a.cell 2
    have c3 := HX.out.a.cell 3
    have c4 := HX.out.a.cell 4
    simp only [List.getElem?_cons_zero, List.getElem?_cons_succ] at c0 c1 c2 c3 c4
    go_wp2_with (refine wpList_store_st rfl 136 _ _ rfl g2 [.int .i64 6, .int .i64 o, .int .i64 0, .int .i64 0, .bool false] rfl rfl HX.out.b sizeE rfl rfl ?_; intro w2 hc2 hb2 hs2; have HF := hid (HX.out.put hc2 hb2); clear hc2 hb2 hs2)
    exact ret_st rfl rfl g2 _ rfl HF.out.1 underE rfl (by rw [sizeE]; rfl) ⟨rfl, HF.out.2⟩
  · rw [if_neg (by omega)] at hu
    subst hu
    have q1 : (t == 1) = false := by simpa using h1
    have q2 : (t == 2) = false := by simpa using h2
    have q3 : (t == 3) = false := by simpa using h3
    have q4 : (t == 4) = false := by simpa using h4
    have q5 : (t == 5) = false := by simpa using h5
    have q6 : (t == 6) = false := by simpa using h6
    clear h1 h2 h3 h4 h5 h6
    go_enter Try.func105, Try.ntmps105
    go_upto_region 1 with fail
    generalize hX : (W.alloc _).alloc _ = X at *
    clear hX
    generalize W.heap.size + 1 = g2 at *
    generalize W.heap.size = g1 at *
    have c0 := HX.out.a.cell 0
    have c1 := HX.out.a.cell 1
    have c2 := HX.out.a.cell 2
    have c3 := HX.out.a.cell 3
    have c4 := HX.out.a.cell 4
    simp only [List.getElem?_cons_zero, List.getElem?_cons_succ] at c0 c1 c2 c3 c4
    go_wp2_with (refine wpList_store_st rfl 136 _ _ rfl g2 [.int .i64 0, .int .i64 0, .int .i64 0, .int .i64 0, .bool false] rfl rfl HX.out.b sizeE rfl rfl ?_; intro w2 hc2 hb2 hs2; have HF := hid (HX.out.put hc2 hb2); clear hc2 hb2 hs2)
    exact ret_st rfl rfl g2 _ rfl HF.out.1 underE rfl (by rw [sizeE]; rfl) ⟨rfl, HF.out.2⟩
end Go.Proofs.Ytgbpbfnpeeciaaa
