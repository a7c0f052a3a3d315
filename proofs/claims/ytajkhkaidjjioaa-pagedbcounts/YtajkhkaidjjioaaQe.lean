/- The law's within 21, at 29, met 26, kept 28. -/
import Derived.Test.YtajkhkaidjjioaaQd
namespace Go.Proofs.Ytajkhkaidjjioaa
open Go.RowKit
set_option maxHeartbeats 4000000
set_option maxRecDepth 100000
def wi (x lo n : Int) : Int := lo + x % n
theorem wi_range (x lo n : Int) (h : 0 < n) : lo ≤ wi x lo n ∧ wi x lo n < lo + n := by
  unfold wi
  have := Int.emod_nonneg x (show n ≠ 0 by omega)
  have := Int.emod_lt_of_pos x h
  omega
theorem within_any (W : World) (x lo hi : Int) (h0 : 0 ≤ lo) (h1 : lo ≤ hi) (h2 : hi ≤ 1048576) (x0 : -9223372036854775808 ≤ x) (x1 : x ≤ 9223372036854775807) :
    Calls Try.prog 21 #[.int .i64 x, .int .i64 lo, .int .i64 hi] W fun e W' => e = .returned (.int .i64 (wi x lo (hi - lo + 1))) ∧ W' = W := by
  obtain ⟨n, hn⟩ : ∃ n, n = hi - lo + 1 := ⟨_, rfl⟩
  have hn0 : 0 < n := by omega
  have ht : x.tmod n = x % n ∧ 0 ≤ x.tmod n ∨ x.tmod n + n = x % n ∧ x.tmod n < 0 := by
    by_cases hx : 0 ≤ x
    · exact .inl ⟨Int.tmod_eq_emod_of_nonneg hx, by rw [Int.tmod_eq_emod_of_nonneg hx]; exact Int.emod_nonneg _ (by omega)⟩
    · have e1 : (-x).tmod n = (-x) % n := Int.tmod_eq_emod_of_nonneg (by omega)
      rw [Int.neg_tmod] at e1
      by_cases hd : (-x) % n = 0
      · left
        have h4 : x % n = 0 := by
          have : n ∣ -x := Int.dvd_of_emod_eq_zero hd
          exact Int.emod_eq_zero_of_dvd (by have := Int.dvd_neg.1 this; exact this)
        omega
      · right
        have h5 := Int.emod_nonneg (-x) (show n ≠ 0 by omega)
        have h6 := Int.emod_lt_of_pos (-x) hn0
        have h7 : x % n = n - (-x) % n := by
          have e : x = (n - (-x) % n) + n * (-((-x) / n) - 1) := by
            have := Int.mul_ediv_add_emod (-x) n
            have e3 : n * (-((-x) / n) - 1) = - (n * ((-x) / n)) - n := by rw [Int.mul_sub, Int.mul_one, Int.mul_neg]
            rw [e3]
            omega
          rw [e, Int.add_mul_emod_self_left, ← e]
          exact Int.emod_eq_of_lt (by omega) (by omega)
        omega
  have hr := Int.emod_lt_of_pos x hn0
  have hr0 := Int.emod_nonneg x (show n ≠ 0 by omega)
  unfold wi
  rw [← hn]
  rcases ht with ⟨h3, h4⟩ | ⟨h3, h4⟩
  · rw [← h3] at hr hr0 ⊢
    generalize ht : x.tmod n = t at *
    subst hn
    go_enter Try.func21, Try.ntmps21
    go_wp2_with fail
    go_returns
    exact ⟨ret_int (by omega), rfl⟩
  · subst hn
    generalize ht : x.tmod (hi - lo + 1) = t at *
    go_enter Try.func21, Try.ntmps21
    go_wp2_with fail
    go_returns
    exact ⟨ret_int (by omega), rfl⟩
theorem lat_any (W : World) (p : Dp) (d : DS) (h : DB W p d) (q : Int) :
    Calls Try.prog 29 #[ptr p.g, .int .i64 q] W fun e W' => e = .returned (d.ent q).v ∧ Below W.heap.size W W' := by
  have B0 := hid (bag_one W 62 En.zero.cs)
  have HX := hid (h.on (below_one W (.cells En.zero.cs.toArray 62)))
  have HE := hid (fun w (hw : DB w p d) => entry_any w p d hw q)
  clear h
  generalize d.ent q = D at *
  generalize d.entE q = DE at *
  simp only [En.zero, En.cs] at HX B0
  simp only [ptr, En.v] at HE ⊢
  go_enter Try.func29, Try.ntmps29
  go_upto_region 1 with fail
  generalize W.alloc _ = X at *
  generalize hg : W.heap.size = g4 at B0 ⊢
  have HG := hid hg
  clear hg
  go_upto_region 2 with (first | (go_at_call 55; refine (HE.out _ HX.out).mono ?_; rintro x w1 ⟨rfl, hb⟩; have B1 := hid (B0.out.on hb); clear hb) | (refine wpList_store_st rfl 62 _ _ rfl w1.heap.size D.cs rfl rfl (Cel.new w1 62 En.zero.cs) sizeE rfl rfl ?_; intro w3 hc hb hs; have B3 := hid (B1.out.add hc hb); clear hc hb hs))
  generalize w1.heap.size = g5 at *
  go_wp2_with (first | (refine wpList_load_mid rfl 62 _ rfl g5 0 rfl _ _ ((B3.out.get 0 rfl).range) underE rfl (by rw [sizeE]; rfl) ?_) | (refine wpList_store_st rfl 62 _ _ rfl g4 D.cs rfl rfl (B3.out.get 1 rfl) sizeE rfl rfl ?_; intro w4 hc hb hs; have HF := hid (And.intro hc (B3.out.below.trans (hb.below (by have := HG.out; simp; omega) B3.out.below.size))); clear hc hb hs))
  exact ret_st rfl rfl g4 _ rfl HF.out.1 underE rfl (by rw [sizeE]; rfl) ⟨rfl, HF.out.2⟩
theorem met_any (W : World) (o : Oq) (done : Bool) (n : Int) : Calls Try.prog 26 #[o.val, .bool done, .int .i64 n] W fun e W' => e = .returned (.bool (metB o done n)) ∧ Below W.heap.size W W' := by
  have HC := hid (Cel.new W 29 o.cs)
  have HB := hid (below_one W (.cells o.cs.toArray 29))
  unfold metB
  obtain ⟨k, dd, a, b, t, on, off, v⟩ := o
  simp only [Oq.val, Oq.cs] at *
  cases done
  · rw [if_pos rfl]
    go_enter Try.func26, Try.ntmps26
    go_wp2_with fail
    go_ret
    exact ⟨rfl, HB.out⟩
  · rw [if_neg (by decide)]
    by_cases k1 : k = 1
    · subst k1
      rw [if_pos rfl]
      go_enter Try.func26, Try.ntmps26
      go_upto_region 1 with fail
      generalize W.alloc _ = X at *
      have c0 := HC.out.cell 0
      simp only [List.getElem?_cons_zero] at c0
      go_wp2_with fail
      go_ret
      exact ⟨rfl, HB.out⟩
    · rw [if_neg k1]
      by_cases k3 : k = 3
      · subst k3
        rw [if_pos (.inl rfl)]
        go_enter Try.func26, Try.ntmps26
        go_upto_region 1 with fail
        generalize W.alloc _ = X at *
        have c0 := HC.out.cell 0
        simp only [List.getElem?_cons_zero] at c0
        go_wp2_with fail
        go_ret
        exact ⟨rfl, HB.out⟩
      · by_cases k4 : k = 4
        · subst k4
          rw [if_pos (.inr rfl)]
          go_enter Try.func26, Try.ntmps26
          go_upto_region 1 with fail
          generalize W.alloc _ = X at *
          have c0 := HC.out.cell 0
          simp only [List.getElem?_cons_zero] at c0
          go_wp2_with fail
          go_ret
          exact ⟨rfl, HB.out⟩
        · rw [if_neg (by omega)]
          have q1 : (k == 1) = false := by simpa using k1
          have q3 : (k == 3) = false := by simpa using k3
          have q4 : (k == 4) = false := by simpa using k4
          clear k1 k3 k4
          go_enter Try.func26, Try.ntmps26
          go_upto_region 1 with fail
          generalize W.alloc _ = X at *
          have c0 := HC.out.cell 0
          simp only [List.getElem?_cons_zero] at c0
          go_wp2_with fail
          go_ret
          exact ⟨rfl, HB.out⟩
end Go.Proofs.Ytajkhkaidjjioaa
