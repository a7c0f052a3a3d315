import Derived.Test.YtgbpbfnpeeciaaaGreatP09
namespace Go.Proofs.YtgbpbfnpeeciaaaGreat
open Go.RowKit
set_option maxHeartbeats 8000000
set_option maxRecDepth 100000
theorem chk_nok {x : En} (h : ¬ x.Ok) : chk x = 110 := by
  unfold chk
  rw [if_neg (fun hk => h (x.ok_iff.1 hk))]
theorem chk_ok {x : En} (h : x.Ok) : chk x = 0 := chk_yes (x.ok_iff.2 h)
theorem rcheck_any (W : World) (x : En) : Calls Tryz.prog 121 #[x.v] W fun e W' => e = .returned (.int .i64 (chk x)) ∧ Below W.heap.size W W' := by
  have HC := hid (Cel.new W 122 x.cs)
  have HB := hid (below_one W (.cells x.cs.toArray 122))
  obtain ⟨t, o, r, s, e⟩ := x
  simp only [En.v, En.cs] at *
  by_cases n1 : t < 0
  · have HK : Hid (chk ⟨t, o, r, s, e⟩ = 110) := hid (chk_nok (by rintro ⟨t0, t1, o0, o1, r0, r1, s0, s1, z, sp, ns, en⟩; simp at * <;> omega))
    go_enter Tryz.func121, Tryz.ntmps121
    go_upto_region 1 with fail
    generalize hX : World.alloc _ _ = X at *
    clear hX
    generalize W.heap.size = g1 at HC ⊢
    have c0 := HC.out.cell 0
    have c1 := HC.out.cell 1
    have c2 := HC.out.cell 2
    have c3 := HC.out.cell 3
    have c4 := HC.out.cell 4
    simp only [List.getElem?_cons_zero, List.getElem?_cons_succ] at c0 c1 c2 c3 c4
    go_wp2_with fail
    go_ret
    exact ⟨by rw [HK.out]; rfl, HB.out⟩
  by_cases n2 : 6 < t
  · have HK : Hid (chk ⟨t, o, r, s, e⟩ = 110) := hid (chk_nok (by rintro ⟨t0, t1, o0, o1, r0, r1, s0, s1, z, sp, ns, en⟩; simp at * <;> omega))
    go_enter Tryz.func121, Tryz.ntmps121
    go_upto_region 1 with fail
    generalize hX : World.alloc _ _ = X at *
    clear hX
    generalize W.heap.size = g1 at HC ⊢
    have c0 := HC.out.cell 0
    have c1 := HC.out.cell 1
    have c2 := HC.out.cell 2
    have c3 := HC.out.cell 3
    have c4 := HC.out.cell 4
    simp only [List.getElem?_cons_zero, List.getElem?_cons_succ] at c0 c1 c2 c3 c4
    go_wp2_with fail
    go_ret
    exact ⟨by rw [HK.out]; rfl, HB.out⟩
  by_cases n3 : o < 0
  · have HK : Hid (chk ⟨t, o, r, s, e⟩ = 110) := hid (chk_nok (by rintro ⟨t0, t1, o0, o1, r0, r1, s0, s1, z, sp, ns, en⟩; simp at * <;> omega))
    go_enter Tryz.func121, Tryz.ntmps121
    go_upto_region 1 with fail
    generalize hX : World.alloc _ _ = X at *
    clear hX
    generalize W.heap.size = g1 at HC ⊢
    have c0 := HC.out.cell 0
    have c1 := HC.out.cell 1
    have c2 := HC.out.cell 2
    have c3 := HC.out.cell 3
    have c4 := HC.out.cell 4
    simp only [List.getElem?_cons_zero, List.getElem?_cons_succ] at c0 c1 c2 c3 c4
    go_wp2_with fail
    go_ret
    exact ⟨by rw [HK.out]; rfl, HB.out⟩
  by_cases n4 : 63 < o
  · have HK : Hid (chk ⟨t, o, r, s, e⟩ = 110) := hid (chk_nok (by rintro ⟨t0, t1, o0, o1, r0, r1, s0, s1, z, sp, ns, en⟩; simp at * <;> omega))
    go_enter Tryz.func121, Tryz.ntmps121
    go_upto_region 1 with fail
    generalize hX : World.alloc _ _ = X at *
    clear hX
    generalize W.heap.size = g1 at HC ⊢
    have c0 := HC.out.cell 0
    have c1 := HC.out.cell 1
    have c2 := HC.out.cell 2
    have c3 := HC.out.cell 3
    have c4 := HC.out.cell 4
    simp only [List.getElem?_cons_zero, List.getElem?_cons_succ] at c0 c1 c2 c3 c4
    go_wp2_with fail
    go_ret
    exact ⟨by rw [HK.out]; rfl, HB.out⟩
  by_cases n5 : r < 0
  · have HK : Hid (chk ⟨t, o, r, s, e⟩ = 110) := hid (chk_nok (by rintro ⟨t0, t1, o0, o1, r0, r1, s0, s1, z, sp, ns, en⟩; simp at * <;> omega))
    go_enter Tryz.func121, Tryz.ntmps121
    go_upto_region 1 with fail
    generalize hX : World.alloc _ _ = X at *
    clear hX
    generalize W.heap.size = g1 at HC ⊢
    have c0 := HC.out.cell 0
    have c1 := HC.out.cell 1
    have c2 := HC.out.cell 2
    have c3 := HC.out.cell 3
    have c4 := HC.out.cell 4
    simp only [List.getElem?_cons_zero, List.getElem?_cons_succ] at c0 c1 c2 c3 c4
    go_wp2_with fail
    go_ret
    exact ⟨by rw [HK.out]; rfl, HB.out⟩
  by_cases n6 : 63 < r
  · have HK : Hid (chk ⟨t, o, r, s, e⟩ = 110) := hid (chk_nok (by rintro ⟨t0, t1, o0, o1, r0, r1, s0, s1, z, sp, ns, en⟩; simp at * <;> omega))
    go_enter Tryz.func121, Tryz.ntmps121
    go_upto_region 1 with fail
    generalize hX : World.alloc _ _ = X at *
    clear hX
    generalize W.heap.size = g1 at HC ⊢
    have c0 := HC.out.cell 0
    have c1 := HC.out.cell 1
    have c2 := HC.out.cell 2
    have c3 := HC.out.cell 3
    have c4 := HC.out.cell 4
    simp only [List.getElem?_cons_zero, List.getElem?_cons_succ] at c0 c1 c2 c3 c4
    go_wp2_with fail
    go_ret
    exact ⟨by rw [HK.out]; rfl, HB.out⟩
  by_cases k0 : t = 0
  · subst k0
    by_cases j1 : o = 0
    · subst j1
      by_cases j2 : r = 0
      · subst j2
        by_cases j3 : s = 0
        · subst j3
          rcases e with _ | _
          · have HK : Hid (chk ⟨0, 0, 0, 0, false⟩ = 0) := hid (chk_ok ⟨by simp <;> omega, by simp <;> omega, by simp <;> omega, by simp <;> omega, by simp <;> omega, by simp <;> omega, by simp <;> omega, by simp <;> omega, by simp <;> omega, by simp <;> omega, by simp <;> omega, by simp <;> omega⟩)
            go_enter Tryz.func121, Tryz.ntmps121
            go_upto_region 1 with fail
            generalize hX : World.alloc _ _ = X at *
            clear hX
            generalize W.heap.size = g1 at HC ⊢
            have c0 := HC.out.cell 0
            have c1 := HC.out.cell 1
            have c2 := HC.out.cell 2
            have c3 := HC.out.cell 3
            have c4 := HC.out.cell 4
            simp only [List.getElem?_cons_zero, List.getElem?_cons_succ] at c0 c1 c2 c3 c4
            go_wp2_with fail
            go_ret
            exact ⟨by rw [HK.out]; rfl, HB.out⟩
          · have HK : Hid (chk ⟨0, 0, 0, 0, true⟩ = 110) := hid (chk_nok (by rintro ⟨t0, t1, o0, o1, r0, r1, s0, s1, z, sp, ns, en⟩; simp at * <;> omega))
            go_enter Tryz.func121, Tryz.ntmps121
            go_upto_region 1 with fail
            generalize hX : World.alloc _ _ = X at *
            clear hX
            generalize W.heap.size = g1 at HC ⊢
            have c0 := HC.out.cell 0
            have c1 := HC.out.cell 1
            have c2 := HC.out.cell 2
            have c3 := HC.out.cell 3
            have c4 := HC.out.cell 4
            simp only [List.getElem?_cons_zero, List.getElem?_cons_succ] at c0 c1 c2 c3 c4
            go_wp2_with fail
            go_ret
            exact ⟨by rw [HK.out]; rfl, HB.out⟩
        · have j3' : (s == 0) = false := by simpa using j3
          have HK : Hid (chk ⟨0, 0, 0, s, e⟩ = 110) := hid (chk_nok (by rintro ⟨t0, t1, o0, o1, r0, r1, s0, s1, z, sp, ns, en⟩; simp at * <;> omega))
          go_enter Tryz.func121, Tryz.ntmps121
          go_upto_region 1 with fail
          generalize hX : World.alloc _ _ = X at *
          clear hX
          generalize W.heap.size = g1 at HC ⊢
          have c0 := HC.out.cell 0
          have c1 := HC.out.cell 1
          have c2 := HC.out.cell 2
          have c3 := HC.out.cell 3
          have c4 := HC.out.cell 4
          simp only [List.getElem?_cons_zero, List.getElem?_cons_succ] at c0 c1 c2 c3 c4
          go_wp2_with fail
          go_ret
          exact ⟨by rw [HK.out]; rfl, HB.out⟩
      · have j2' : (r == 0) = false := by simpa using j2
        have HK : Hid (chk ⟨0, 0, r, s, e⟩ = 110) := hid (chk_nok (by rintro ⟨t0, t1, o0, o1, r0, r1, s0, s1, z, sp, ns, en⟩; simp at * <;> omega))
        go_enter Tryz.func121, Tryz.ntmps121
        go_upto_region 1 with fail
        generalize hX : World.alloc _ _ = X at *
        clear hX
        generalize W.heap.size = g1 at HC ⊢
        have c0 := HC.out.cell 0
        have c1 := HC.out.cell 1
        have c2 := HC.out.cell 2
        have c3 := HC.out.cell 3
        have c4 := HC.out.cell 4
        simp only [List.getElem?_cons_zero, List.getElem?_cons_succ] at c0 c1 c2 c3 c4
        go_wp2_with fail
        go_ret
        exact ⟨by rw [HK.out]; rfl, HB.out⟩
    · have j1' : (o == 0) = false := by simpa using j1
      have HK : Hid (chk ⟨0, o, r, s, e⟩ = 110) := hid (chk_nok (by rintro ⟨t0, t1, o0, o1, r0, r1, s0, s1, z, sp, ns, en⟩; simp at * <;> omega))
      go_enter Tryz.func121, Tryz.ntmps121
      go_upto_region 1 with fail
      generalize hX : World.alloc _ _ = X at *
      clear hX
      generalize W.heap.size = g1 at HC ⊢
      have c0 := HC.out.cell 0
      have c1 := HC.out.cell 1
      have c2 := HC.out.cell 2
      have c3 := HC.out.cell 3
      have c4 := HC.out.cell 4
      simp only [List.getElem?_cons_zero, List.getElem?_cons_succ] at c0 c1 c2 c3 c4
      go_wp2_with fail
      go_ret
      exact ⟨by rw [HK.out]; rfl, HB.out⟩
  have k0' : (t == 0) = false := by simpa using k0
  by_cases k1 : t = 1
  · subst k1
    rcases e with _ | _
    · by_cases j1 : s < 1
      · have HK : Hid (chk ⟨1, o, r, s, false⟩ = 110) := hid (chk_nok (by rintro ⟨t0, t1, o0, o1, r0, r1, s0, s1, z, sp, ns, en⟩; simp at * <;> omega))
        go_enter Tryz.func121, Tryz.ntmps121
        go_upto_region 1 with fail
        generalize hX : World.alloc _ _ = X at *
        clear hX
        generalize W.heap.size = g1 at HC ⊢
        have c0 := HC.out.cell 0
        have c1 := HC.out.cell 1
        have c2 := HC.out.cell 2
        have c3 := HC.out.cell 3
        have c4 := HC.out.cell 4
        simp only [List.getElem?_cons_zero, List.getElem?_cons_succ] at c0 c1 c2 c3 c4
        go_wp2_with fail
        go_ret
        exact ⟨by rw [HK.out]; rfl, HB.out⟩
      by_cases j2 : 3 < s
      · have HK : Hid (chk ⟨1, o, r, s, false⟩ = 110) := hid (chk_nok (by rintro ⟨t0, t1, o0, o1, r0, r1, s0, s1, z, sp, ns, en⟩; simp at * <;> omega))
        go_enter Tryz.func121, Tryz.ntmps121
        go_upto_region 1 with fail
        generalize hX : World.alloc _ _ = X at *
        clear hX
        generalize W.heap.size = g1 at HC ⊢
        have c0 := HC.out.cell 0
        have c1 := HC.out.cell 1
        have c2 := HC.out.cell 2
        have c3 := HC.out.cell 3
        have c4 := HC.out.cell 4
        simp only [List.getElem?_cons_zero, List.getElem?_cons_succ] at c0 c1 c2 c3 c4
        go_wp2_with fail
        go_ret
        exact ⟨by rw [HK.out]; rfl, HB.out⟩
      · have HK : Hid (chk ⟨1, o, r, s, false⟩ = 0) := hid (chk_ok ⟨by simp <;> omega, by simp <;> omega, by simp <;> omega, by simp <;> omega, by simp <;> omega, by simp <;> omega, by simp <;> omega, by simp <;> omega, by simp <;> omega, by simp <;> omega, by simp <;> omega, by simp <;> omega⟩)
        go_enter Tryz.func121, Tryz.ntmps121
        go_upto_region 1 with fail
        generalize hX : World.alloc _ _ = X at *
        clear hX
        generalize W.heap.size = g1 at HC ⊢
        have c0 := HC.out.cell 0
        have c1 := HC.out.cell 1
        have c2 := HC.out.cell 2
        have c3 := HC.out.cell 3
        have c4 := HC.out.cell 4
        simp only [List.getElem?_cons_zero, List.getElem?_cons_succ] at c0 c1 c2 c3 c4
        go_wp2_with fail
        go_ret
        exact ⟨by rw [HK.out]; rfl, HB.out⟩
    · have HK : Hid (chk ⟨1, o, r, s, true⟩ = 110) := hid (chk_nok (by rintro ⟨t0, t1, o0, o1, r0, r1, s0, s1, z, sp, ns, en⟩; simp at * <;> omega))
      go_enter Tryz.func121, Tryz.ntmps121
      go_upto_region 1 with fail
      generalize hX : World.alloc _ _ = X at *
      clear hX
      generalize W.heap.size = g1 at HC ⊢
      have c0 := HC.out.cell 0
      have c1 := HC.out.cell 1
      have c2 := HC.out.cell 2
      have c3 := HC.out.cell 3
      have c4 := HC.out.cell 4
      simp only [List.getElem?_cons_zero, List.getElem?_cons_succ] at c0 c1 c2 c3 c4
      go_wp2_with fail
      go_ret
      exact ⟨by rw [HK.out]; rfl, HB.out⟩
  have k1' : (t == 1) = false := by simpa using k1
  by_cases j2 : r = 0
  · subst j2
    by_cases j3 : s = 0
    · subst j3
      by_cases k2 : t = 2
      · subst k2
        rcases e with _ | _
        · have HK : Hid (chk ⟨2, o, 0, 0, false⟩ = 0) := hid (chk_ok ⟨by simp <;> omega, by simp <;> omega, by simp <;> omega, by simp <;> omega, by simp <;> omega, by simp <;> omega, by simp <;> omega, by simp <;> omega, by simp <;> omega, by simp <;> omega, by simp <;> omega, by simp <;> omega⟩)
          go_enter Tryz.func121, Tryz.ntmps121
          go_upto_region 1 with fail
          generalize hX : World.alloc _ _ = X at *
          clear hX
          generalize W.heap.size = g1 at HC ⊢
          have c0 := HC.out.cell 0
          have c1 := HC.out.cell 1
          have c2 := HC.out.cell 2
          have c3 := HC.out.cell 3
          have c4 := HC.out.cell 4
          simp only [List.getElem?_cons_zero, List.getElem?_cons_succ] at c0 c1 c2 c3 c4
          go_wp2_with fail
          go_ret
          exact ⟨by rw [HK.out]; rfl, HB.out⟩
        · have HK : Hid (chk ⟨2, o, 0, 0, true⟩ = 0) := hid (chk_ok ⟨by simp <;> omega, by simp <;> omega, by simp <;> omega, by simp <;> omega, by simp <;> omega, by simp <;> omega, by simp <;> omega, by simp <;> omega, by simp <;> omega, by simp <;> omega, by simp <;> omega, by simp <;> omega⟩)
          go_enter Tryz.func121, Tryz.ntmps121
          go_upto_region 1 with fail
          generalize hX : World.alloc _ _ = X at *
          clear hX
          generalize W.heap.size = g1 at HC ⊢
          have c0 := HC.out.cell 0
          have c1 := HC.out.cell 1
          have c2 := HC.out.cell 2
          have c3 := HC.out.cell 3
          have c4 := HC.out.cell 4
          simp only [List.getElem?_cons_zero, List.getElem?_cons_succ] at c0 c1 c2 c3 c4
          go_wp2_with fail
          go_ret
          exact ⟨by rw [HK.out]; rfl, HB.out⟩
      · have k2' : (t == 2) = false := by simpa using k2
        rcases e with _ | _
        · have HK : Hid (chk ⟨t, o, 0, 0, false⟩ = 0) := hid (chk_ok ⟨by simp <;> omega, by simp <;> omega, by simp <;> omega, by simp <;> omega, by simp <;> omega, by simp <;> omega, by simp <;> omega, by simp <;> omega, by simp <;> omega, by simp <;> omega, by simp <;> omega, by simp <;> omega⟩)
          go_enter Tryz.func121, Tryz.ntmps121
          go_upto_region 1 with fail
          generalize hX : World.alloc _ _ = X at *
          clear hX
          generalize W.heap.size = g1 at HC ⊢
          have c0 := HC.out.cell 0
          have c1 := HC.out.cell 1
          have c2 := HC.out.cell 2
          have c3 := HC.out.cell 3
          have c4 := HC.out.cell 4
          simp only [List.getElem?_cons_zero, List.getElem?_cons_succ] at c0 c1 c2 c3 c4
          go_wp2_with fail
          go_ret
          exact ⟨by rw [HK.out]; rfl, HB.out⟩
        · have HK : Hid (chk ⟨t, o, 0, 0, true⟩ = 110) := hid (chk_nok (by rintro ⟨t0, t1, o0, o1, r0, r1, s0, s1, z, sp, ns, en⟩; simp at * <;> omega))
          go_enter Tryz.func121, Tryz.ntmps121
          go_upto_region 1 with fail
          generalize hX : World.alloc _ _ = X at *
          clear hX
          generalize W.heap.size = g1 at HC ⊢
          have c0 := HC.out.cell 0
          have c1 := HC.out.cell 1
          have c2 := HC.out.cell 2
          have c3 := HC.out.cell 3
          have c4 := HC.out.cell 4
          simp only [List.getElem?_cons_zero, List.getElem?_cons_succ] at c0 c1 c2 c3 c4
          go_wp2_with fail
          go_ret
          exact ⟨by rw [HK.out]; rfl, HB.out⟩
    · have j3' : (s == 0) = false := by simpa using j3
      have HK : Hid (chk ⟨t, o, 0, s, e⟩ = 110) := hid (chk_nok (by rintro ⟨t0, t1, o0, o1, r0, r1, s0, s1, z, sp, ns, en⟩; simp at * <;> omega))
      go_enter Tryz.func121, Tryz.ntmps121
      go_upto_region 1 with fail
      generalize hX : World.alloc _ _ = X at *
      clear hX
      generalize W.heap.size = g1 at HC ⊢
      have c0 := HC.out.cell 0
      have c1 := HC.out.cell 1
      have c2 := HC.out.cell 2
      have c3 := HC.out.cell 3
      have c4 := HC.out.cell 4
      simp only [List.getElem?_cons_zero, List.getElem?_cons_succ] at c0 c1 c2 c3 c4
      go_wp2_with fail
      go_ret
      exact ⟨by rw [HK.out]; rfl, HB.out⟩
  · have j2' : (r == 0) = false := by simpa using j2
    have HK : Hid (chk ⟨t, o, r, s, e⟩ = 110) := hid (chk_nok (by rintro ⟨t0, t1, o0, o1, r0, r1, s0, s1, z, sp, ns, en⟩; simp at * <;> omega))
    go_enter Tryz.func121, Tryz.ntmps121
    go_upto_region 1 with fail
    generalize hX : World.alloc _ _ = X at *
    clear hX
    generalize W.heap.size = g1 at HC ⊢
    have c0 := HC.out.cell 0
    have c1 := HC.out.cell 1
    have c2 := HC.out.cell 2
    have c3 := HC.out.cell 3
    have c4 := HC.out.cell 4
    simp only [List.getElem?_cons_zero, List.getElem?_cons_succ] at c0 c1 c2 c3 c4
    go_wp2_with fail
    go_ret
    exact ⟨by rw [HK.out]; rfl, HB.out⟩
end Go.Proofs.YtgbpbfnpeeciaaaGreat
