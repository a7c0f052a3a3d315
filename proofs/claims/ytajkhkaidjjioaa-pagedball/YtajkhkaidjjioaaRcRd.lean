/- The document's Check 12. The document's Encode 8, Decode 13. -/
import Derived.Test.YtajkhkaidjjioaaEeEfEg
namespace Go.Proofs.Ytajkhkaidjjioaa
open Go.RowKit
set_option maxHeartbeats 8000000
set_option maxRecDepth 100000
theorem chk_nok {x : En} (h : ¬ x.Ok) : chk x = 110 := by
  unfold chk
  rw [if_neg (fun hk => h (x.ok_iff.1 hk))]
theorem chk_ok {x : En} (h : x.Ok) : chk x = 0 := chk_yes (x.ok_iff.2 h)
theorem rcheck_any (W : World) (x : En) : Calls Try.prog 104 #[x.v] W fun e W' => e = .returned (.int .i64 (chk x)) ∧ Below W.heap.size W W' := by
  have HC := hid (Cel.new W 124 x.cs)
  have HB := hid (below_one W (.cells x.cs.toArray 124))
  obtain ⟨t, o, r, s, e⟩ := x
  simp only [En.v, En.cs] at *
  by_cases n1 : t < 0
  · have HK : Hid (chk ⟨t, o, r, s, e⟩ = 110) := hid (chk_nok (by rintro ⟨t0, t1, o0, o1, r0, r1, s0, s1, z, sp, ns, en⟩; simp at * <;> omega))
    go_enter Try.func104, Try.ntmps104
    go_upto_region 1 with fail
    generalize hX : World.alloc _ _ = X at *
    clear hX
    generalize W.heap.size = g1 at HC ⊢
    have c0 := HC.out.cell 0
    have c1 := HC.out.cell 1
    have c2 := HC.out.cell 2
    have c3 := HC.out.cell 3
    have c4 := HC.out.cell 4
    simp only [List.getElem?_cons_zero, List.getElem?_cons_succ] at c0 c1 c2 c3 c4
    go_wp2_with fail
    go_ret
    exact ⟨by rw [HK.out]; rfl, HB.out⟩
  by_cases n2 : 6 < t
  · have HK : Hid (chk ⟨t, o, r, s, e⟩ = 110) := hid (chk_nok (by rintro ⟨t0, t1, o0, o1, r0, r1, s0, s1, z, sp, ns, en⟩; simp at * <;> omega))
    go_enter Try.func104, Try.ntmps104
    go_upto_region 1 with fail
    generalize hX : World.alloc _ _ = X at *
    clear hX
    generalize W.heap.size = g1 at HC ⊢
    have c0 := HC.out.cell 0
    have c1 := HC.out.cell 1
    have c2 := HC.out.cell 2
    have c3 := HC.out.cell 3
    have c4 := HC.out.cell 4
    simp only [List.getElem?_cons_zero, List.getElem?_cons_succ] at c0 c1 c2 c3 c4
    go_wp2_with fail
    go_ret
    exact ⟨by rw [HK.out]; rfl, HB.out⟩
  by_cases n3 : o < 0
  · have HK : Hid (chk ⟨t, o, r, s, e⟩ = 110) := hid (chk_nok (by rintro ⟨t0, t1, o0, o1, r0, r1, s0, s1, z, sp, ns, en⟩; simp at * <;> omega))
    go_enter Try.func104, Try.ntmps104
    go_upto_region 1 with fail
    generalize hX : World.alloc _ _ = X at *
    clear hX
    generalize W.heap.size = g1 at HC ⊢
    have c0 := HC.out.cell 0
    have c1 := HC.out.cell 1
    have c2 := HC.out.cell 2
    have c3 := HC.out.cell 3
    have c4 := HC.out.cell 4
    simp only [List.getElem?_cons_zero, List.getElem?_cons_succ] at c0 c1 c2 c3 c4
    go_wp2_with fail
    go_ret
    exact ⟨by rw [HK.out]; rfl, HB.out⟩
  by_cases n4 : 63 < o
  · have HK : Hid (chk ⟨t, o, r, s, e⟩ = 110) := hid (chk_nok (by rintro ⟨t0, t1, o0, o1, r0, r1, s0, s1, z, sp, ns, en⟩; simp at * <;> omega))
    go_enter Try.func104, Try.ntmps104
    go_upto_region 1 with fail
    generalize hX : World.alloc _ _ = X at *
    clear hX
    generalize W.heap.size = g1 at HC ⊢
    have c0 := HC.out.cell 0
    have c1 := HC.out.cell 1
    have c2 := HC.out.cell 2
    have c3 := HC.out.cell 3
    have c4 := HC.out.cell 4
    simp only [List.getElem?_cons_zero, List.getElem?_cons_succ] at c0 c1 c2 c3 c4
    go_wp2_with fail
    go_ret
    exact ⟨by rw [HK.out]; rfl, HB.out⟩
  by_cases n5 : r < 0
  · have HK : Hid (chk ⟨t, o, r, s, e⟩ = 110) := hid (chk_nok (by rintro ⟨t0, t1, o0, o1, r0, r1, s0, s1, z, sp, ns, en⟩; simp at * <;> omega))
    go_enter Try.func104, Try.ntmps104
    go_upto_region 1 with fail
    generalize hX : World.alloc _ _ = X at *
    clear hX
    generalize W.heap.size = g1 at HC ⊢
    have c0 := HC.out.cell 0
    have c1 := HC.out.cell 1
    have c2 := HC.out.cell 2
    have c3 := HC.out.cell 3
    have c4 := HC.out.cell 4
    simp only [List.getElem?_cons_zero, List.getElem?_cons_succ] at c0 c1 c2 c3 c4
    go_wp2_with fail
    go_ret
    exact ⟨by rw [HK.out]; rfl, HB.out⟩
  by_cases n6 : 63 < r
  · have HK : Hid (chk ⟨t, o, r, s, e⟩ = 110) := hid (chk_nok (by rintro ⟨t0, t1, o0, o1, r0, r1, s0, s1, z, sp, ns, en⟩; simp at * <;> omega))
    go_enter Try.func104, Try.ntmps104
    go_upto_region 1 with fail
    generalize hX : World.alloc _ _ = X at *
    clear hX
    generalize W.heap.size = g1 at HC ⊢
    have c0 := HC.out.cell 0
    have c1 := HC.out.cell 1
    have c2 := HC.out.cell 2
    have c3 := HC.out.cell 3
    have c4 := HC.out.cell 4
    simp only [List.getElem?_cons_zero, List.getElem?_cons_succ] at c0 c1 c2 c3 c4
    go_wp2_with fail
    go_ret
    exact ⟨by rw [HK.out]; rfl, HB.out⟩
  by_cases k0 : t = 0
  · subst k0
    by_cases j1 : o = 0
    · subst j1
      by_cases j2 : r = 0
      · subst j2
        by_cases j3 : s = 0
        · subst j3
          rcases e with _ | _
          · have HK : Hid (chk ⟨0, 0, 0, 0, false⟩ = 0) := hid (chk_ok ⟨by simp <;> omega, by simp <;> omega, by simp <;> omega, by simp <;> omega, by simp <;> omega, by simp <;> omega, by simp <;> omega, by simp <;> omega, by simp <;> omega, by simp <;> omega, by simp <;> omega, by simp <;> omega⟩)
            go_enter Try.func104, Try.ntmps104
            go_upto_region 1 with fail
            generalize hX : World.alloc _ _ = X at *
            clear hX
            generalize W.heap.size = g1 at HC ⊢
            have c0 := HC.out.cell 0
            have c1 := HC.out.cell 1
            have c2 := HC.out.cell 2
            have c3 := HC.out.cell 3
            have c4 := HC.out.cell 4
            simp only [List.getElem?_cons_zero, List.getElem?_cons_succ] at c0 c1 c2 c3 c4
            go_wp2_with fail
            go_ret
            exact ⟨by rw [HK.out]; rfl, HB.out⟩
          · have HK : Hid (chk ⟨0, 0, 0, 0, true⟩ = 110) := hid (chk_nok (by rintro ⟨t0, t1, o0, o1, r0, r1, s0, s1, z, sp, ns, en⟩; simp at * <;> omega))
            go_enter Try.func104, Try.ntmps104
            go_upto_region 1 with fail
            generalize hX : World.alloc _ _ = X at *
            clear hX
            generalize W.heap.size = g1 at HC ⊢
            have c0 := HC.out.cell 0
            have c1 := HC.out.cell 1
            have c2 := HC.out.cell 2
            have c3 := HC.out.cell 3
            have c4 := HC.out.cell 4
            simp only [List.getElem?_cons_zero, List.getElem?_cons_succ] at c0 c1 c2 c3 c4
            go_wp2_with fail
            go_ret
            exact ⟨by rw [HK.out]; rfl, HB.out⟩
        · have j3' : (s == 0) = false := by simpa using j3
          have HK : Hid (chk ⟨0, 0, 0, s, e⟩ = 110) := hid (chk_nok (by rintro ⟨t0, t1, o0, o1, r0, r1, s0, s1, z, sp, ns, en⟩; simp at * <;> omega))
          go_enter Try.func104, Try.ntmps104
          go_upto_region 1 with fail
          generalize hX : World.alloc _ _ = X at *
          clear hX
          generalize W.heap.size = g1 at HC ⊢
          have c0 := HC.out.cell 0
          have c1 := HC.out.cell 1
          have c2 := HC.out.cell 2
          have c3 := HC.out.cell 3
          have c4 := HC.out.cell 4
          simp only [List.getElem?_cons_zero, List.getElem?_cons_succ] at c0 c1 c2 c3 c4
          go_wp2_with fail
          go_ret
          exact ⟨by rw [HK.out]; rfl, HB.out⟩
      · have j2' : (r == 0) = false := by simpa using j2
        have HK : Hid (chk ⟨0, 0, r, s, e⟩ = 110) := hid (chk_nok (by rintro ⟨t0, t1, o0, o1, r0, r1, s0, s1, z, sp, ns, en⟩; simp at * <;> omega))
        go_enter Try.func104, Try.ntmps104
        go_upto_region 1 with fail
        generalize hX : World.alloc _ _ = X at *
        clear hX
        generalize W.heap.size = g1 at HC ⊢
        have c0 := HC.out.cell 0
        have c1 := HC.out.cell 1
        have c2 := HC.out.cell 2
        have c3 := HC.out.cell 3
        have c4 := HC.out.cell 4
        simp only [List.getElem?_cons_zero, List.getElem?_cons_succ] at c0 c1 c2 c3 c4
        go_wp2_with fail
        go_ret
        exact ⟨by rw [HK.out]; rfl, HB.out⟩
    · have j1' : (o == 0) = false := by simpa using j1
      have HK : Hid (chk ⟨0, o, r, s, e⟩ = 110) := hid (chk_nok (by rintro ⟨t0, t1, o0, o1, r0, r1, s0, s1, z, sp, ns, en⟩; simp at * <;> omega))
      go_enter Try.func104, Try.ntmps104
      go_upto_region 1 with fail
      generalize hX : World.alloc _ _ = X at *
      clear hX
      generalize W.heap.size = g1 at HC ⊢
      have c0 := HC.out.cell 0
      have c1 := HC.out.cell 1
      have c2 := HC.out.cell 2
      have c3 := HC.out.cell 3
      have c4 := HC.out.cell 4
      simp only [List.getElem?_cons_zero, List.getElem?_cons_succ] at c0 c1 c2 c3 c4
      go_wp2_with fail
      go_ret
      exact ⟨by rw [HK.out]; rfl, HB.out⟩
  have k0' : (t == 0) = false := by simpa using k0
  by_cases k1 : t = 1
  · subst k1
    rcases e with _ | _
    · by_cases j1 : s < 1
      · have HK : Hid (chk ⟨1, o, r, s, false⟩ = 110) := hid (chk_nok (by rintro ⟨t0, t1, o0, o1, r0, r1, s0, s1, z, sp, ns, en⟩; simp at * <;> omega))
        go_enter Try.func104, Try.ntmps104
        go_upto_region 1 with fail
        generalize hX : World.alloc _ _ = X at *
        clear hX
        generalize W.heap.size = g1 at HC ⊢
        have c0 := HC.out.cell 0
        have c1 := HC.out.cell 1
        have c2 := HC.out.cell 2
        have c3 := HC.out.cell 3
        have c4 := HC.out.cell 4
        simp only [List.getElem?_cons_zero, List.getElem?_cons_succ] at c0 c1 c2 c3 c4
        go_wp2_with fail
        go_ret
        exact ⟨by rw [HK.out]; rfl, HB.out⟩
      by_cases j2 : 3 < s
      · have HK : Hid (chk ⟨1, o, r, s, false⟩ = 110) := hid (chk_nok (by rintro ⟨t0, t1, o0, o1, r0, r1, s0, s1, z, sp, ns, en⟩; simp at * <;> omega))
        go_enter Try.func104, Try.ntmps104
        go_upto_region 1 with fail
        generalize hX : World.alloc _ _ = X at *
        clear hX
        generalize W.heap.size = g1 at HC ⊢
        have c0 := HC.out.cell 0
        have c1 := HC.out.cell 1
        have c2 := HC.out.cell 2
        have c3 := HC.out.cell 3
        have c4 := HC.out.cell 4
        simp only [List.getElem?_cons_zero, List.getElem?_cons_succ] at c0 c1 c2 c3 c4
        go_wp2_with fail
        go_ret
        exact ⟨by rw [HK.out]; rfl, HB.out⟩
      · have HK : Hid (chk ⟨1, o, r, s, false⟩ = 0) := hid (chk_ok ⟨by simp <;> omega, by simp <;> omega, by simp <;> omega, by simp <;> omega, by simp <;> omega, by simp <;> omega, by simp <;> omega, by simp <;> omega, by simp <;> omega, by simp <;> omega, by simp <;> omega, by simp <;> omega⟩)
        go_enter Try.func104, Try.ntmps104
        go_upto_region 1 with fail
        generalize hX : World.alloc _ _ = X at *
        clear hX
        generalize W.heap.size = g1 at HC ⊢
        have c0 := HC.out.cell 0
        have c1 := HC.out.cell 1
        have c2 := HC.out.cell 2
        have c3 := HC.out.cell 3
        have c4 := HC.out.cell 4
        simp only [List.getElem?_cons_zero, List.getElem?_cons_succ] at c0 c1 c2 c3 c4
        go_wp2_with fail
        go_ret
        exact ⟨by rw [HK.out]; rfl, HB.out⟩
    · have HK : Hid (chk ⟨1, o, r, s, true⟩ = 110) := hid (chk_nok (by rintro ⟨t0, t1, o0, o1, r0, r1, s0, s1, z, sp, ns, en⟩; simp at * <;> omega))
      go_enter Try.func104, Try.ntmps104
      go_upto_region 1 with fail
      generalize hX : World.alloc _ _ = X at *
      clear hX
      generalize W.heap.size = g1 at HC ⊢
      have c0 := HC.out.cell 0
      have c1 := HC.out.cell 1
      have c2 := HC.out.cell 2
      have c3 := HC.out.cell 3
      have c4 := HC.out.cell 4
      simp only [List.getElem?_cons_zero, List.getElem?_cons_succ] at c0 c1 c2 c3 c4
      go_wp2_with fail
      go_ret
      exact ⟨by rw [HK.out]; rfl, HB.out⟩
  have k1' : (t == 1) = false := by simpa using k1
  by_cases j2 : r = 0
  · subst j2
    by_cases j3 : s = 0
    · subst j3
      by_cases k2 : t = 2
      · subst k2
        rcases e with _ | _
        · have HK : Hid (chk ⟨2, o, 0, 0, false⟩ = 0) := hid (chk_ok ⟨by simp <;> omega, by simp <;> omega, by simp <;> omega, by simp <;> omega, by simp <;> omega, by simp <;> omega, by simp <;> omega, by simp <;> omega, by simp <;> omega, by simp <;> omega, by simp <;> omega, by simp <;> omega⟩)
          go_enter Try.func104, Try.ntmps104
          go_upto_region 1 with fail
          generalize hX : World.alloc _ _ = X at *
          clear hX
          generalize W.heap.size = g1 at HC ⊢
          have c0 := HC.out.cell 0
          have c1 := HC.out.cell 1
          have c2 := HC.out.cell 2
          have c3 := HC.out.cell 3
          have c4 := HC.out.cell 4
          simp only [List.getElem?_cons_zero, List.getElem?_cons_succ] at c0 c1 c2 c3 c4
          go_wp2_with fail
          go_ret
          exact ⟨by rw [HK.out]; rfl, HB.out⟩
        · have HK : Hid (chk ⟨2, o, 0, 0, true⟩ = 0) := hid (chk_ok ⟨by simp <;> omega, by simp <;> omega, by simp <;> omega, by simp <;> omega, by simp <;> omega, by simp <;> omega, by simp <;> omega, by simp <;> omega, by simp <;> omega, by simp <;> omega, by simp <;> omega, by simp <;> omega⟩)
          go_enter Try.func104, Try.ntmps104
          go_upto_region 1 with fail
          generalize hX : World.alloc _ _ = X at *
          clear hX
          generalize W.heap.size = g1 at HC ⊢
          have c0 := HC.out.cell 0
          have c1 := HC.out.cell 1
          have c2 := HC.out.cell 2
          have c3 := HC.out.cell 3
          have c4 := HC.out.cell 4
          simp only [List.getElem?_cons_zero, List.getElem?_cons_succ] at c0 c1 c2 c3 c4
          go_wp2_with fail
          go_ret
          exact ⟨by rw [HK.out]; rfl, HB.out⟩
      · have k2' : (t == 2) = false := by simpa using k2
        rcases e with _ | _
        · have HK : Hid (chk ⟨t, o, 0, 0, false⟩ = 0) := hid (chk_ok ⟨by simp <;> omega, by simp <;> omega, by simp <;> omega, by simp <;> omega, by simp <;> omega, by simp <;> omega, by simp <;> omega, by simp <;> omega, by simp <;> omega, by simp <;> omega, by simp <;> omega, by simp <;> omega⟩)
          go_enter Try.func104, Try.ntmps104
          go_upto_region 1 with fail
          generalize hX : World.alloc _ _ = X at *
          clear hX
          generalize W.heap.size = g1 at HC ⊢
          have c0 := HC.out.cell 0
          have c1 := HC.out.cell 1
          have c2 := HC.out.cell 2
          have c3 := HC.out.cell 3
          have c4 := HC.out.cell 4
          simp only [List.getElem?_cons_zero, List.getElem?_cons_succ] at c0 c1 c2 c3 c4
          go_wp2_with fail
          go_ret
          exact ⟨by rw [HK.out]; rfl, HB.out⟩
        · have HK : Hid (chk ⟨t, o, 0, 0, true⟩ = 110) := hid (chk_nok (by rintro ⟨t0, t1, o0, o1, r0, r1, s0, s1, z, sp, ns, en⟩; simp at * <;> omega))
          go_enter Try.func104, Try.ntmps104
          go_upto_region 1 with fail
          generalize hX : World.alloc _ _ = X at *
          clear hX
          generalize W.heap.size = g1 at HC ⊢
          have c0 := HC.out.cell 0
          have c1 := HC.out.cell 1
          have c2 := HC.out.cell 2
          have c3 := HC.out.cell 3
          have c4 := HC.out.cell 4
          simp only [List.getElem?_cons_zero, List.getElem?_cons_succ] at c0 c1 c2 c3 c4
          go_wp2_with fail
          go_ret
          exact ⟨by rw [HK.out]; rfl, HB.out⟩
    · have j3' : (s == 0) = false := by simpa using j3
      have HK : Hid (chk ⟨t, o, 0, s, e⟩ = 110) := hid (chk_nok (by rintro ⟨t0, t1, o0, o1, r0, r1, s0, s1, z, sp, ns, en⟩; simp at * <;> omega))
      go_enter Try.func104, Try.ntmps104
      go_upto_region 1 with fail
      generalize hX : World.alloc _ _ = X at *
      clear hX
      generalize W.heap.size = g1 at HC ⊢
      have c0 := HC.out.cell 0
      have c1 := HC.out.cell 1
      have c2 := HC.out.cell 2
      have c3 := HC.out.cell 3
      have c4 := HC.out.cell 4
      simp only [List.getElem?_cons_zero, List.getElem?_cons_succ] at c0 c1 c2 c3 c4
      go_wp2_with fail
      go_ret
      exact ⟨by rw [HK.out]; rfl, HB.out⟩
  · have j2' : (r == 0) = false := by simpa using j2
    have HK : Hid (chk ⟨t, o, r, s, e⟩ = 110) := hid (chk_nok (by rintro ⟨t0, t1, o0, o1, r0, r1, s0, s1, z, sp, ns, en⟩; simp at * <;> omega))
    go_enter Try.func104, Try.ntmps104
    go_upto_region 1 with fail
    generalize hX : World.alloc _ _ = X at *
    clear hX
    generalize W.heap.size = g1 at HC ⊢
    have c0 := HC.out.cell 0
    have c1 := HC.out.cell 1
    have c2 := HC.out.cell 2
    have c3 := HC.out.cell 3
    have c4 := HC.out.cell 4
    simp only [List.getElem?_cons_zero, List.getElem?_cons_succ] at c0 c1 c2 c3 c4
    go_wp2_with fail
    go_ret
    exact ⟨by rw [HK.out]; rfl, HB.out⟩
end Go.Proofs.Ytajkhkaidjjioaa
namespace Go.Proofs.Ytajkhkaidjjioaa
open Go.RowKit
set_option maxHeartbeats 8000000
set_option maxRecDepth 100000
theorem rencode_any (W : World) (x : En) : Calls Try.prog 97 #[x.v] W fun e W' => e = .returned (.tuple #[twoV (e0 x) (e1 x), .int .i64 (chk x)]) ∧ Below W.heap.size W W' := by
  have HX := hid (Bx.new W 124 137 x.cs (two 0 0))
  have HK := hid (fun W => rcheck_any W x)
  cases hok : x.ok
  · have hc : chk x = 110 := by simp [chk, hok]
    have h0 : e0 x = 0 := by simp [e0, hok]
    have h1 : e1 x = 0 := by simp [e1, hok]
    rw [hc] at HK
    rw [hc, h0, h1]
    clear hc h0 h1 hok
    simp only [twoV, two, En.v] at *
    go_enter Try.func97, Try.ntmps97
    go_upto_region 1 with fail
    generalize hX : (W.alloc _).alloc _ = X at *
    clear hX
    generalize W.heap.size + 1 = g2 at *
    generalize W.heap.size = g1 at *
    go_wp2_with (first | (refine wpList_load_mid rfl 124 _ rfl g1 0 rfl _ _ HX.out.a.range underR rfl (by rw [sizeR]; rfl) ?_) | (go_at_call 104; refine (HK.out _).mono ?_; rintro e w1 ⟨rfl, hb1⟩; have HX1 := hid (HX.out.on hb1); clear hb1) | (refine wpList_store_st rfl 137 _ _ rfl g2 (two 0 0) rfl rfl HX1.out.b sizeA rfl rfl ?_; intro w2 hc2 hb2 hs2; have HF := hid (HX1.out.put hc2 hb2); clear hc2 hb2 hs2))
    exact ret_st2 rfl rfl g2 _ rfl HF.out.1 underA rfl sizeA ⟨rfl, HF.out.2⟩
  · have hO := x.ok_iff.1 hok
    have hc : chk x = 0 := by simp [chk, hok]
    have h0 : e0 x = x.w := by simp [e0, hok]
    have h1 : e1 x = x.r := by simp [e1, hok]
    have q2 : x.r % 4294967296 = x.r := by have := hO.r0; have := hO.r1; omega
    have q3 : x.e = false → x.w = x.t + 16 * x.s + 65536 * x.o := fun he => by rw [En.w, he]; simp
    have q4 : x.e = true → x.w = x.t + 16 * x.s + 65536 * x.o + 256 := fun he => by rw [En.w, he]; simp
    have q5 := En.w_range hO
    have b0 := hO.t0
    have b1 := hO.t1
    have b2 := hO.o0
    have b3 := hO.o1
    have b4 := hO.s0
    have b5 := hO.s1
    rw [hc] at HK
    rw [hc, h0, h1]
    clear hc h0 h1 hok hO
    simp only [twoV, two, En.v] at HX HK ⊢
    generalize x.w = xw at *
    obtain ⟨t, o, r, s, e⟩ := x
    simp only [En.cs] at *
    go_enter Try.func97, Try.ntmps97
    go_upto_region 1 with fail
    generalize hX : (W.alloc _).alloc _ = X at *
    clear hX
    generalize W.heap.size + 1 = g2 at *
    generalize W.heap.size = g1 at *
    have HQ := hid (And.intro q3 q4)
    clear q3 q4
    go_upto_region 2 with (first | (refine wpList_load_mid rfl 124 _ rfl g1 0 rfl _ _ HX.out.a.range underR rfl (by rw [sizeR]; rfl) ?_) | (go_at_call 104; refine (HK.out _).mono ?_; rintro e1 w1 ⟨rfl, hb1⟩; have HX1 := hid (HX.out.on hb1); clear hb1))
    have c0 := HX1.out.a.cell 0
    have c1 := HX1.out.a.cell 1
    have c2 := HX1.out.a.cell 2
    have c3 := HX1.out.a.cell 3
    have c4 := HX1.out.a.cell 4
    simp only [List.getElem?_cons_zero, List.getElem?_cons_succ] at c0 c1 c2 c3 c4
    obtain ⟨q3, q4⟩ := HQ.out
    clear HQ
    cases e
    · have q6 := q3 rfl
      subst q6
      clear q3 q4
      go_wp2_with (refine wpList_store_st rfl 137 _ _ rfl g2 [Value.int .u32 (t + 16 * s + 65536 * o), .int .u32 r] rfl rfl HX1.out.b sizeA rfl rfl ?_; intro w2 hc2 hb2 hs2; have HF := hid (HX1.out.put hc2 hb2); clear hc2 hb2 hs2)
      exact ret_st2 rfl rfl g2 _ rfl HF.out.1 underA rfl sizeA ⟨rfl, HF.out.2⟩
    · have q6 := q4 rfl
      subst q6
      clear q3 q4
      go_wp2_with (refine wpList_store_st rfl 137 _ _ rfl g2 [Value.int .u32 (t + 16 * s + 65536 * o + 256), .int .u32 r] rfl rfl HX1.out.b sizeA rfl rfl ?_; intro w2 hc2 hb2 hs2; have HF := hid (HX1.out.put hc2 hb2); clear hc2 hb2 hs2)
      exact ret_st2 rfl rfl g2 _ rfl HF.out.1 underA rfl sizeA ⟨rfl, HF.out.2⟩
structure R4 (W x : World) (g1 g2 g4 g5 : Nat) (a b : List Value) (y : En) (c : List Value) : Prop where
  c1 : Cel x g1 137 a
  c2 : Cel x g2 124 b
  c4 : Cel x g4 124 y.cs
  c5 : Cel x g5 137 c
  below : Below W.heap.size W x
  l2 : W.heap.size ≤ g2
theorem R4.put {W x x' : World} {g1 g2 g4 g5 : Nat} {a b c es : List Value} {y : En} (k : R4 W x g1 g2 g4 g5 a b y c) (hc : Cel x' g2 124 es) (hb : ButL [g2] x x') : Cel x' g2 124 es ∧ Below W.heap.size W x' :=
  ⟨hc, k.below.trans (hb.below (B := W.heap.size) (by simpa using k.l2) k.below.size)⟩
theorem rdecode_any (W : World) (a b : Int) (a0 : 0 ≤ a) (a1 : a < 4294967296) (b0 : 0 ≤ b) (b1 : b < 4294967296) : Calls Try.prog 98 #[twoV a b] W fun e W' => e = .returned (.tuple #[(dec a b).v, .int .i64 (decE a b)]) ∧ Below W.heap.size W W' := by
  have HX := hid (Bx.new W 137 124 (two a b) En.zero.cs)
  have wa : wrap64 a = a := w64 a a0 a1
  have wb : wrap64 b = b := w64 b b0 b1
  have f1 : a.tmod 8 = (fld a b).t := Int.tmod_eq_emod_of_nonneg a0
  have f2 : (wrap64 (a.tdiv 65536)).tmod 64 = (fld a b).o := by
    rw [Int.tdiv_eq_ediv_of_nonneg a0, w64 _ (by omega) (by omega), Int.tmod_eq_emod_of_nonneg (by omega)]; rfl
  have f3 : b.tmod 64 = (fld a b).r := Int.tmod_eq_emod_of_nonneg b0
  have f4 : (wrap64 (a.tdiv 16)).tmod 4 = (fld a b).s := by
    rw [Int.tdiv_eq_ediv_of_nonneg a0, w64 _ (by omega) (by omega), Int.tmod_eq_emod_of_nonneg (by omega)]; rfl
  have f5 : ((wrap64 (a.tdiv 256)).tmod 2 == 1) = (fld a b).e := by
    rw [Int.tdiv_eq_ediv_of_nonneg a0, w64 _ (by omega) (by omega), Int.tmod_eq_emod_of_nonneg (by omega)]; rfl
  have HE := hid (fun W => rencode_any W (fld a b))
  have hd1 : (fld a b).ok = false → dok a b = false := fun h => by simp [dok, h]
  have hd2 : (fld a b).ok = true → dok a b = same2 (e0 (fld a b)) (e1 (fld a b)) a b := fun h => by simp [dok, h]
  have hk1 : (fld a b).ok = false → chk (fld a b) = 110 := fun h => by simp [chk, h]
  have hk2 : (fld a b).ok = true → chk (fld a b) = 0 := fun h => by simp [chk, h]
  have hv1 : dok a b = false → dec a b = En.zero ∧ decE a b = 110 := fun h => by simp [dec, decE, h]
  have hv2 : dok a b = true → dec a b = fld a b ∧ decE a b = 0 := fun h => by simp [dec, decE, h]
  generalize hx : fld a b = x at *
  clear hx a0 a1 b0 b1
  generalize dec a b = D at *
  generalize decE a b = DE at *
  generalize dok a b = dk at *
  generalize chk x = ck at *
  generalize e0 x = v0 at *
  generalize e1 x = v1 at *
  have HH := hid (And.intro hd1 (And.intro hd2 (And.intro hk1 (And.intro hk2 (And.intro hv1 hv2)))))
  clear hd1 hd2 hk1 hk2 hv1 hv2
  simp only [twoV, En.v] at *
  simp only [En.zero, En.cs] at HX
  go_enter Try.func98, Try.ntmps98
  go_upto_region 1 with fail
  generalize hX : (W.alloc _).alloc _ = X at *
  clear hX
  generalize W.heap.size + 1 = g2 at *
  generalize W.heap.size = g1 at *
  have c0 := HX.out.a.cell 0
  have c1 := HX.out.a.cell 1
  simp only [two, List.getElem?_cons_zero, List.getElem?_cons_succ] at c0 c1
  go_upto_region 2 with fail
  go_upto_region 3 with (refine wpList_store_st rfl 124 _ _ rfl X.heap.size [.int .i64 x.t, .int .i64 x.o, .int .i64 x.r, .int .i64 x.s, .bool x.e] rfl rfl (Cel.new X 124 En.zero.cs) sizeR rfl rfl ?_; intro w2 hc2 hb2 hs2; have H4 : Hid (Cel w2 X.heap.size 124 x.cs) := hid hc2; have HX2 : Hid (Bx W w2 g1 g2 137 124 (two a b) En.zero.cs) := hid ⟨new_store HX.out.a hb2, new_store HX.out.b hb2, new_below HX.out.below hb2, HX.out.lh⟩; clear hc2 hb2 hs2)
  clear HX c0 c1 f1 f2 f3 f4 f5 wa wb
  generalize X.heap.size = g4 at *
  go_upto_region 4 with (first | (refine wpList_load_mid rfl 124 _ rfl g4 0 rfl _ _ H4.out.range underR rfl (by rw [sizeR]; rfl) ?_) | (go_at_call 97; refine (HE.out _).mono ?_; rintro e w3 ⟨rfl, hb3⟩; have HX3 := hid (HX2.out.on hb3); have H43 := hid (H4.out.on hb3); clear hb3) | (refine wpList_store_st rfl 137 _ _ rfl w3.heap.size (two v0 v1) rfl rfl (Cel.new w3 137 (two 0 0)) sizeA rfl rfl ?_; intro w4 hc4 hb4 hs4; have HK : Hid (R4 W w4 g1 g2 g4 w3.heap.size (two a b) En.zero.cs x (two v0 v1)) := hid ⟨new_store HX3.out.a hb4, new_store HX3.out.b hb4, new_store H43.out hb4, hc4, new_below HX3.out.below hb4, HX3.out.lh⟩; clear hc4 hb4 hs4))
  clear HX2 HX3 H4 H43 HE
  generalize w3.heap.size = g5 at *
  obtain ⟨hd1, hd2, hk1, hk2, hv1, hv2⟩ := HH.out
  clear HH
  cases hok : x.ok
  · have k1 := hk1 hok
    obtain ⟨k2, k3⟩ := hv1 (hd1 hok)
    subst k1 k2 k3
    clear hd1 hd2 hk1 hk2 hv1 hv2 hok
    go_wp2_with (refine wpList_store_st rfl 124 _ _ rfl g2 En.zero.cs rfl rfl HK.out.c2 sizeR rfl rfl ?_; intro w5 hc5 hb5 hs5; have HF := hid (HK.out.put hc5 hb5); clear hc5 hb5 hs5)
    exact ret_st2 rfl rfl g2 _ rfl HF.out.1 underR rfl sizeR ⟨rfl, HF.out.2⟩
  · have k1 := hk2 hok
    have k2 := hd2 hok
    subst k1 k2
    clear hd1 hd2 hk1 hk2 hok
    cases hs : same2 v0 v1 a b
    · obtain ⟨k2, k3⟩ := hv1 hs
      subst k2 k3
      clear hv1 hv2
      have HS := hid hs
      clear hs
      go_wp2_with (first | (refine wpList_load_g rfl 137 _ rfl g5 rfl HK.out.c5 rfl underA sizeA ?_) | (refine wpList_load_g rfl 137 _ rfl g1 rfl HK.out.c1 rfl underA sizeA ?_) | (refine wpList_ne rfl 137 _ _ rfl _ _ rfl rfl guardA false (by rw [← HS.out]; exact run_equalIn_two _ 9998 v0 v1 a b) ?_) | (refine wpList_store_st rfl 124 _ _ rfl g2 En.zero.cs rfl rfl HK.out.c2 sizeR rfl rfl ?_; intro w5 hc5 hb5 hs5; have HF := hid (HK.out.put hc5 hb5); clear hc5 hb5 hs5))
      exact ret_st2 rfl rfl g2 _ rfl HF.out.1 underR rfl sizeR ⟨rfl, HF.out.2⟩
    · obtain ⟨k2, k3⟩ := hv2 hs
      subst k2 k3
      clear hv1 hv2
      have HS := hid hs
      clear hs
      go_wp2_with (first | (refine wpList_load_g rfl 137 _ rfl g5 rfl HK.out.c5 rfl underA sizeA ?_) | (refine wpList_load_g rfl 137 _ rfl g1 rfl HK.out.c1 rfl underA sizeA ?_) | (refine wpList_load_g rfl 124 _ rfl g4 rfl HK.out.c4 rfl underR sizeR ?_) | (refine wpList_ne rfl 137 _ _ rfl _ _ rfl rfl guardA true (by rw [← HS.out]; exact run_equalIn_two _ 9998 v0 v1 a b) ?_) | (refine wpList_store_st rfl 124 _ _ rfl g2 D.cs rfl rfl HK.out.c2 sizeR rfl rfl ?_; intro w5 hc5 hb5 hs5; have HF := hid (HK.out.put hc5 hb5); clear hc5 hb5 hs5))
      exact ret_st2 rfl rfl g2 _ rfl HF.out.1 underR rfl sizeR ⟨rfl, HF.out.2⟩
end Go.Proofs.Ytajkhkaidjjioaa
