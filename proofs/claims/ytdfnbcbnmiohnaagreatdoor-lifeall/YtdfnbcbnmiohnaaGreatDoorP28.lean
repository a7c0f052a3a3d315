import Derived.Test.YtdfnbcbnmiohnaaGreatDoorP22
import Derived.Test.YtdfnbcbnmiohnaaGreatDoorP01
import Derived.RangeFuncNested
import Derived.RangeFuncLeaves
import Derived.RangeFuncBound
import Derived.RangeFuncCalls
import Derived.Shelf.Abstract
import Derived.Shelf.RegionOpen
import Derived.OwnWalkIn
import Derived.TacticsInMore
import Derived.LoopNIn
import Derived.LoopIn
import Derived.Test.YtdfnbcbnmiohnaaGreatDoorP25
namespace Go.Proofs.YtdfnbcbnmiohnaaGreatDoor
open Go.RowKit
set_option maxHeartbeats 8000000
set_option maxRecDepth 100000
theorem chk_nok {x : En} (h : ¬ x.Ok) : chk x = 110 := by
  unfold chk
  rw [if_neg (fun hk => h (x.ok_iff.1 hk))]
theorem chk_ok {x : En} (h : x.Ok) : chk x = 0 := chk_yes (x.ok_iff.2 h)
theorem rcheck_any (W : World) (x : En) : Calls Tryz.prog 149 #[x.v] W fun e W' => e = .returned (.int .i64 (chk x)) ∧ Below W.heap.size W W' := by
  have HC := hid (Cel.new W 144 x.cs)
  have HB := hid (below_one W (.cells x.cs.toArray 144))
  obtain ⟨t, o, r, s, e⟩ := x
  simp only [En.v, En.cs] at *
  by_cases n1 : t < 0
  · have HK : Hid (chk ⟨t, o, r, s, e⟩ = 110) := hid (chk_nok (by rintro ⟨t0, t1, o0, o1, r0, r1, s0, s1, z, sp, ns, en⟩; simp at * <;> omega))
    go_enter Tryz.func149, Tryz.ntmps149
    go_upto_region 1 with fail
    generalize hX : World.alloc _ _ = X at *
    clear hX
    generalize W.heap.size = g1 at HC ⊢
    have c0 := HC.out.cell 0
    have c1 := HC.out.cell 1
    have c2 := HC.out.cell 2
    have c3 := HC.out.cell 3
    have c4 := HC.out.cell 4
    simp only [xzD, xzE] at c0 c1 c2 c3 c4
    go_wp2_with fail
    go_ret
    exact ⟨by rw [HK.out]; rfl, HB.out⟩
  by_cases n2 : 6 < t
  · have HK : Hid (chk ⟨t, o, r, s, e⟩ = 110) := hid (chk_nok (by rintro ⟨t0, t1, o0, o1, r0, r1, s0, s1, z, sp, ns, en⟩; simp at * <;> omega))
    go_enter Tryz.func149, Tryz.ntmps149
    go_upto_region 1 with fail
    generalize hX : World.alloc _ _ = X at *
    clear hX
    generalize W.heap.size = g1 at HC ⊢
    have c0 := HC.out.cell 0
    have c1 := HC.out.cell 1
    have c2 := HC.out.cell 2
    have c3 := HC.out.cell 3
    have c4 := HC.out.cell 4
    simp only [xzD, xzE] at c0 c1 c2 c3 c4
    go_wp2_with fail
    go_ret
    exact ⟨by rw [HK.out]; rfl, HB.out⟩
  by_cases n3 : o < 0
  · have HK : Hid (chk ⟨t, o, r, s, e⟩ = 110) := hid (chk_nok (by rintro ⟨t0, t1, o0, o1, r0, r1, s0, s1, z, sp, ns, en⟩; simp at * <;> omega))
    go_enter Tryz.func149, Tryz.ntmps149
    go_upto_region 1 with fail
    generalize hX : World.alloc _ _ = X at *
    clear hX
    generalize W.heap.size = g1 at HC ⊢
    have c0 := HC.out.cell 0
    have c1 := HC.out.cell 1
    have c2 := HC.out.cell 2
    have c3 := HC.out.cell 3
    have c4 := HC.out.cell 4
    simp only [xzD, xzE] at c0 c1 c2 c3 c4
    go_wp2_with fail
    go_ret
    exact ⟨by rw [HK.out]; rfl, HB.out⟩
  by_cases n4 : 63 < o
  · have HK : Hid (chk ⟨t, o, r, s, e⟩ = 110) := hid (chk_nok (by rintro ⟨t0, t1, o0, o1, r0, r1, s0, s1, z, sp, ns, en⟩; simp at * <;> omega))
    go_enter Tryz.func149, Tryz.ntmps149
    go_upto_region 1 with fail
    generalize hX : World.alloc _ _ = X at *
    clear hX
    generalize W.heap.size = g1 at HC ⊢
    have c0 := HC.out.cell 0
    have c1 := HC.out.cell 1
    have c2 := HC.out.cell 2
    have c3 := HC.out.cell 3
    have c4 := HC.out.cell 4
    simp only [xzD, xzE] at c0 c1 c2 c3 c4
    go_wp2_with fail
    go_ret
    exact ⟨by rw [HK.out]; rfl, HB.out⟩
  by_cases n5 : r < 0
  · have HK : Hid (chk ⟨t, o, r, s, e⟩ = 110) := hid (chk_nok (by rintro ⟨t0, t1, o0, o1, r0, r1, s0, s1, z, sp, ns, en⟩; simp at * <;> omega))
    go_enter Tryz.func149, Tryz.ntmps149
    go_upto_region 1 with fail
    generalize hX : World.alloc _ _ = X at *
    clear hX
    generalize W.heap.size = g1 at HC ⊢
    have c0 := HC.out.cell 0
    have c1 := HC.out.cell 1
    have c2 := HC.out.cell 2
    have c3 := HC.out.cell 3
    have c4 := HC.out.cell 4
    simp only [xzD, xzE] at c0 c1 c2 c3 c4
    go_wp2_with fail
    go_ret
    exact ⟨by rw [HK.out]; rfl, HB.out⟩
  by_cases n6 : 63 < r
  · have HK : Hid (chk ⟨t, o, r, s, e⟩ = 110) := hid (chk_nok (by rintro ⟨t0, t1, o0, o1, r0, r1, s0, s1, z, sp, ns, en⟩; simp at * <;> omega))
    go_enter Tryz.func149, Tryz.ntmps149
    go_upto_region 1 with fail
    generalize hX : World.alloc _ _ = X at *
    clear hX
    generalize W.heap.size = g1 at HC ⊢
    have c0 := HC.out.cell 0
    have c1 := HC.out.cell 1
    have c2 := HC.out.cell 2
    have c3 := HC.out.cell 3
    have c4 := HC.out.cell 4
    simp only [xzD, xzE] at c0 c1 c2 c3 c4
    go_wp2_with fail
    go_ret
    exact ⟨by rw [HK.out]; rfl, HB.out⟩
  by_cases k0 : t = 0
  · subst k0
    by_cases j1 : o = 0
    · subst j1
      by_cases j2 : r = 0
      · subst j2
        by_cases j3 : s = 0
        · subst j3
          rcases e with _ | _
          · have HK : Hid (chk ⟨0, 0, 0, 0, false⟩ = 0) := hid (chk_ok ⟨by simp <;> omega, by simp <;> omega, by simp <;> omega, by simp <;> omega, by simp <;> omega, by simp <;> omega, by simp <;> omega, by simp <;> omega, by simp <;> omega, by simp <;> omega, by simp <;> omega, by simp <;> omega⟩)
            go_enter Tryz.func149, Tryz.ntmps149
            go_upto_region 1 with fail
            generalize hX : World.alloc _ _ = X at *
            clear hX
            generalize W.heap.size = g1 at HC ⊢
            have c0 := HC.out.cell 0
            have c1 := HC.out.cell 1
            have c2 := HC.out.cell 2
            have c3 := HC.out.cell 3
            have c4 := HC.out.cell 4
            simp only [xzD, xzE] at c0 c1 c2 c3 c4
            go_wp2_with fail
            go_ret
            exact ⟨by rw [HK.out]; rfl, HB.out⟩
          · have HK : Hid (chk ⟨0, 0, 0, 0, true⟩ = 110) := hid (chk_nok (by rintro ⟨t0, t1, o0, o1, r0, r1, s0, s1, z, sp, ns, en⟩; simp at * <;> omega))
            go_enter Tryz.func149, Tryz.ntmps149
            go_upto_region 1 with fail
            generalize hX : World.alloc _ _ = X at *
            clear hX
            generalize W.heap.size = g1 at HC ⊢
            have c0 := HC.out.cell 0
            have c1 := HC.out.cell 1
            have c2 := HC.out.cell 2
            have c3 := HC.out.cell 3
            have c4 := HC.out.cell 4
            simp only [xzD, xzE] at c0 c1 c2 c3 c4
            go_wp2_with fail
            go_ret
            exact ⟨by rw [HK.out]; rfl, HB.out⟩
        · have j3' : (s == 0) = false := by simpa using j3
          have HK : Hid (chk ⟨0, 0, 0, s, e⟩ = 110) := hid (chk_nok (by rintro ⟨t0, t1, o0, o1, r0, r1, s0, s1, z, sp, ns, en⟩; simp at * <;> omega))
          go_enter Tryz.func149, Tryz.ntmps149
          go_upto_region 1 with fail
          generalize hX : World.alloc _ _ = X at *
          clear hX
          generalize W.heap.size = g1 at HC ⊢
          have c0 := HC.out.cell 0
          have c1 := HC.out.cell 1
          have c2 := HC.out.cell 2
          have c3 := HC.out.cell 3
          have c4 := HC.out.cell 4
          simp only [xzD, xzE] at c0 c1 c2 c3 c4
          go_wp2_with fail
          go_ret
          exact ⟨by rw [HK.out]; rfl, HB.out⟩
      · have j2' : (r == 0) = false := by simpa using j2
        have HK : Hid (chk ⟨0, 0, r, s, e⟩ = 110) := hid (chk_nok (by rintro ⟨t0, t1, o0, o1, r0, r1, s0, s1, z, sp, ns, en⟩; simp at * <;> omega))
        go_enter Tryz.func149, Tryz.ntmps149
        go_upto_region 1 with fail
        generalize hX : World.alloc _ _ = X at *
        clear hX
        generalize W.heap.size = g1 at HC ⊢
        have c0 := HC.out.cell 0
        have c1 := HC.out.cell 1
        have c2 := HC.out.cell 2
        have c3 := HC.out.cell 3
        have c4 := HC.out.cell 4
        simp only [xzD, xzE] at c0 c1 c2 c3 c4
        go_wp2_with fail
        go_ret
        exact ⟨by rw [HK.out]; rfl, HB.out⟩
    · have j1' : (o == 0) = false := by simpa using j1
      have HK : Hid (chk ⟨0, o, r, s, e⟩ = 110) := hid (chk_nok (by rintro ⟨t0, t1, o0, o1, r0, r1, s0, s1, z, sp, ns, en⟩; simp at * <;> omega))
      go_enter Tryz.func149, Tryz.ntmps149
      go_upto_region 1 with fail
      generalize hX : World.alloc _ _ = X at *
      clear hX
      generalize W.heap.size = g1 at HC ⊢
      have c0 := HC.out.cell 0
      have c1 := HC.out.cell 1
      have c2 := HC.out.cell 2
      have c3 := HC.out.cell 3
      have c4 := HC.out.cell 4
      simp only [xzD, xzE] at c0 c1 c2 c3 c4
      go_wp2_with fail
      go_ret
      exact ⟨by rw [HK.out]; rfl, HB.out⟩
  have k0' : (t == 0) = false := by simpa using k0
  by_cases k1 : t = 1
  · subst k1
    rcases e with _ | _
    · by_cases j1 : s < 1
      · have HK : Hid (chk ⟨1, o, r, s, false⟩ = 110) := hid (chk_nok (by rintro ⟨t0, t1, o0, o1, r0, r1, s0, s1, z, sp, ns, en⟩; simp at * <;> omega))
        go_enter Tryz.func149, Tryz.ntmps149
        go_upto_region 1 with fail
        generalize hX : World.alloc _ _ = X at *
        clear hX
        generalize W.heap.size = g1 at HC ⊢
        have c0 := HC.out.cell 0
        have c1 := HC.out.cell 1
        have c2 := HC.out.cell 2
        have c3 := HC.out.cell 3
        have c4 := HC.out.cell 4
        simp only [xzD, xzE] at c0 c1 c2 c3 c4
        go_wp2_with fail
        go_ret
        exact ⟨by rw [HK.out]; rfl, HB.out⟩
      by_cases j2 : 3 < s
      · have HK : Hid (chk ⟨1, o, r, s, false⟩ = 110) := hid (chk_nok (by rintro ⟨t0, t1, o0, o1, r0, r1, s0, s1, z, sp, ns, en⟩; simp at * <;> omega))
        go_enter Tryz.func149, Tryz.ntmps149
        go_upto_region 1 with fail
        generalize hX : World.alloc _ _ = X at *
        clear hX
        generalize W.heap.size = g1 at HC ⊢
        have c0 := HC.out.cell 0
        have c1 := HC.out.cell 1
        have c2 := HC.out.cell 2
        have c3 := HC.out.cell 3
        have c4 := HC.out.cell 4
        simp only [xzD, xzE] at c0 c1 c2 c3 c4
        go_wp2_with fail
        go_ret
        exact ⟨by rw [HK.out]; rfl, HB.out⟩
      · have HK : Hid (chk ⟨1, o, r, s, false⟩ = 0) := hid (chk_ok ⟨by simp <;> omega, by simp <;> omega, by simp <;> omega, by simp <;> omega, by simp <;> omega, by simp <;> omega, by simp <;> omega, by simp <;> omega, by simp <;> omega, by simp <;> omega, by simp <;> omega, by simp <;> omega⟩)
        go_enter Tryz.func149, Tryz.ntmps149
        go_upto_region 1 with fail
        generalize hX : World.alloc _ _ = X at *
        clear hX
        generalize W.heap.size = g1 at HC ⊢
        have c0 := HC.out.cell 0
        have c1 := HC.out.cell 1
        have c2 := HC.out.cell 2
        have c3 := HC.out.cell 3
        have c4 := HC.out.cell 4
        simp only [xzD, xzE] at c0 c1 c2 c3 c4
        go_wp2_with fail
        go_ret
        exact ⟨by rw [HK.out]; rfl, HB.out⟩
    · have HK : Hid (chk ⟨1, o, r, s, true⟩ = 110) := hid (chk_nok (by rintro ⟨t0, t1, o0, o1, r0, r1, s0, s1, z, sp, ns, en⟩; simp at * <;> omega))
      go_enter Tryz.func149, Tryz.ntmps149
      go_upto_region 1 with fail
      generalize hX : World.alloc _ _ = X at *
      clear hX
      generalize W.heap.size = g1 at HC ⊢
      have c0 := HC.out.cell 0
      have c1 := HC.out.cell 1
      have c2 := HC.out.cell 2
      have c3 := HC.out.cell 3
      have c4 := HC.out.cell 4
      simp only [xzD, xzE] at c0 c1 c2 c3 c4
      go_wp2_with fail
      go_ret
      exact ⟨by rw [HK.out]; rfl, HB.out⟩
  have k1' : (t == 1) = false := by simpa using k1
  by_cases j2 : r = 0
  · subst j2
    by_cases j3 : s = 0
    · subst j3
      by_cases k2 : t = 2
      · subst k2
        rcases e with _ | _
        · have HK : Hid (chk ⟨2, o, 0, 0, false⟩ = 0) := hid (chk_ok ⟨by simp <;> omega, by simp <;> omega, by simp <;> omega, by simp <;> omega, by simp <;> omega, by simp <;> omega, by simp <;> omega, by simp <;> omega, by simp <;> omega, by simp <;> omega, by simp <;> omega, by simp <;> omega⟩)
          go_enter Tryz.func149, Tryz.ntmps149
          go_upto_region 1 with fail
          generalize hX : World.alloc _ _ = X at *
          clear hX
          generalize W.heap.size = g1 at HC ⊢
          have c0 := HC.out.cell 0
          have c1 := HC.out.cell 1
          have c2 := HC.out.cell 2
          have c3 := HC.out.cell 3
          have c4 := HC.out.cell 4
          simp only [xzD, xzE] at c0 c1 c2 c3 c4
          go_wp2_with fail
          go_ret
          exact ⟨by rw [HK.out]; rfl, HB.out⟩
        · have HK : Hid (chk ⟨2, o, 0, 0, true⟩ = 0) := hid (chk_ok ⟨by simp <;> omega, by simp <;> omega, by simp <;> omega, by simp <;> omega, by simp <;> omega, by simp <;> omega, by simp <;> omega, by simp <;> omega, by simp <;> omega, by simp <;> omega, by simp <;> omega, by simp <;> omega⟩)
          go_enter Tryz.func149, Tryz.ntmps149
          go_upto_region 1 with fail
          generalize hX : World.alloc _ _ = X at *
          clear hX
          generalize W.heap.size = g1 at HC ⊢
          have c0 := HC.out.cell 0
          have c1 := HC.out.cell 1
          have c2 := HC.out.cell 2
          have c3 := HC.out.cell 3
          have c4 := HC.out.cell 4
          simp only [xzD, xzE] at c0 c1 c2 c3 c4
          go_wp2_with fail
          go_ret
          exact ⟨by rw [HK.out]; rfl, HB.out⟩
      · have k2' : (t == 2) = false := by simpa using k2
        rcases e with _ | _
        · have HK : Hid (chk ⟨t, o, 0, 0, false⟩ = 0) := hid (chk_ok ⟨by simp <;> omega, by simp <;> omega, by simp <;> omega, by simp <;> omega, by simp <;> omega, by simp <;> omega, by simp <;> omega, by simp <;> omega, by simp <;> omega, by simp <;> omega, by simp <;> omega, by simp <;> omega⟩)
          go_enter Tryz.func149, Tryz.ntmps149
          go_upto_region 1 with fail
          generalize hX : World.alloc _ _ = X at *
          clear hX
          generalize W.heap.size = g1 at HC ⊢
          have c0 := HC.out.cell 0
          have c1 := HC.out.cell 1
          have c2 := HC.out.cell 2
          have c3 := HC.out.cell 3
          have c4 := HC.out.cell 4
          simp only [xzD, xzE] at c0 c1 c2 c3 c4
          go_wp2_with fail
          go_ret
          exact ⟨by rw [HK.out]; rfl, HB.out⟩
        · have HK : Hid (chk ⟨t, o, 0, 0, true⟩ = 110) := hid (chk_nok (by rintro ⟨t0, t1, o0, o1, r0, r1, s0, s1, z, sp, ns, en⟩; simp at * <;> omega))
          go_enter Tryz.func149, Tryz.ntmps149
          go_upto_region 1 with fail
          generalize hX : World.alloc _ _ = X at *
          clear hX
          generalize W.heap.size = g1 at HC ⊢
          have c0 := HC.out.cell 0
          have c1 := HC.out.cell 1
          have c2 := HC.out.cell 2
          have c3 := HC.out.cell 3
          have c4 := HC.out.cell 4
          simp only [xzD, xzE] at c0 c1 c2 c3 c4
          go_wp2_with fail
          go_ret
          exact ⟨by rw [HK.out]; rfl, HB.out⟩
    · have j3' : (s == 0) = false := by simpa using j3
      have HK : Hid (chk ⟨t, o, 0, s, e⟩ = 110) := hid (chk_nok (by rintro ⟨t0, t1, o0, o1, r0, r1, s0, s1, z, sp, ns, en⟩; simp at * <;> omega))
      go_enter Tryz.func149, Tryz.ntmps149
      go_upto_region 1 with fail
      generalize hX : World.alloc _ _ = X at *
      clear hX
      generalize W.heap.size = g1 at HC ⊢
      have c0 := HC.out.cell 0
      have c1 := HC.out.cell 1
      have c2 := HC.out.cell 2
      have c3 := HC.out.cell 3
      have c4 := HC.out.cell 4
      simp only [xzD, xzE] at c0 c1 c2 c3 c4
      go_wp2_with fail
      go_ret
      exact ⟨by rw [HK.out]; rfl, HB.out⟩
  · have j2' : (r == 0) = false := by simpa using j2
    have HK : Hid (chk ⟨t, o, r, s, e⟩ = 110) := hid (chk_nok (by rintro ⟨t0, t1, o0, o1, r0, r1, s0, s1, z, sp, ns, en⟩; simp at * <;> omega))
    go_enter Tryz.func149, Tryz.ntmps149
    go_upto_region 1 with fail
    generalize hX : World.alloc _ _ = X at *
    clear hX
    generalize W.heap.size = g1 at HC ⊢
    have c0 := HC.out.cell 0
    have c1 := HC.out.cell 1
    have c2 := HC.out.cell 2
    have c3 := HC.out.cell 3
    have c4 := HC.out.cell 4
    simp only [xzD, xzE] at c0 c1 c2 c3 c4
    go_wp2_with fail
    go_ret
    exact ⟨by rw [HK.out]; rfl, HB.out⟩
end Go.Proofs.YtdfnbcbnmiohnaaGreatDoor
namespace Go.Proofs.YtdfnbcbnmiohnaaGreatDoor
open Go.RowKit
set_option maxHeartbeats 8000000
set_option maxRecDepth 100000
theorem rencode_any (W : World) (x : En) : Calls Tryz.prog 133 #[x.v] W fun e W' => e = .returned (.tuple #[twoV (e0 x) (e1 x), .int .i64 (chk x)]) ∧ Below W.heap.size W W' := by
  have HX := hid (Bx.new W 144 162 x.cs (two 0 0))
  have HK := hid (fun W => rcheck_any W x)
  cases hok : x.ok
  · have hc : chk x = 110 := by simp [chk, hok]
    have h0 : e0 x = 0 := by simp [e0, hok]
    have h1 : e1 x = 0 := by simp [e1, hok]
    rw [hc] at HK
    rw [hc, h0, h1]
    clear hc h0 h1 hok
    simp only [twoV, two, En.v] at *
    go_enter Tryz.func133, Tryz.ntmps133
    go_upto_region 1 with fail
    generalize hX : (W.alloc _).alloc _ = X at *
    clear hX
    generalize W.heap.size + 1 = g2 at *
    generalize W.heap.size = g1 at *
    go_wp2_with (first | (refine wpList_load_mid rfl 144 _ rfl g1 0 rfl _ _ HX.out.a.range underR rfl (by rw [sizeR]; rfl) ?_) | (go_at_call 149; refine (HK.out _).mono ?_; rintro e w1 ⟨rfl, hb1⟩; have HX1 := hid (HX.out.on hb1); clear hb1) | (refine wpList_store_st rfl 162 _ _ rfl g2 (two 0 0) rfl rfl HX1.out.b sizeA rfl rfl ?_; intro w2 hc2 hb2 hs2; have HF := hid (HX1.out.put hc2 hb2); clear hc2 hb2 hs2))
    exact ret_st2 rfl rfl g2 _ rfl HF.out.1 underA rfl sizeA ⟨rfl, HF.out.2⟩
  · have hO := x.ok_iff.1 hok
    have hc : chk x = 0 := by simp [chk, hok]
    have h0 : e0 x = x.w := by simp [e0, hok]
    have h1 : e1 x = x.r := by simp [e1, hok]
    have q2 : x.r % 4294967296 = x.r := by have := hO.r0; have := hO.r1; omega
    have q3 : x.e = false → x.w = x.t + 16 * x.s + 65536 * x.o := fun he => by rw [En.w, he]; simp
    have q4 : x.e = true → x.w = x.t + 16 * x.s + 65536 * x.o + 256 := fun he => by rw [En.w, he]; simp
    have q5 := En.w_range hO
    have b0 := hO.t0
    have b1 := hO.t1
    have b2 := hO.o0
    have b3 := hO.o1
    have b4 := hO.s0
    have b5 := hO.s1
    rw [hc] at HK
    rw [hc, h0, h1]
    clear hc h0 h1 hok hO
    simp only [twoV, two, En.v] at HX HK ⊢
    generalize x.w = xw at *
    obtain ⟨t, o, r, s, e⟩ := x
    simp only [En.cs] at *
    go_enter Tryz.func133, Tryz.ntmps133
    go_upto_region 1 with fail
    generalize hX : (W.alloc _).alloc _ = X at *
    clear hX
    generalize W.heap.size + 1 = g2 at *
    generalize W.heap.size = g1 at *
    have HQ := hid (And.intro q3 q4)
    clear q3 q4
    go_upto_region 2 with (first | (refine wpList_load_mid rfl 144 _ rfl g1 0 rfl _ _ HX.out.a.range underR rfl (by rw [sizeR]; rfl) ?_) | (go_at_call 149; refine (HK.out _).mono ?_; rintro e1 w1 ⟨rfl, hb1⟩; have HX1 := hid (HX.out.on hb1); clear hb1))
    have c0 := HX1.out.a.cell 0
    have c1 := HX1.out.a.cell 1
    have c2 := HX1.out.a.cell 2
    have c3 := HX1.out.a.cell 3
    have c4 := HX1.out.a.cell 4
    simp only [xzD, xzE] at c0 c1 c2 c3 c4
    obtain ⟨q3, q4⟩ := HQ.out
    clear HQ
    cases e
    · have q6 := q3 rfl
      subst q6
      clear q3 q4
      go_wp2_with (refine wpList_store_st rfl 162 _ _ rfl g2 [Value.int .u32 (t + 16 * s + 65536 * o), .int .u32 r] rfl rfl HX1.out.b sizeA rfl rfl ?_; intro w2 hc2 hb2 hs2; have HF := hid (HX1.out.put hc2 hb2); clear hc2 hb2 hs2)
      exact ret_st2 rfl rfl g2 _ rfl HF.out.1 underA rfl sizeA ⟨rfl, HF.out.2⟩
    · have q6 := q4 rfl
      subst q6
      clear q3 q4
      go_wp2_with (refine wpList_store_st rfl 162 _ _ rfl g2 [Value.int .u32 (t + 16 * s + 65536 * o + 256), .int .u32 r] rfl rfl HX1.out.b sizeA rfl rfl ?_; intro w2 hc2 hb2 hs2; have HF := hid (HX1.out.put hc2 hb2); clear hc2 hb2 hs2)
      exact ret_st2 rfl rfl g2 _ rfl HF.out.1 underA rfl sizeA ⟨rfl, HF.out.2⟩
structure R4 (W x : World) (g1 g2 g4 g5 : Nat) (a b : List Value) (y : En) (c : List Value) : Prop where
  c1 : Cel x g1 162 a
  c2 : Cel x g2 144 b
  c4 : Cel x g4 144 y.cs
  c5 : Cel x g5 162 c
  below : Below W.heap.size W x
  l2 : W.heap.size ≤ g2
theorem R4.put {W x x' : World} {g1 g2 g4 g5 : Nat} {a b c es : List Value} {y : En} (k : R4 W x g1 g2 g4 g5 a b y c) (hc : Cel x' g2 144 es) (hb : ButL [g2] x x') : Cel x' g2 144 es ∧ Below W.heap.size W x' :=
  ⟨hc, k.below.trans (hb.below (B := W.heap.size) (by simpa using k.l2) k.below.size)⟩
end Go.Proofs.YtdfnbcbnmiohnaaGreatDoor
namespace Go.Proofs.YtdfnbcbnmiohnaaGreatDoor
open Go.RowKit
theorem yield_of {F : Fence} {n : Nat} {P : Program} {l : Nat} {r : Loop} {args : Array Value} {W : World} {R : Ending → World → Prop} (hF : F.fn r.fn) (hl : W.heap[l]? = some (.loop r)) (hst : r.state = .ready) (hp : r.pending = none) (hs : args.size = r.params.size)
    (h : r.assign.wpIn (F.inRound l) n P (Exit.then (fun a₁ w₁ => w₁.heap[l]? = some (.loop r) ∧ r.body.wpIn (F.inRound l) n P (fun e _ w₃ => e = .normal ∧ w₃.heap[l]? = some (.loop { r with state := .busy }) ∧ R (.returned (.bool true)) (w₃.putObj l (.loop r))) a₁ (w₁.putObj l (.loop { r with state := .busy }))) (fun _ _ _ => False))
      { tmps := (r.params.zip args).foldl (fun t (p, v) => t.setIfInBounds p v) r.tmps, defers := [] } W) : YieldAt F n P l args W R := by
  have hrr : ({ ({ r with state := .busy } : Loop) with state := .ready, pending := none } : Loop) = r := by
    cases r
    simp only at hst hp
    subst hst hp
    rfl
  refine ⟨r.fn, _, r.assign, r.body, run_yield hl hs, roundIn_of_wpIn hF (wpIn_mono h ?_)⟩
  rintro e a1 w1 hq
  cases e with
  | normal =>
    obtain ⟨h1, hb⟩ := hq
    refine ⟨_, run_beginRound h1 hst, wpIn_mono hb ?_⟩
    rintro e2 a3 w3 ⟨rfl, h3, hR⟩
    have he := run_endRound (P := P) none h3
    simp only [Option.isNone_none, if_true] at he
    rw [hrr] at he
    exact ⟨_, _, he, hR⟩
  | exit id => exact hq.elim
  | goto t => exact hq.elim
  | ret => exact hq.elim
  | panic c => exact hq.elim
  | outgrown => exact hq.elim
def recOf (fn : FuncId) (tmps : Array Value) (ps : Array Tmp) (assign body : Code) (D : Nat) : Loop := { state := .ready, pending := none, fn := fn, tmps := tmps, params := ps, assign := assign, body := body, defers := D }

theorem range_out {F : Fence} {n : Nat} {P : Program} {g : Operand} {ps : Array Tmp} {assign body : Code} {Q : Exit → Act → World → Prop} {a : Act} {w : World} (hro : F.round = none) (hd : F.depth = none) {gf : Nat} {lb : Array Value} (hg : a.eval g = .func (.func gf) #[] lb) (hF : F.fn gf) (eg : ∀ args w, (callFunc gf args).run P w = .ok (.enter gf args) w)
    (h : ∀ fn, F.fn fn → CallsIn F (n - 1) P gf (#[.func (.yield (w.heap.size + 1)) #[] #[]] ++ lb) ((w.alloc (.deferred (some []))).alloc (.loop (recOf fn a.tmps ps assign body w.heap.size))) fun e W2 => (∃ v, e = .returned v) ∧ W2.heap[w.heap.size + 1]? = some (.loop (recOf fn a.tmps ps assign body w.heap.size)) ∧
      Q .normal { a with defers := { target := .collected w.heap.size, args := #[] } :: a.defers } (W2.putObj (w.heap.size + 1) (.loop { recOf fn a.tmps ps assign body w.heap.size with state := .exhausted }))) :
    (Code.rangeFunc g ps assign body).wpIn F n P Q a w := by
  refine wpIn_rangeFunc ?_
  intro fn hfn
  rw [hro]
  have hh := h fn hfn
  obtain ⟨W1, hW1⟩ : ∃ W1, (w.alloc (.deferred (some []))).alloc (.loop (recOf fn a.tmps ps assign body w.heap.size)) = W1 := ⟨_, rfl⟩
  rw [hW1] at hh
  refine ⟨w.heap.size + 1, [{ target := .collected w.heap.size, args := #[] }], W1, { target := .fn (.func gf) lb, args := #[.func (.yield (w.heap.size + 1)) #[] #[]] }, W1, gf,
    #[.func (.yield (w.heap.size + 1)) #[] #[]] ++ lb, W1, ?_, ?_, ?_, ?_, ?_, ?_⟩
  · rw [← hW1]; exact run_enterLoop_outer _ _ _ _ _
  · simp only [resolve, hg]
    simp [go_sem]
  · intro f' hf'; simp [Target.leads] at hf'; subst hf'; exact hF
  · simp [invoke, go_sem, eg]
  · intro hh; rw [hd] at hh; cases hh
  · refine CallsIn.mono hh ?_
    rintro e W2 ⟨⟨v, rfl⟩, hl, hq⟩
    exact ⟨none, _, run_endLoop hl (by simp [recOf]), hq⟩

def Ob (W : World) (k : Nat) (o : Obj) : Prop := W.heap[k]? = some o
theorem Ob.lt {W : World} {k : Nat} {o : Obj} (h : Ob W k o) : k < W.heap.size := (Array.getElem?_eq_some_iff.1 h).1
theorem Ob.on {W W' : World} {k : Nat} {o : Obj} (h : Ob W k o) (hb : Below W.heap.size W W') : Ob W' k o := (hb.block k h.lt).trans h
theorem Ob.but {W W' : World} {k : Nat} {o : Obj} {G : List Nat} (h : Ob W k o) (hb : ButL G W W') (hk : k ∉ G) : Ob W' k o := (hb.block k h.lt hk).trans h
def box (v : Value) (t : TypeId) : Obj := .cells #[v] t (0, 0)
theorem Ob.cell {W : World} {k : Nat} {v : Value} {t : TypeId} (h : Ob W k (box v t)) : W.cell? ⟨k, 0, none⟩ = some v := by
  rw [cell_of_row W k 0 _ t (0, 0) h]; rfl
theorem Ob.free {W : World} {k : Nat} {v : Value} {t : TypeId} (h : Ob W k (box v t)) : W.frozen? ⟨k, 0, none⟩ = false := frozen_of_row W k 0 _ t h
theorem putObj_but (W : World) (k : Nat) (o : Obj) : ButL [k] W (W.putObj k o) :=
  ⟨rfl, rfl, rfl, by simp [World.putObj], fun j _ hj => World.putObj_heap_other (by rw [List.mem_singleton] at hj; exact hj)⟩
theorem Ob.put {W : World} {k : Nat} {o : Obj} (h : Ob W k o) (o' : Obj) : Ob (W.putObj k o') k o' := World.putObj_heap_same h.lt
theorem Ob.ne {W : World} {j k : Nat} {o o' : Obj} (h : Ob W j o) (h' : Ob W k o') (hn : o.isCells ≠ o'.isCells) : j ≠ k := by
  rintro rfl
  unfold Ob at h h'
  rw [h] at h'
  cases h'
  exact hn rfl
theorem DB.ob {W : World} {p : Dp} {d : DS} (h : DB W p d) {k : Nat} {o : Obj} (ho : Ob W k o) (hn : o.isCells = false) : k ∉ p.all := by
  intro hk
  have hc : ∃ cs t, Cel W k t cs := by
    simp only [Dp.all, Fp.all, List.mem_cons] at hk
    rcases hk with rfl | rfl | rfl | rfl | rfl | hk
    · exact ⟨_, _, h.cel⟩
    · exact ⟨_, _, h.wds⟩
    · exact ⟨_, _, h.mem.cel⟩
    · exact ⟨_, _, h.mem.sec⟩
    · exact ⟨_, _, h.mem.ins⟩
    · obtain ⟨i, hi, rfl⟩ := List.mem_iff_getElem.1 hk
      have hi' : i < d.m.P.length := by rw [← h.mem.len]; exact hi
      have := h.mem.pg i hi'
      unfold Fp.b at this
      rw [List.getD_eq_getElem?_getD, List.getElem?_eq_getElem hi] at this
      exact ⟨_, _, this⟩
  obtain ⟨cs, t, hc⟩ := hc
  unfold Cel at hc
  rw [show W.heap[k]? = some o from ho] at hc
  cases hc
  cases hn
def busyOf (r : Loop) : Loop := { r with state := .busy }
theorem yield_b {n l : Nat} {r : Loop} {args : Array Value} {W : World} {R : Ending → World → Prop} (hl : Ob W l (.loop r)) (hst : r.state = .ready) (hp : r.pending = none) (hs : args.size = r.params.size)
    (h : r.assign.wpIn (Fence.wide.inRound l) n Tryz.prog (Exit.then (fun a₁ w₁ => Ob w₁ l (.loop r) ∧ r.body.wpIn (Fence.wide.inRound l) n Tryz.prog (fun e _ w₃ => e = .normal ∧ Ob w₃ l (.loop (busyOf r)) ∧ R (.returned (.bool true)) (w₃.putObj l (.loop r))) a₁ (w₁.putObj l (.loop (busyOf r)))) (fun _ _ _ => False))
      { tmps := (r.params.zip args).foldl (fun t (p, v) => t.setIfInBounds p v) r.tmps, defers := [] } W) : YieldAt .wide n Tryz.prog l args W R := yield_of trivial hl hst hp hs h
end Go.Proofs.YtdfnbcbnmiohnaaGreatDoor
