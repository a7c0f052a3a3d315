/- SpaceWords 3. -/
import Derived.Test.YtgbpbfnpeeciaaaX2
namespace Go.Proofs.Ytgbpbfnpeeciaaa
open Go.RowKit
set_option maxRecDepth 100000
set_option maxHeartbeats 4000000
theorem words_l (W : World) (va w : Int) (a b : Bool) (a0 : 0 ≤ va) (a1 : va < 4294967296) (w0 : 0 ≤ w) (w1 : w < 4294967296) :
    Calls Try.prog 3 #[.int .u32 va, .int .u32 w, .agg #[.bool a, .bool b]] W fun x W' => x = .returned (.bool true) ∧ Below W.heap.size W W' := by
  have HH := hid (fun W => head_any W)
  have HW := hid (fun W => word_any W ⟨va, a, b⟩ a0 a1)
  have HQ := hid (fun W => parse_any W w w0 w1)
  have B0 := hid (bag_one W 23 [.bool a, .bool b])
  have ea := and_low12 va a0 a1
  go_enter Try.func3, Try.ntmps3
  go_upto_region 1 with fail
  generalize W.alloc _ = X at *
  generalize hg : W.heap.size = g5 at B0 ⊢
  have HG := hid hg
  clear hg
  go_upto_region 3 with (first | (go_at_call 7; refine (HH.out _).mono ?_; rintro x w2 ⟨rfl, hb⟩; have B1 := hid (B0.out.on hb); clear hb))
  have c0 := (B1.out.get 0 rfl).cell 0
  have c1 := (B1.out.get 0 rfl).cell 1
  simp only [List.getElem?_cons_zero, List.getElem?_cons_succ] at c0 c1
  go_upto_region 4 with fail
  have B2 := hid (B1.out.new 26 [.int .u32 va, .bool a, .bool b])
  clear B0 B1 c0 c1 HH
  generalize w2.alloc _ = w3 at *
  generalize w2.heap.size = g7 at *
  simp only [Gm.v] at HW
  go_upto_region 5 with (first | (go_at_call 8; refine (HW.out _).mono ?_; rintro x w4 ⟨rfl, hb⟩; have B3 := hid (B2.out.on hb); clear hb) | (refine wpList_load_mid rfl 26 _ rfl g7 0 rfl _ _ ((B2.out.get 0 rfl).range) under26 rfl (by rw [size26]; rfl) ?_))
  clear B2 HW
  by_cases hok : (Gm.mk va a b).Ok
  · obtain ⟨k1, k2, k3, k4, k5, k6, k7, k8⟩ := Gm.back hok a0
    have hw := and_high _ k5 k6
    have hw1 := and_one _ k5 k6
    have hw2 := and_two _ k5 k6
    have hw4 := and_four _ k5 k6
    have n2 := b_ne ((Gm.mk va a b).w / 2) 2 (by decide)
    have n4 := b_ne ((Gm.mk va a b).w / 4) 4 (by decide)
    have HP := hid (fun W => parse_any W _ k5 k6)
    have e0 : (Gm.mk va a b).e = 0 := by rw [Gm.e, if_pos hok]
    obtain ⟨h1, h2⟩ := hok
    rw [gP_pos k1, k2, gPE, if_pos k1] at HP
    rw [k7] at n2
    rw [k8] at n4
    rw [k3] at hw
    rw [k4] at hw1
    simp only at h1 h2 n2 n4 hw hw1
    rw [e0]
    clear k1 k2 k3 k4 k7 k8 e0
    generalize (Gm.mk va a b).w = V at *
    simp only [Gm.v] at HP
    go_upto_region 8 with fail
    go_upto_region 9 with (first | (go_at_call 9; refine (HP.out _).mono ?_; rintro x w5 ⟨rfl, hb⟩; have B4 := hid ((B3.out.on hb).new 26 [.int .u32 va, .bool a, .bool b]); clear hb))
    generalize w5.alloc _ = w6 at *
    generalize w5.heap.size = g10 at *
    have c0 := (B4.out.get 2 rfl).cell 0
    have c1 := (B4.out.get 2 rfl).cell 1
    simp only [List.getElem?_cons_zero, List.getElem?_cons_succ] at c0 c1
    go_upto_region 13 with (first | (refine wpList_load_g rfl 26 _ rfl g10 rfl (B4.out.get 0 rfl) rfl under26 size26 ?_) | (refine wpList_load_g rfl 26 _ rfl g7 rfl (B4.out.get 1 rfl) rfl under26 size26 ?_))
    have HBb := hid B4.out.below
    clear B4
    by_cases hgw : Gw w
    · have hgi := (gG_iff w w0 w1).2 hgw
      have HQ2 := hid (fun W => word_any W (gG w) (by simp only [gG]; omega) (by simp only [gG]; omega))
      rw [gP_pos hgw, gPE, if_pos hgw] at HQ
      rw [hgi.1, hgi.2] at HQ2
      clear hgi hgw
      generalize gG w = m at *
      simp only [Gm.v] at HQ HQ2
      go_upto_region 14 with (first | (go_at_call 9; refine (HQ.out _).mono ?_; rintro x w7 ⟨rfl, hb⟩; have B5 := hid ((Bag.mk (L := []) (by simp) (below_on HBb.out hb)).new 26 [.int .u32 m.va, .bool m.wr, .bool m.ex]); clear hb))
      generalize w7.alloc _ = w8 at *
      generalize w7.heap.size = g12 at *
      go_upto_region 17 with (first | (go_at_call 8; refine (HQ2.out _).mono ?_; rintro x w9 ⟨rfl, hb⟩; have HE := hid (below_on B5.out.below hb); clear hb) | (refine wpList_load_g rfl 26 _ rfl g12 rfl (B5.out.get 0 rfl) rfl under26 size26 ?_))
      go_wp2_with fail
      go_returns
      exact ⟨rfl, HE.out⟩
    · rw [gP_neg hgw, gPE, if_neg hgw] at HQ
      simp only [Gm.v, Gm.z] at HQ
      have ho := and_one w w0 w1
      have hm := and_mid w w0 w1
      have hc : w % 2 = 0 ∨ (w % 2 = 1 ∧ bits .and .u32 w 4088 ≠ 0) ∨ (w % 2 = 1 ∧ bits .and .u32 w 4088 = 0 ∧ 1073741824 ≤ w) := by
        unfold Gw at hgw
        by_cases h1 : w % 2 = 0
        · exact .inl h1
        · by_cases h2 : bits .and .u32 w 4088 = 0
          · have : ¬ 8 ≤ w % 4096 := fun h => hm h h2
            exact .inr (.inr ⟨by omega, h2, by omega⟩)
          · exact .inr (.inl ⟨by omega, h2⟩)
      clear hm hgw
      go_upto_region 14 with (first | (go_at_call 9; refine (HQ.out _).mono ?_; rintro x w7 ⟨rfl, hb⟩; have B5 := hid ((Bag.mk (L := []) (by simp) (below_on HBb.out hb)).new 26 [.int .u32 0, .bool false, .bool false]); clear hb))
      generalize w7.alloc _ = w8 at *
      generalize w7.heap.size = g12 at *
      rcases hc with hc | ⟨hc, hd⟩ | ⟨hc, hd, he⟩
      all_goals go_wp2_with (first | (refine wpList_load_g rfl 26 _ rfl g12 rfl (B5.out.get 0 rfl) rfl under26 size26 ?_) | (refine wpList_build_z26 rfl rfl ?_))
      all_goals go_returns
      all_goals exact ⟨rfl, B5.out.below⟩
  · have e0 : (Gm.mk va a b).e = 91 := by rw [Gm.e, if_neg hok]
    have e1 : (Gm.mk va a b).w = 0 := by rw [Gm.w, if_neg hok]
    have hn : ¬ (va % 4096 = 0 ∧ va < 1073741824) := hok
    rw [e0, e1]
    clear e0 e1 hok
    have hn' : 1073741824 ≤ va ∨ (va < 1073741824 ∧ va % 4096 ≠ 0) := by omega
    clear hn
    rcases hn' with h1 | ⟨h1, h2⟩
    · go_upto_region 13 with fail
      have HBb := hid B3.out.below
      clear B3
      by_cases hgw : Gw w
      · have hgi := (gG_iff w w0 w1).2 hgw
        have HQ2 := hid (fun W => word_any W (gG w) (by simp only [gG]; omega) (by simp only [gG]; omega))
        rw [gP_pos hgw, gPE, if_pos hgw] at HQ
        rw [hgi.1, hgi.2] at HQ2
        clear hgi hgw
        generalize gG w = m at *
        simp only [Gm.v] at HQ HQ2
        go_upto_region 14 with (first | (go_at_call 9; refine (HQ.out _).mono ?_; rintro x w7 ⟨rfl, hb⟩; have B5 := hid ((Bag.mk (L := []) (by simp) (below_on HBb.out hb)).new 26 [.int .u32 m.va, .bool m.wr, .bool m.ex]); clear hb))
        generalize w7.alloc _ = w8 at *
        generalize w7.heap.size = g12 at *
        go_upto_region 17 with (first | (go_at_call 8; refine (HQ2.out _).mono ?_; rintro x w9 ⟨rfl, hb⟩; have HE := hid (below_on B5.out.below hb); clear hb) | (refine wpList_load_g rfl 26 _ rfl g12 rfl (B5.out.get 0 rfl) rfl under26 size26 ?_))
        go_wp2_with fail
        go_returns
        exact ⟨rfl, HE.out⟩
      · rw [gP_neg hgw, gPE, if_neg hgw] at HQ
        simp only [Gm.v, Gm.z] at HQ
        have ho := and_one w w0 w1
        have hm := and_mid w w0 w1
        have hc : w % 2 = 0 ∨ (w % 2 = 1 ∧ bits .and .u32 w 4088 ≠ 0) ∨ (w % 2 = 1 ∧ bits .and .u32 w 4088 = 0 ∧ 1073741824 ≤ w) := by
          unfold Gw at hgw
          by_cases h1 : w % 2 = 0
          · exact .inl h1
          · by_cases h2 : bits .and .u32 w 4088 = 0
            · have : ¬ 8 ≤ w % 4096 := fun h => hm h h2
              exact .inr (.inr ⟨by omega, h2, by omega⟩)
            · exact .inr (.inl ⟨by omega, h2⟩)
        clear hm hgw
        go_upto_region 14 with (first | (go_at_call 9; refine (HQ.out _).mono ?_; rintro x w7 ⟨rfl, hb⟩; have B5 := hid ((Bag.mk (L := []) (by simp) (below_on HBb.out hb)).new 26 [.int .u32 0, .bool false, .bool false]); clear hb))
        generalize w7.alloc _ = w8 at *
        generalize w7.heap.size = g12 at *
        rcases hc with hc | ⟨hc, hd⟩ | ⟨hc, hd, he⟩
        all_goals go_wp2_with (first | (refine wpList_load_g rfl 26 _ rfl g12 rfl (B5.out.get 0 rfl) rfl under26 size26 ?_) | (refine wpList_build_z26 rfl rfl ?_))
        all_goals go_returns
        all_goals exact ⟨rfl, B5.out.below⟩
    · go_upto_region 13 with fail
      have HBb := hid B3.out.below
      clear B3
      by_cases hgw : Gw w
      · have hgi := (gG_iff w w0 w1).2 hgw
        have HQ2 := hid (fun W => word_any W (gG w) (by simp only [gG]; omega) (by simp only [gG]; omega))
        rw [gP_pos hgw, gPE, if_pos hgw] at HQ
        rw [hgi.1, hgi.2] at HQ2
        clear hgi hgw
        generalize gG w = m at *
        simp only [Gm.v] at HQ HQ2
        go_upto_region 14 with (first | (go_at_call 9; refine (HQ.out _).mono ?_; rintro x w7 ⟨rfl, hb⟩; have B5 := hid ((Bag.mk (L := []) (by simp) (below_on HBb.out hb)).new 26 [.int .u32 m.va, .bool m.wr, .bool m.ex]); clear hb))
        generalize w7.alloc _ = w8 at *
        generalize w7.heap.size = g12 at *
        go_upto_region 17 with (first | (go_at_call 8; refine (HQ2.out _).mono ?_; rintro x w9 ⟨rfl, hb⟩; have HE := hid (below_on B5.out.below hb); clear hb) | (refine wpList_load_g rfl 26 _ rfl g12 rfl (B5.out.get 0 rfl) rfl under26 size26 ?_))
        go_wp2_with fail
        go_returns
        exact ⟨rfl, HE.out⟩
      · rw [gP_neg hgw, gPE, if_neg hgw] at HQ
        simp only [Gm.v, Gm.z] at HQ
        have ho := and_one w w0 w1
        have hm := and_mid w w0 w1
        have hc : w % 2 = 0 ∨ (w % 2 = 1 ∧ bits .and .u32 w 4088 ≠ 0) ∨ (w % 2 = 1 ∧ bits .and .u32 w 4088 = 0 ∧ 1073741824 ≤ w) := by
          unfold Gw at hgw
          by_cases h1 : w % 2 = 0
          · exact .inl h1
          · by_cases h2 : bits .and .u32 w 4088 = 0
            · have : ¬ 8 ≤ w % 4096 := fun h => hm h h2
              exact .inr (.inr ⟨by omega, h2, by omega⟩)
            · exact .inr (.inl ⟨by omega, h2⟩)
        clear hm hgw
        go_upto_region 14 with (first | (go_at_call 9; refine (HQ.out _).mono ?_; rintro x w7 ⟨rfl, hb⟩; have B5 := hid ((Bag.mk (L := []) (by simp) (below_on HBb.out hb)).new 26 [.int .u32 0, .bool false, .bool false]); clear hb))
        generalize w7.alloc _ = w8 at *
        generalize w7.heap.size = g12 at *
        rcases hc with hc | ⟨hc, hd⟩ | ⟨hc, hd, he⟩
        all_goals go_wp2_with (first | (refine wpList_load_g rfl 26 _ rfl g12 rfl (B5.out.get 0 rfl) rfl under26 size26 ?_) | (refine wpList_build_z26 rfl rfl ?_))
        all_goals go_returns
        all_goals exact ⟨rfl, B5.out.below⟩
end Go.Proofs.Ytgbpbfnpeeciaaa
