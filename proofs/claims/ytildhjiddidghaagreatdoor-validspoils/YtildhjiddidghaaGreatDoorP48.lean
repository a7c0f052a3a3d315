import Derived.Test.YtildhjiddidghaaGreatDoorP46
import Derived.Test.YtildhjiddidghaaGreatDoorP47
namespace Go.Proofs.YtildhjiddidghaaGreatDoor
open Go.RowKit
set_option maxHeartbeats 4000000
set_option maxRecDepth 100000
theorem flat6 : ∀ (l : List Aq) (j : Nat), j < l.length → ∀ i, i < 6 → (l.flatMap Aq.cs)[j * 6 + i]? = (l.getD j ac0).cs[i]?
  | [], j, hj, _, _ => absurd hj (by simp)
  | a :: l, 0, _, i, hi => by
    rw [List.flatMap_cons, List.getElem?_append_left (by simp [Aq.cs]; omega), Nat.zero_mul, Nat.zero_add]; rfl
  | a :: l, j + 1, hj, i, hi => by
    have hl : a.cs.length = 6 := rfl
    rw [List.flatMap_cons, List.getElem?_append_right (by rw [hl]; omega), hl, show (j + 1) * 6 + i - 6 = j * 6 + i by omega, flat6 l j (by simpa using hj) i hi]
    simp
theorem acs_row {x : World} {ga : Nat} (h : Cel x ga 42 (acs.flatMap Aq.cs)) {j : Nat} (hj : j < 12) : x.rangeAt ga (j * 6) (acs.getD j ac0).cs := fun i u hu => by
  have hi : i < 6 := (List.getElem?_eq_some_iff.1 hu).1
  rw [h.cell, flat6 acs j hj i hi]
  exact hu
theorem acb (W w : World) (hT : H.Tab W) (hR : H.TabR W) (h2 : 2 < W.heap.size) (g : Nat) (p : Dp) (r : Rp) (d : DS) (L : List BxT) (hL : ∀ y ∈ L, y.2.1 = 42) (h : SB W w g p r d d L) (q : Aq) (hk : q.k = 1 ∨ q.k = 2 ∨ q.k = 7 ∨ q.k = 8) (v0 : 0 ≤ q.v) (v1 : q.v < 4294967296) :
    Calls Tryz.prog 11 #[.pointer (some ⟨g, 0, none⟩), .agg q.cs.toArray] w fun e w' => e = .returned (.bool true) ∧ ∃ r', SB W w' g p r' (d.ac q) (d.ac q) L := by
  obtain ⟨k, a, b, c, v, uo, un, uc⟩ := q
  rcases hk with e | e | e | e <;> (simp only at e; subst e)
  · exact actb_1 W w g p r d L h a b c v _
  · exact actb_2 W w g p r d L h a b c v _
  · exact actb_7 W w g p r d L h a b c v _
  · exact actb_8 W w hT hR h2 g p r d L hL h a b c v v0 v1 uo un uc
theorem acs_ok : ∀ j, j < 12 → ((acs.getD j ac0).k = 1 ∨ (acs.getD j ac0).k = 2 ∨ (acs.getD j ac0).k = 7 ∨ (acs.getD j ac0).k = 8) ∧ 0 ≤ (acs.getD j ac0).v ∧ (acs.getD j ac0).v < 4294967296 := fun j hj => by
  have : j = 0 ∨ j = 1 ∨ j = 2 ∨ j = 3 ∨ j = 4 ∨ j = 5 ∨ j = 6 ∨ j = 7 ∨ j = 8 ∨ j = 9 ∨ j = 10 ∨ j = 11 := by omega
  rcases this with rfl | rfl | rfl | rfl | rfl | rfl | rfl | rfl | rfl | rfl | rfl | rfl <;> (simp [acs])
def DS.wz (d : DS) : Nat → DS
  | 0 => d
  | k + 1 => { d.wz k with m := (d.wz k).m.write true 0 (11 + (k : Int)) 0 }
def bs1 : DS := DS.state { (bd 12).wz 26 with m := ((bd 12).wz 26).m.write true 0 3 4660 } 0 2
def bs2 : DS := bs1.state 0 3
theorem built_0 (W : World) (hT : H.Tab W) (hR : H.TabR W) (h2 : 2 < W.heap.size) :
    Calls Tryz.prog 6 #[.int .i64 0] W fun e w' => ∃ g p r, e = .returned (.pointer (some ⟨g, 0, none⟩)) ∧ SS W w' g p r (bd 12) (bd 12) := by
  have HB := hid (begun_l W 7 1)
  have HA := hid (fun w g p r j (hj : j < 12) L (hL : ∀ y ∈ L, y.2.1 = 42) (h : SB W w g p r (bd j) (bd j) L) => acb W w hT hR h2 g p r (bd j) L hL h (acs.getD j ac0) (acs_ok j hj).1 (acs_ok j hj).2.1 (acs_ok j hj).2.2)
  have HBd : Hid (∀ j, (bd j).ac (acs.getD j ac0) = bd (j + 1)) := hid (fun _ => rfl)
  simp only [HBd.out] at HA
  have H0 : Hid (DS.begun 7 1 = bd 0) := hid rfl
  rw [H0.out] at HB
  clear hT hR h2 HBd H0
  go_enter Tryz.func6, Tryz.ntmps6
  go_upto_region 4 with (go_at_call 9; refine HB.out.mono ?_; rintro e w1 ⟨g, p, r, rfl, hs1⟩; have S1 := hid (SB.mk (L := []) hs1 (by simp) (by simp)); clear hs1 HB)
  go_cut [4] (fun v x => ∃ ga, v = .slice (some ⟨ga, 0, none⟩) 12 12 ∧ Hid (SB W x g p r (bd 0) (bd 0) [(ga, 42, acs.flatMap Aq.cs)]))
  case first =>
    go_wp2_with fail
    go_meet
    exact ⟨w1.heap.size, rfl, hid (S1.out.cons 42 (acs.flatMap Aq.cs) rfl)⟩
  case rest =>
    obtain ⟨ga, rfl, S2⟩ := hcut
    clear S1
    go_upto_region 6 with fail
    go_loopw [5] (fun i wr => ∃ (j : Nat) (r2 : Rp), j ≤ 12 ∧ i = .int .i64 (j : Int) ∧ Hid (SB W wr g p r2 (bd j) (bd j) [(ga, 42, acs.flatMap Aq.cs)])) (fun i _ => 12 - (intOf i).toNat)
    case atStart => exact ⟨0, r, by omega, rfl, S2⟩
    case round =>
      obtain ⟨j, r2, hj, rfl, HS⟩ := hrel
      clear S2
      by_cases hlt : j < 12
      · have q1 : (j : Int) < 12 := by omega
        have HRow := hid (acs_row (HS.out.get 0 rfl) hlt)
        have HAj := hid (HA.out _ g p r2 j hlt [(ga, 42, acs.flatMap Aq.cs)] (by intro y hy; rw [List.mem_singleton] at hy; subst hy; rfl) HS.out)
        have HJ := hid hlt
        clear hlt hj
        generalize acs.getD j ac0 = q at *
        go_wp2_with (first | (refine H.wpList_load_mid rfl 42 _ rfl ga (j * 6) rfl _ _ HRow.out under42 rfl (by rw [size42]; rfl) ?_) | (go_at_call 11; refine HAj.out.mono ?_; rintro e w3 ⟨rfl, r3, hs3⟩; have S3 := hid hs3; clear hs3))
        go_roundw
        case measure => have := HJ.out; simp [intOf] <;> omega
        case rel => exact ⟨j + 1, r3, HJ.out, by simp, S3⟩
      · obtain rfl : j = 12 := by omega
        clear hlt hj HA
        go_wp2_with fail
        go_ret
        exact ⟨g, p, r2, rfl, HS.out.ss⟩
theorem built_1 (W : World) (hT : H.Tab W) (hR : H.TabR W) (h2 : 2 < W.heap.size) :
    Calls Tryz.prog 6 #[.int .i64 1] W fun e w' => ∃ g p r, e = .returned (.pointer (some ⟨g, 0, none⟩)) ∧ SS W w' g p r (bs1) (bs1) := by
  have HB := hid (begun_l W 7 1)
  have HA := hid (fun w g p r j (hj : j < 12) L (hL : ∀ y ∈ L, y.2.1 = 42) (h : SB W w g p r (bd j) (bd j) L) => acb W w hT hR h2 g p r (bd j) L hL h (acs.getD j ac0) (acs_ok j hj).1 (acs_ok j hj).2.1 (acs_ok j hj).2.2)
  have HBd : Hid (∀ j, (bd j).ac (acs.getD j ac0) = bd (j + 1)) := hid (fun _ => rfl)
  simp only [HBd.out] at HA
  have H0 : Hid (DS.begun 7 1 = bd 0) := hid rfl
  rw [H0.out] at HB
  clear hT hR h2 HBd H0
  go_enter Tryz.func6, Tryz.ntmps6
  go_upto_region 4 with (go_at_call 9; refine HB.out.mono ?_; rintro e w1 ⟨g, p, r, rfl, hs1⟩; have S1 := hid (SB.mk (L := []) hs1 (by simp) (by simp)); clear hs1 HB)
  go_cut [4] (fun v x => ∃ ga, v = .slice (some ⟨ga, 0, none⟩) 12 12 ∧ Hid (SB W x g p r (bd 0) (bd 0) [(ga, 42, acs.flatMap Aq.cs)]))
  case first =>
    go_wp2_with fail
    go_meet
    exact ⟨w1.heap.size, rfl, hid (S1.out.cons 42 (acs.flatMap Aq.cs) rfl)⟩
  case rest =>
    obtain ⟨ga, rfl, S2⟩ := hcut
    clear S1
    go_upto_region 6 with fail
    go_loopw [5] (fun i wr => ∃ (j : Nat) (r2 : Rp), j ≤ 12 ∧ i = .int .i64 (j : Int) ∧ Hid (SB W wr g p r2 (bd j) (bd j) [(ga, 42, acs.flatMap Aq.cs)])) (fun i _ => 12 - (intOf i).toNat)
    case atStart => exact ⟨0, r, by omega, rfl, S2⟩
    case round =>
      obtain ⟨j, r2, hj, rfl, HS⟩ := hrel
      clear S2
      by_cases hlt : j < 12
      · have q1 : (j : Int) < 12 := by omega
        have HRow := hid (acs_row (HS.out.get 0 rfl) hlt)
        have HAj := hid (HA.out _ g p r2 j hlt [(ga, 42, acs.flatMap Aq.cs)] (by intro y hy; rw [List.mem_singleton] at hy; subst hy; rfl) HS.out)
        have HJ := hid hlt
        clear hlt hj
        generalize acs.getD j ac0 = q at *
        go_wp2_with (first | (refine H.wpList_load_mid rfl 42 _ rfl ga (j * 6) rfl _ _ HRow.out under42 rfl (by rw [size42]; rfl) ?_) | (go_at_call 11; refine HAj.out.mono ?_; rintro e w3 ⟨rfl, r3, hs3⟩; have S3 := hid hs3; clear hs3))
        go_roundw
        case measure => have := HJ.out; simp [intOf] <;> omega
        case rel => exact ⟨j + 1, r3, HJ.out, by simp, S3⟩
      · obtain rfl : j = 12 := by omega
        clear hlt hj HA
        have HWr := hid (fun w r d (h : SB W w g p r d d [(ga, 42, acs.flatMap Aq.cs)]) off v => write_b W w g p r d _ h 0 off v)
        have HSt := hid (fun w r d (h : SB W w g p r d d [(ga, 42, acs.flatMap Aq.cs)]) s => actb_5 W w g p r d _ h 0 s 0 0 (.slice none 0 0))
        go_upto_region 12 with fail
        generalize hd0 : bd 12 = d0 at *
        go_loopw [6] (fun i wr => ∃ (k : Nat) (r3 : Rp), k ≤ 26 ∧ i = .int .i64 (11 + (k : Int)) ∧ Hid (SB W wr g p r3 (d0.wz k) (d0.wz k) [(ga, 42, acs.flatMap Aq.cs)])) (fun i _ => 37 - (intOf i).toNat)
        case atStart => exact ⟨0, r2, by omega, by simp, HS⟩
        case round =>
          obtain ⟨k, r3, hk, rfl, HZ⟩ := hrel
          clear HS
          by_cases hlt : k < 26
          · have q1 : (11 : Int) + (k : Int) < 37 := by omega
            have hwq : IntKind.wrap .i64 (11 + (k : Int) + 1) = 11 + (k : Int) + 1 := wr64 _ (by omega) (by omega)
            have HK := hid hlt
            have HWk := hid (HWr.out _ r3 _ HZ.out (11 + (k : Int)) 0)
            clear hlt hk
            go_wp2_with (go_at_call 8; refine HWk.out.mono ?_; rintro e w4 ⟨rfl, r4, hs4⟩; have S4 := hid hs4; clear hs4)
            go_roundw
            case measure => have := HK.out; simp [intOf] <;> omega
            case rel => first | exact ⟨k + 1, r4, HK.out, by simp [Int.add_assoc], S4⟩ | ((repeat apply Exists.intro); refine ⟨?_, rfl⟩; exact ⟨k + 1, r4, HK.out, by simp [Int.add_assoc], S4⟩)
          · obtain rfl : k = 26 := by omega
            clear hlt hk
            have HW3 := hid (HWr.out _ r3 _ HZ.out 3 4660)
            have HD1 : Hid (DS.state { d0.wz 26 with m := (d0.wz 26).m.write true 0 3 4660 } 0 2 = bs1) := hid (by unfold bs1; rw [hd0])
            generalize hdz : ({ d0.wz 26 with m := (d0.wz 26).m.write true 0 3 4660 } : DS) = dz at *
            clear hdz
            go_wp2_with (first | (go_at_call 8; refine HW3.out.mono ?_; rintro e w5 ⟨rfl, r5, hs5⟩; have S5 := hid hs5; have HSt1 := hid (HSt.out _ r5 _ S5.out 2); clear hs5 HW3; rw [HD1.out] at HSt1) | (go_at_call 11; refine HSt1.out.mono ?_; rintro e w6 ⟨rfl, r6, hs6⟩; have S6 := hid hs6; clear hs6 HSt1))
            go_ret
            exact ⟨g, p, _, rfl, S6.out.ss⟩
theorem built_2 (W : World) (hT : H.Tab W) (hR : H.TabR W) (h2 : 2 < W.heap.size) :
    Calls Tryz.prog 6 #[.int .i64 2] W fun e w' => ∃ g p r, e = .returned (.pointer (some ⟨g, 0, none⟩)) ∧ SS W w' g p r (bs2) (bs2) := by
  have HB := hid (begun_l W 7 1)
  have HA := hid (fun w g p r j (hj : j < 12) L (hL : ∀ y ∈ L, y.2.1 = 42) (h : SB W w g p r (bd j) (bd j) L) => acb W w hT hR h2 g p r (bd j) L hL h (acs.getD j ac0) (acs_ok j hj).1 (acs_ok j hj).2.1 (acs_ok j hj).2.2)
  have HBd : Hid (∀ j, (bd j).ac (acs.getD j ac0) = bd (j + 1)) := hid (fun _ => rfl)
  simp only [HBd.out] at HA
  have H0 : Hid (DS.begun 7 1 = bd 0) := hid rfl
  rw [H0.out] at HB
  clear hT hR h2 HBd H0
  go_enter Tryz.func6, Tryz.ntmps6
  go_upto_region 4 with (go_at_call 9; refine HB.out.mono ?_; rintro e w1 ⟨g, p, r, rfl, hs1⟩; have S1 := hid (SB.mk (L := []) hs1 (by simp) (by simp)); clear hs1 HB)
  go_cut [4] (fun v x => ∃ ga, v = .slice (some ⟨ga, 0, none⟩) 12 12 ∧ Hid (SB W x g p r (bd 0) (bd 0) [(ga, 42, acs.flatMap Aq.cs)]))
  case first =>
    go_wp2_with fail
    go_meet
    exact ⟨w1.heap.size, rfl, hid (S1.out.cons 42 (acs.flatMap Aq.cs) rfl)⟩
  case rest =>
    obtain ⟨ga, rfl, S2⟩ := hcut
    clear S1
    go_upto_region 6 with fail
    go_loopw [5] (fun i wr => ∃ (j : Nat) (r2 : Rp), j ≤ 12 ∧ i = .int .i64 (j : Int) ∧ Hid (SB W wr g p r2 (bd j) (bd j) [(ga, 42, acs.flatMap Aq.cs)])) (fun i _ => 12 - (intOf i).toNat)
    case atStart => exact ⟨0, r, by omega, rfl, S2⟩
    case round =>
      obtain ⟨j, r2, hj, rfl, HS⟩ := hrel
      clear S2
      by_cases hlt : j < 12
      · have q1 : (j : Int) < 12 := by omega
        have HRow := hid (acs_row (HS.out.get 0 rfl) hlt)
        have HAj := hid (HA.out _ g p r2 j hlt [(ga, 42, acs.flatMap Aq.cs)] (by intro y hy; rw [List.mem_singleton] at hy; subst hy; rfl) HS.out)
        have HJ := hid hlt
        clear hlt hj
        generalize acs.getD j ac0 = q at *
        go_wp2_with (first | (refine H.wpList_load_mid rfl 42 _ rfl ga (j * 6) rfl _ _ HRow.out under42 rfl (by rw [size42]; rfl) ?_) | (go_at_call 11; refine HAj.out.mono ?_; rintro e w3 ⟨rfl, r3, hs3⟩; have S3 := hid hs3; clear hs3))
        go_roundw
        case measure => have := HJ.out; simp [intOf] <;> omega
        case rel => exact ⟨j + 1, r3, HJ.out, by simp, S3⟩
      · obtain rfl : j = 12 := by omega
        clear hlt hj HA
        have HWr := hid (fun w r d (h : SB W w g p r d d [(ga, 42, acs.flatMap Aq.cs)]) off v => write_b W w g p r d _ h 0 off v)
        have HSt := hid (fun w r d (h : SB W w g p r d d [(ga, 42, acs.flatMap Aq.cs)]) s => actb_5 W w g p r d _ h 0 s 0 0 (.slice none 0 0))
        go_upto_region 12 with fail
        generalize hd0 : bd 12 = d0 at *
        go_loopw [6] (fun i wr => ∃ (k : Nat) (r3 : Rp), k ≤ 26 ∧ i = .int .i64 (11 + (k : Int)) ∧ Hid (SB W wr g p r3 (d0.wz k) (d0.wz k) [(ga, 42, acs.flatMap Aq.cs)])) (fun i _ => 37 - (intOf i).toNat)
        case atStart => exact ⟨0, r2, by omega, by simp, HS⟩
        case round =>
          obtain ⟨k, r3, hk, rfl, HZ⟩ := hrel
          clear HS
          by_cases hlt : k < 26
          · have q1 : (11 : Int) + (k : Int) < 37 := by omega
            have hwq : IntKind.wrap .i64 (11 + (k : Int) + 1) = 11 + (k : Int) + 1 := wr64 _ (by omega) (by omega)
            have HK := hid hlt
            have HWk := hid (HWr.out _ r3 _ HZ.out (11 + (k : Int)) 0)
            clear hlt hk
            go_wp2_with (go_at_call 8; refine HWk.out.mono ?_; rintro e w4 ⟨rfl, r4, hs4⟩; have S4 := hid hs4; clear hs4)
            go_roundw
            case measure => have := HK.out; simp [intOf] <;> omega
            case rel => first | exact ⟨k + 1, r4, HK.out, by simp [Int.add_assoc], S4⟩ | ((repeat apply Exists.intro); refine ⟨?_, rfl⟩; exact ⟨k + 1, r4, HK.out, by simp [Int.add_assoc], S4⟩)
          · obtain rfl : k = 26 := by omega
            clear hlt hk
            have HW3 := hid (HWr.out _ r3 _ HZ.out 3 4660)
            have HD1 : Hid (DS.state { d0.wz 26 with m := (d0.wz 26).m.write true 0 3 4660 } 0 2 = bs1) := hid (by unfold bs1; rw [hd0])
            have HD2 : Hid (bs1.state 0 3 = bs2) := hid rfl
            generalize hdz : ({ d0.wz 26 with m := (d0.wz 26).m.write true 0 3 4660 } : DS) = dz at *
            clear hdz
            go_wp2_with (first | (go_at_call 8; refine HW3.out.mono ?_; rintro e w5 ⟨rfl, r5, hs5⟩; have S5 := hid hs5; have HSt1 := hid (HSt.out _ r5 _ S5.out 2); clear hs5 HW3; rw [HD1.out] at HSt1) | (go_at_call 11; refine HSt1.out.mono ?_; rintro e w6 ⟨rfl, r6, hs6⟩; have S6 := hid hs6; clear hs6 HSt1; have HSt2 := hid (HSt.out _ r6 _ S6.out 3); rw [HD2.out] at HSt2) | (go_at_call 11; refine HSt2.out.mono ?_; rintro e w7 ⟨rfl, r7, hs7⟩; have S7 := hid hs7; clear hs7))
            go_ret
            exact ⟨g, p, _, rfl, S7.out.ss⟩
end Go.Proofs.YtildhjiddidghaaGreatDoor
