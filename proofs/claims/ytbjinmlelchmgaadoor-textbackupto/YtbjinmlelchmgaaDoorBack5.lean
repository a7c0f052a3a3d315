/- TextBack (5): its walk. -/
import Derived.Test.YtbjinmlelchmgaaDoorBackA
import Derived.Test.YtbjinmlelchmgaaDoorBackH
import Derived.Deep.DeepCutAuto
namespace Go.Proofs.YtbjinmlelchmgaaDoor
open Go.RowKit

set_option maxRecDepth 40000 in
set_option maxHeartbeats 4000000 in
theorem back_any (W : World) (htab : PowTab W) (u : Nat) (hu : u < 4294967296) (n : Int) (h0 : -2147483648 ≤ n) (h1 : n ≤ 2147483647) (s : ByteArray) (hs : s.size ≤ 1048576) :
    Calls Tryd.prog 5 #[.int .u32 (u : Int), .int .i32 n, .string s] W fun e W' => e = .returned (.bool true) ∧ Below W.heap.size W W' := by
  obtain ⟨A, Bx, C, Q, K⟩ := tools u hu n h0 h1 s hs
  obtain ⟨x, i, N1, N2⟩ := num_case s hs
  have HN1 : Hid _ := N1
  have HN2 : Hid _ := N2
  clear N1 N2
  have HP : Hid (PowTab W) := htab
  clear htab
  have b1 : (s.size : Int) ≤ 1048576 := by omega
  have sB := K.sizeB
  have sq1 := K.q1
  have sq2 := K.q2
  have KH : Hid (Tools u n s A Bx C Q) := K
  clear K
  go_enter Tryd.func5, Tryd.ntmps5
  go_wp2_with fail
  refine (head_any W HP.out).mono ?_
  rintro e w1 ⟨rfl, B1⟩
  go_wp2_with fail
  refine (KH.out.tens _ (HP.out.on B1)).mono ?_
  rintro e w2 ⟨rfl, hb⟩
  have B2 := B1.trans (hb.mono B1.size)
  clear hb B1
  go_wp2_with fail
  refine (KH.out.numA _).mono ?_
  rintro e w' ⟨rfl, rfl⟩
  go_wp2_with fail
  refine (KH.out.hexd _).mono ?_
  rintro e w3 ⟨rfl, hb⟩
  have B3 := B2.trans (hb.mono B2.size)
  clear hb B2
  go_wp2_with fail
  refine (KH.out.numB _).mono ?_
  rintro e w' ⟨rfl, rfl⟩
  go_wp2_with fail
  refine (KH.out.minus _ (HP.out.on B3)).mono ?_
  rintro e w4 ⟨rfl, hb⟩
  have B4 := B3.trans (hb.mono B3.size)
  clear hb B3
  go_wp2_with fail
  refine (KH.out.sgn _).mono ?_
  rintro e w' ⟨rfl, rfl⟩
  go_wp2_with fail
  refine (KH.out.hexd _).mono ?_
  rintro e w5 ⟨rfl, hb⟩
  have B5 := B4.trans (hb.mono B4.size)
  clear hb B4
  obtain ⟨w6, g, cap, hcb, hb6, hat⟩ := bytes_of w5 s
  have B6 := B5.trans (hb6.mono B5.size)
  have HAT : Hid (AtB w6 (some ⟨g, 0, none⟩) s.data.toList) := hat
  clear hat hb6
  go_wp2_with fail
  refine (KH.out.quote _ _ _ HAT.out).mono ?_
  rintro e w7 ⟨rfl, hb⟩
  have B7 := B6.trans (hb.mono B6.size)
  clear hb B6 B5 hcb HAT
  go_wp2_with fail
  refine (KH.out.unq _).mono ?_
  rintro e w8 ⟨ao, cc, rfl, hb, hcv⟩
  have B8 := B7.trans (hb.mono B7.size)
  clear hb B7
  go_wp2_with fail
  go_loopw [16] (fun t wr => ∃ p : Nat, p ≤ Q.size ∧ t = .int .i64 p ∧ w8 = wr) (fun t _ => Q.size - (intOf t).toNat)
  case atStart => exact ⟨0, Nat.zero_le _, rfl, rfl⟩
  case round =>
    obtain ⟨p, hp, rfl, rfl⟩ := hrel
    have c1 : (p : Int) ≤ (Q.size : Int) := by omega
    by_cases hlt : p < Q.size
    · clear HN1 HN2
      have c2 : (p : Int) < (Q.size : Int) := by omega
      obtain ⟨q1, q2, q3⟩ := KH.out.qb p hlt
      have d1 : (32 : Int) ≤ Q[p].toNat := by omega
      have d2 : (Q[p].toNat : Int) ≤ 126 := by omega
      by_cases h34 : Q[p].toNat = 34
      · have e34 : ((Q[p].toNat : Int) == 34) = true := by rw [h34]; rfl
        by_cases hp0 : p = 0
        · have e0 : ((p : Int) != 0) = false := by rw [hp0]; rfl
          clear q1 q2 q3 h34 hp0
          go_wp2_with fail
          exact ⟨⟨p + 1, by omega, by go_num, trivial⟩, by simp [intOf]; omega⟩
        · have e0 : ((p : Int) != 0) = true := by rw [bne_iff_ne]; omega
          have hpq : p + 1 = Q.size := by
            rcases q3 h34 with h | h
            · exact absurd h hp0
            · exact h
          have e1 : ((p : Int) != (Q.size : Int) - 1) = false := by rw [bne_eq_false_iff_eq]; omega
          clear q1 q2 q3 h34 hp0 hpq
          go_wp2_with fail
          exact ⟨⟨p + 1, by omega, by go_num, trivial⟩, by simp [intOf]; omega⟩
      · have e34 : ((Q[p].toNat : Int) == 34) = false := by simp; omega
        clear q1 q2 q3 h34
        go_wp2_with fail
        exact ⟨⟨p + 1, by omega, by go_num, trivial⟩, by simp [intOf]; omega⟩
    · obtain rfl : p = Q.size := by omega
      have HB8 : Hid (Below W.heap.size W w8) := B8
      clear B8 KH hcv
      go_upto_region 17 with fail
      go_cut [17, 18] (fun p q w => p = .int .u32 x ∧ q = .int .i64 i ∧ w8 = w)
      case first =>
        go_wp2_with fail
        refine (HN1.out _).mono ?_
        rintro e w' ⟨rfl, rfl⟩
        go_wp2_with fail
        go_meet
        exact ⟨rfl, rfl, rfl⟩
      case rest =>
        obtain ⟨rfl, rfl, rfl⟩ := hcut
        rcases HN2.out with ⟨rfl, rfl⟩ | ⟨rfl, h⟩ | ⟨rfl, A2, H, h⟩
        · exact (‹∀ (a : Act) (w : World), Code.wp Tryd.prog _ _ a w → _› _ _ (backN W _ HB8.out HP.out s hs))
        · exact (‹∀ (a : Act) (w : World), Code.wp Tryd.prog _ _ a w → _› _ _ (backT W _ HB8.out HP.out s hs _ h))
        · exact (‹∀ (a : Act) (w : World), Code.wp Tryd.prog _ _ a w → _› _ _ (backH W _ HB8.out HP.out s hs _ A2 H h))
end Go.Proofs.YtbjinmlelchmgaaDoor
