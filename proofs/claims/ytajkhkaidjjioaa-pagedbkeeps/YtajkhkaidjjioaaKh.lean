/- PagedbKeeps 4. -/
import Derived.Test.YtajkhkaidjjioaaKu
namespace Go.Proofs.Ytajkhkaidjjioaa
open Go.RowKit
set_option maxHeartbeats 8000000
set_option maxRecDepth 100000
theorem keeps_l (W : World) (ao : Option Addr) (n c : Nat) (q : Nat → Oq) (hq : OpsAt W ao n q) (times : Int) (t0 : -9223372036854775808 ≤ times) (t1 : times ≤ 9223372036854775807) :
    Calls Try.prog 4 #[.slice ao n c, .int .i64 times] W fun e W' => e = .returned (.bool true) ∧ Below W.heap.size W W' := by
  have HQ := hid hq
  have HB := hid (fun W => begun_any W)
  have HC := hid (fun w p d (hw : DB w p d) o => call_any w p d hw o)
  have HTS := hid (fun w p d (hw : DB w p d) => takeSpace_any w p d hw 3 4)
  have HTk := hid (fun w p d (hw : DB w p d) => take_any w p d hw 5 2 3)
  have HW := hid (fun w p d (hw : DB w p d) => words_any w p d hw)
  have HTm := hid (And.intro t0 t1)
  clear hq t0 t1
  simp only [ptr, Oq.val] at *
  go_enter Try.func4, Try.ntmps4
  go_upto_region 4 with (go_at_call 7; refine (HB.out _).mono ?_; rintro e w1 ⟨p, P, c1, rfl, hn, hl⟩; have HM := hid hn; clear hn hl)
  clear HB
  obtain ⟨P2, c2, ek1, ek2⟩ := kb1 P c1
  obtain ⟨ek3, ek4⟩ := kb2 P2 c2
  go_upto_region 5 with (go_at_call 18; refine (HTS.out _ _ _ HM.out.db).mono ?_; rw [ek1, ek2]; rintro e w2 ⟨rfl, hd, hb⟩; have HM2 := hid (HM.out.step hd hb); clear hd hb HM)
  go_upto_region 6 with (go_at_call 19; refine (HTk.out _ _ _ HM2.out.db).mono ?_; rw [ek3, ek4]; rintro e w3 ⟨rfl, hd, hb⟩; have HM3 := hid (HM2.out.step hd hb); clear hd hb HM2)
  have HV0 := hid (KV.start P2 c2)
  clear ek1 ek2 ek3 ek4 HTS HTk
  generalize (⟨⟨8, P2, c2⟩, 2, e8b⟩ : DS) = d0 at *
  go_upto_region 7 with fail
  go_loopw [9] (fun i wr => ∃ (j : Nat) (d : DS), j ≤ min n 20 ∧ i = .int .i64 (j : Int) ∧ Hid (KV d) ∧ Hid (NewDB W wr p d)) (fun i _ => min n 20 - (intOf i).toNat)
  case atStart => exact ⟨0, d0, Nat.zero_le _, rfl, HV0, HM3⟩
  case round =>
    obtain ⟨j, d, hj, rfl, HV, HD⟩ := hrel
    clear HV0 HM3
    by_cases hlt : j < min n 20
    · have hn1 : (j : Int) < (n : Int) := by omega
      have hn2 : (j : Int) < 20 := by omega
      have hjn : j < n := by omega
      obtain ⟨g, off, rfl, hg, _⟩ := HQ.out.at_ (by omega)
      have HRow := hid ((HQ.out.on HD.out.below).row hjn)
      have HJ := hid hlt
      have c0 : wr.cell? ⟨g, off + j * 8, none⟩ = some (.int .i64 (q j).k) := HRow.out 0 _ rfl
      clear hlt hj hg hjn
      by_cases hk2 : (q j).k = 2
      · have b2 : ((q j).k == 2) = true := by simpa using hk2
        have HPl := hid (HV.out.play (q j) (.inl hk2))
        clear hk2
        go_wp2_with (first | (refine wpList_load_mid rfl 29 _ rfl g (off + j * 8) rfl _ _ HRow.out under29 rfl (by rw [size29]; rfl) ?_) | (go_at_call 8; refine (HC.out _ p _ HD.out.db (q j)).mono ?_; rintro e w5 ⟨rfl, hd, hb⟩; have HD5 := hid (HD.out.step hd hb); clear hd hb))
        go_roundw
        case measure => have := HJ.out; simp [intOf] <;> omega
        case rel => exact ⟨j + 1, _, by have := HJ.out; omega, by simp, HPl, HD5⟩
      · have b2 : ((q j).k == 2) = false := by simpa using hk2
        clear hk2
        by_cases hk3 : (q j).k = 3
        · have b3 : ((q j).k == 3) = true := by simpa using hk3
          have HPl := hid (HV.out.play (q j) (.inr hk3))
          clear hk3
          go_wp2_with (first | (refine wpList_load_mid rfl 29 _ rfl g (off + j * 8) rfl _ _ HRow.out under29 rfl (by rw [size29]; rfl) ?_) | (go_at_call 8; refine (HC.out _ p _ HD.out.db (q j)).mono ?_; rintro e w5 ⟨rfl, hd, hb⟩; have HD5 := hid (HD.out.step hd hb); clear hd hb))
          go_roundw
          case measure => have := HJ.out; simp [intOf] <;> omega
          case rel => exact ⟨j + 1, _, by have := HJ.out; omega, by simp, HPl, HD5⟩
        · have b3 : ((q j).k == 3) = false := by simpa using hk3
          clear hk3
          go_wp2_with fail
          go_roundw
          case measure => have := HJ.out; simp [intOf] <;> omega
          case rel => exact ⟨j + 1, d, by have := HJ.out; omega, by simp, HV, HD⟩
    · have hjn : (n : Int) ≤ (j : Int) ∨ ((j : Int) < (n : Int) ∧ (20 : Int) ≤ (j : Int)) := by omega
      have HLw : Hid ((u32s d.ws).length = 1 + 2 * d.m.ns) := hid (by rw [u32s_len, DS.ws_len HD.out.db.ok])
      have h17 : 1 + 2 * d.m.ns ≤ 1000000 := by rw [HV.out.ns]; decide
      clear hlt hj HQ HC
      rcases hjn with hjn | ⟨hjn, hjm⟩
      · go_upto_region 11 with fail
        go_cut [10] (fun v w => ∃ gk, v = .slice (some ⟨gk, 0, none⟩) (1 + 2 * d.m.ns) (1 + 2 * d.m.ns) ∧ Hid (KR W w p d [] [⟨27, .slice (some ⟨gk, 0, none⟩) (1 + 2 * d.m.ns) (1 + 2 * d.m.ns), u32s d.ws⟩]))
        case first =>
          go_wp2_with (go_at_call 9; refine (HW.out _ p d HD.out.db).mono ?_; rintro e w5 ⟨gk, rfl, hc5, hg5, hb5⟩; have R5 := hid (cel_own hc5 hg5 HLw.out (by omega)); have K5 := hid ((KR.begin HD.out).addD hb5 (by rw [HLw.out]; exact R5.out)); clear hc5 hg5 hb5 R5)
          go_meet
          exact ⟨gk, rfl, by simpa using K5⟩
        case rest =>
          obtain ⟨gk, rfl, HKf⟩ := hcut
          exact (‹∀ (a : Act) (w : World), Code.wp Try.prog _ _ a w → _› _ _ (keepsU W _ p d times HTm.out.1 HTm.out.2 gk _ rfl HKf.out HV.out _ _ _ _ _ _ _ _ _ _ _ _ _ _ _ _ _ _ _ _ _ _ _ _ _ _ _ _ _ _ _ _ _ _ _ _ _ _ _ _ _ _ _ _ _ _ _ _ _ _ _ _ _ _ _ _ _ _ _ _ _ _ _ _ _ _ _ _ _ _ _ _ _ _ _ _ _ _ _ _ _ _ _ _ _ _ _ _ _ _ _ _ _ _ _ _ _ _ _ _ _ _ _ _ _ _ _ _ _ _ _ _ _ _ _ _ _ _ _ _ _ _ _ _ _ _ _ _ _ _ _ _ _ _ _ _ _ _ _ _ _ _ _ _ _ _ _ _ _ _ _ _ _ _ _ _ _ _ _ _ _ _ _ _ _ _ _ _ _ _ _ _ _ _ _ _ _ _ _ _ _ _ _ _ _ _ _ _ _ _ _ _ _ _ _ _ _ _ _ _ _ _ _ _ _ _ _ _ _ _ _ _ _ _ _ _ _ _ _ _ _ _ _ _ _ _ _ _ _ _ _ _ _ _ _ _ _ _ _ _ _ _ _ _ _ _ _ _ _ _ _ _ _ _ _ _ _ _ _ _ _ _ _ _ _ _ _ _ _ _ _ _ _ _ _ _ _ _ _ _ _ _ _ _ _ _ _ _ _ _ _ _ _ _ _ _ _ _ _ _ _ _ _ _ _ _ _ _ _ _ _ _ _ _ _ _ _ _ _ _ _ _ _ _ _ _ _ _ _ _ _ _ _ _ _ _ _ _ _ _ _ _ _ _ _ _ _ _ _ _ _ _ _ _))
      · go_upto_region 11 with fail
        go_cut [10] (fun v w => ∃ gk, v = .slice (some ⟨gk, 0, none⟩) (1 + 2 * d.m.ns) (1 + 2 * d.m.ns) ∧ Hid (KR W w p d [] [⟨27, .slice (some ⟨gk, 0, none⟩) (1 + 2 * d.m.ns) (1 + 2 * d.m.ns), u32s d.ws⟩]))
        case first =>
          go_wp2_with (go_at_call 9; refine (HW.out _ p d HD.out.db).mono ?_; rintro e w5 ⟨gk, rfl, hc5, hg5, hb5⟩; have R5 := hid (cel_own hc5 hg5 HLw.out (by omega)); have K5 := hid ((KR.begin HD.out).addD hb5 (by rw [HLw.out]; exact R5.out)); clear hc5 hg5 hb5 R5)
          go_meet
          exact ⟨gk, rfl, by simpa using K5⟩
        case rest =>
          obtain ⟨gk, rfl, HKf⟩ := hcut
          exact (‹∀ (a : Act) (w : World), Code.wp Try.prog _ _ a w → _› _ _ (keepsU W _ p d times HTm.out.1 HTm.out.2 gk _ rfl HKf.out HV.out _ _ _ _ _ _ _ _ _ _ _ _ _ _ _ _ _ _ _ _ _ _ _ _ _ _ _ _ _ _ _ _ _ _ _ _ _ _ _ _ _ _ _ _ _ _ _ _ _ _ _ _ _ _ _ _ _ _ _ _ _ _ _ _ _ _ _ _ _ _ _ _ _ _ _ _ _ _ _ _ _ _ _ _ _ _ _ _ _ _ _ _ _ _ _ _ _ _ _ _ _ _ _ _ _ _ _ _ _ _ _ _ _ _ _ _ _ _ _ _ _ _ _ _ _ _ _ _ _ _ _ _ _ _ _ _ _ _ _ _ _ _ _ _ _ _ _ _ _ _ _ _ _ _ _ _ _ _ _ _ _ _ _ _ _ _ _ _ _ _ _ _ _ _ _ _ _ _ _ _ _ _ _ _ _ _ _ _ _ _ _ _ _ _ _ _ _ _ _ _ _ _ _ _ _ _ _ _ _ _ _ _ _ _ _ _ _ _ _ _ _ _ _ _ _ _ _ _ _ _ _ _ _ _ _ _ _ _ _ _ _ _ _ _ _ _ _ _ _ _ _ _ _ _ _ _ _ _ _ _ _ _ _ _ _ _ _ _ _ _ _ _ _ _ _ _ _ _ _ _ _ _ _ _ _ _ _ _ _ _ _ _ _ _ _ _ _ _ _ _ _ _ _ _ _ _ _ _ _ _ _ _ _ _ _ _ _ _ _ _ _ _ _ _ _ _ _ _ _ _ _ _ _ _ _ _ _ _ _ _ _ _ _ _ _ _ _ _ _ _ _ _ _ _))
end Go.Proofs.Ytajkhkaidjjioaa
