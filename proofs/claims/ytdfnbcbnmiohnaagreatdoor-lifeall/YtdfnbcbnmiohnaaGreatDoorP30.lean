import Derived.Test.YtdfnbcbnmiohnaaGreatDoorP29
namespace Go.Proofs.YtdfnbcbnmiohnaaGreatDoor
open Go.RowKit
set_option maxRecDepth 100000
set_option maxHeartbeats 8000000
attribute [-simp] Tryz.isAgg44 Tryz.sizeOf44 Tryz.zeroValue44 Tryz.isAgg55 Tryz.sizeOf55 Tryz.zeroValue55
def DS.lay8 (d : DS) (s : Int) (L : List Int) : Nat → DS
  | 0 => d
  | j + 1 => (d.lay8 s L j).wr s (3 + (j : Int)) (L.getD j 0)
def zz : List Int := List.replicate 26 0
def DS.msr (d : DS) (s : Int) (L : List Int) : DS := (d.lay8 s L 8).dig s zz 26
theorem layM_any (W : World) (p : Dp) (d : DS) (h : DB W p d) (s : Int) (FL : List Int) (hFl : FL.length = 8) :
    Calls Tryz.prog 64 #[ptr p.g, .int .i64 s, .agg (u32s FL).toArray] W fun e W' => e = .returned (.tuple #[]) ∧ DB W' p (d.msr s FL) ∧ ButL p.f.w W W' := by
  have D0 := hid ((DG.startw h).new 55 (u32s FL))
  have HMm := hid (fun w d' (hw : DB w p d') => memory_any w p d' hw)
  have HFr := hid (fun w => lsecure_any w s)
  have HWr := hid (fun w d' (hw : DB w p d') (off v : Int) => (write_any w p.f d'.m hw.mem true s off v))
  have HIX : Hid (∀ (j : Nat), j < 8 → ∀ w, (Instr.index 55 (.agg (u32s FL).toArray) (.int .i64 (j : Int))).run Tryz.prog w = .ok (.int .u32 (FL.getD j 0)) w) := hid (fun j hj w => H.index_ag under55 Tryz.underlying43 (by kernel_rfl) FL j hFl hj w)
  clear h
  simp only [ptr, fr] at *
  go_enter Tryz.func64, Tryz.ntmps64
  go_upto_region 1 with fail
  have D0' : Hid (DG W (W.alloc (Obj.cells (u32s FL).toArray 55)) p d p.f.w [(W.heap.size, 55, u32s FL)]) := D0
  clear D0
  generalize World.alloc _ _ = X at *
  generalize W.heap.size = g5 at *
  go_upto_region 2 with (first | (refine wpList_load_mid rfl 55 _ rfl g5 0 rfl _ _ (D0'.out.get 0 rfl).range under55 rfl (by rw [size55]; simp [u32s, hFl]) ?_))
  go_loopw [10] (fun i wr => ∃ j : Nat, j ≤ 8 ∧ i = .int .i64 (j : Int) ∧ Hid (DG W wr p (d.lay8 s FL j) p.f.w [(g5, 55, u32s FL)])) (fun i _ => 8 - (intOf i).toNat)
  case atStart => exact ⟨0, Nat.zero_le _, rfl, D0'⟩
  case round =>
    obtain ⟨j, hj, rfl, E0⟩ := hrel
    clear D0'
    by_cases hlt : j < 8
    · have q1 : (j : Int) < 8 := by omega
      have kw : IntKind.wrap .i64 (3 + (j : Int)) = 3 + (j : Int) := by rw [IntKind.wrap_i64]; omega
      have kw2 : IntKind.wrap .i64 ((j : Int) + 1) = (j : Int) + 1 := by rw [IntKind.wrap_i64]; omega
      have HJ := hid hlt
      have HV : Hid (d.lay8 s FL (j + 1) = (d.lay8 s FL j).wr s (3 + (j : Int)) (FL.getD j 0)) := hid rfl
      clear hlt hj
      generalize d.lay8 s FL j = dj at *
      generalize hdk : d.lay8 s FL (j + 1) = dk at *
      have HDK := hid hdk
      clear hdk
      have hix := HIX.out j HJ.out
      generalize FL.getD j 0 = v at *
      go_wp2_with (first | (go_at_call 28; refine (HMm.out _ _ E0.out.db).mono ?_; rintro e w4 ⟨rfl, rfl⟩) | (go_at_call 112; refine (HFr.out _).mono ?_; rintro e w4 ⟨rfl, hb⟩; have E2 := hid (E0.out.on hb); clear hb) | (go_at_call 53; refine (HWr.out _ _ E2.out.db _ _).mono ?_; rintro e w5 ⟨rfl, hm, hb⟩; have E3 : Hid (DG W w5 p dk p.f.w [(g5, 55, u32s FL)]) := hid (by rw [HV.out]; exact E2.out.mem hm hb (MS.write_ns ..)); clear hm hb E2))
      exact ⟨⟨j + 1, HJ.out, by simp, by rw [HDK.out]; exact E3⟩, by have := HJ.out; simp [intOf]; omega⟩
    · have hj' : j = 8 := by omega
      subst hj'
      clear hlt hj HIX
      rw [show ((8 : Nat) : Int) = 8 from rfl]
      generalize h8 : d.lay8 s FL 8 = d8 at E0
      have HM : Hid (d.msr s FL = d8.dig s zz 26) := hid (by rw [← h8]; rfl)
      clear h8
      go_upto_region 6 with fail
      go_upto_region 7 with fail
      go_loopw [8] (fun i wr2 => ∃ j : Nat, j ≤ 26 ∧ i = .int .i64 (11 + (j : Int)) ∧ Hid (DG W wr2 p (d8.dig s zz j) p.f.w [(g5, 55, u32s FL)])) (fun i _ => 37 - (intOf i).toNat)
      case atStart => exact ⟨0, Nat.zero_le _, rfl, E0⟩
      case round =>
        obtain ⟨j, hj, rfl, F0⟩ := hrel
        clear E0
        by_cases hlt : j < 26
        · have q1 : 11 + (j : Int) < 37 := by omega
          have kw2 : IntKind.wrap .i64 (11 + (j : Int) + 1) = 11 + (j : Int) + 1 := by rw [IntKind.wrap_i64]; omega
          have HJ := hid hlt
          have HV : Hid (d8.dig s zz (j + 1) = (d8.dig s zz j).wr s (11 + (j : Int)) 0) := hid (by show (d8.dig s zz j).wr s (11 + (j : Int)) (zz.getD j 0) = _; rw [show zz.getD j 0 = 0 from zdig j])
          clear hlt hj
          generalize d8.dig s zz j = dj at *
          generalize hdk : d8.dig s zz (j + 1) = dk at *
          have HDK := hid hdk
          clear hdk
          go_wp2_with (first | (go_at_call 28; refine (HMm.out _ _ F0.out.db).mono ?_; rintro e w4 ⟨rfl, rfl⟩) | (go_at_call 112; refine (HFr.out _).mono ?_; rintro e w4 ⟨rfl, hb⟩; have E2 := hid (F0.out.on hb); clear hb) | (go_at_call 53; refine (HWr.out _ _ E2.out.db _ _).mono ?_; rintro e w5 ⟨rfl, hm, hb⟩; have E3 : Hid (DG W w5 p dk p.f.w [(g5, 55, u32s FL)]) := hid (by rw [HV.out]; exact E2.out.mem hm hb (MS.write_ns ..)); clear hm hb E2))
          go_roundw
          case measure => have := HJ.out; simp [intOf] <;> omega
          case rel => exact ⟨j + 1, HJ.out, by simp [Int.add_assoc], by rw [HDK.out]; exact E3⟩
        · have hj' : j = 26 := by omega
          subst hj'
          clear hlt hj
          go_wp2_with fail
          go_returns
          exact ⟨rfl, by rw [HM.out]; exact F0.out.db, F0.out.but⟩
end Go.Proofs.YtdfnbcbnmiohnaaGreatDoor
