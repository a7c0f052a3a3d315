/- IsaSpoilt (4): the walk. -/
import Derived.Test.YtgdekmkhbickkaaDoorBk
import Derived.Test.YtgdekmkhbickkaaDoorMat7
import Derived.Deep.DeepCutAuto
namespace Go.Proofs.YtgdekmkhbickkaaDoor
open Go.RowKit

theorem spoilt_no (W : World) (hT : Tabs W) (op cond a b c imm bit : Int) (i0 : -2147483648 ≤ imm) (i1 : imm < 2147483648) (h : chk (Ins.mk op cond a b c imm) ≠ 0) :
    Calls Tryd.prog 4 #[.agg #[.int .i64 op, .int .i64 cond, .int .i64 a, .int .i64 b, .int .i64 c, .int .i32 imm], .int .i64 bit] W fun e W' => e = .returned (.bool true) ∧ Below W.heap.size W W' := by
  have HT : Hid (∀ x, Below W.heap.size W x → Tabs x) := fun x hb => hT.on hb
  obtain ⟨v, hv⟩ : ∃ v, enc (Ins.mk op cond a b c imm) = v := ⟨_, rfl⟩
  obtain ⟨e, he⟩ : ∃ e, chk (Ins.mk op cond a b c imm) = e := ⟨_, rfl⟩
  have he2 : (e != 0) = true := by rw [← he]; simpa using h
  have HE : Hid (∀ w, Below W.heap.size W w → _) := fun w hb => encode_ins w (HT.out w hb) op cond a b c imm v e i0 i1 hv he
  have HO : Hid (∀ w, Below W.heap.size W w → Calls Tryd.prog 12 #[] w fun e W' => e = .returned (.bool true) ∧ Below w.heap.size w W') := fun w hb => one_any w (HT.out w hb)
  clear hT h hv he
  go_enter Tryd.func4, Tryd.ntmps4
  go_wp2_with (first | (go_at_call 9; refine (num_any _ _).mono ?_; rintro e w9 ⟨rfl, rfl⟩) | (go_at_call 10; refine (HE.out _ (below_one _ _)).mono ?_; rintro e w1 ⟨rfl, hb1⟩; have B1 : Hid (Below W.heap.size W w1) := below_on (below_one _ _) hb1) | (go_at_call 12; refine (HO.out _ B1.out).mono ?_; rintro e w2 ⟨rfl, hb2⟩))
  go_ret
  exact ⟨rfl, below_on B1.out hb2⟩

set_option maxRecDepth 40000 in
set_option maxHeartbeats 8000000 in
theorem spoilt_yes (W : World) (hT : Tabs W) (op cond a b c imm bit : Int) (i0 : -2147483648 ≤ imm) (i1 : imm < 2147483648) (h : chk (Ins.mk op cond a b c imm) = 0) :
    Calls Tryd.prog 4 #[.agg #[.int .i64 op, .int .i64 cond, .int .i64 a, .int .i64 b, .int .i64 c, .int .i32 imm], .int .i64 bit] W fun e W' => e = .returned (.bool true) ∧ Below W.heap.size W W' := by
  have HT : Hid (∀ x, Below W.heap.size W x → Tabs x) := fun x hb => hT.on hb
  obtain ⟨n, hn, k1, k2, hnine, hgood⟩ := chk_zero h
  have hbd := enc_bounds (Ins.mk op cond a b c imm)
  obtain ⟨w, hw⟩ := Int.eq_ofNat_of_zero_le hbd.1
  have HE : Hid (∀ w', Below W.heap.size W w' → _) := fun w' hb => encode_ins w' (HT.out w' hb) op cond a b c imm (w : Int) 0 i0 i1 hw h
  have hB0 : 0 ≤ (IntKind.u64.wrap bit).tmod 32 ∧ (IntKind.u64.wrap bit).tmod 32 < 32 := by
    have hz : 0 ≤ IntKind.u64.wrap bit := by simp [IntKind.wrap, IntKind.signed, IntKind.bits]; omega
    rw [Int.tmod_eq_emod_of_nonneg hz]
    omega
  obtain ⟨B, hB⟩ := Int.eq_ofNat_of_zero_le hB0.1
  have b32 : (B : Int) < 32 := by omega
  have p0 := M.two_pos B
  have p1 : (2 : Int) ^ B < 4294967296 := by have := M.two_le (show B ≤ 31 by omega); omega
  obtain ⟨x1, x2⟩ := spoil h n hn w hw B (by omega)
  have hX : bits .xor .u32 (w : Int) (2 ^ B) = ((w ^^^ 2 ^ B : Nat) : Int) := by
    rw [← M.two_nat B, u32_xor_nat w (2 ^ B) (by omega) (by have := M.two_nat B; omega)]
  obtain ⟨X, hXe⟩ : ∃ X : Int, ((w ^^^ 2 ^ B : Nat) : Int) = X := ⟨_, rfl⟩
  have X0 : 0 ≤ X := by omega
  have X1 : X < 4294967296 := by omega
  rw [hXe] at hX x2
  clear hXe x1
  obtain ⟨J, hJ⟩ : ∃ J, dec X = J := ⟨_, rfl⟩
  obtain ⟨f, hf⟩ : ∃ f, decE X = f := ⟨_, rfl⟩
  obtain ⟨j0, j1, j2, j3, j4, j5⟩ := J
  have hJi := dec_imm X
  have HD : Hid (∀ x, Below W.heap.size W x → _) := fun x hb => decode_ins x (HT.out x hb) X X0 X1 j0 j1 j2 j3 j4 j5 f hJ hf
  have hf2 : f = 0 ∨ f = 50 := by by_cases e : decE X = 0; (· left; rw [← hf]; exact e); (· right; rw [← hf]; exact (dec_no e).1)
  have HX2 : Hid (f = 0 → (Ins.mk j0 j1 j2 j3 j4 j5 ≠ (Ins.mk op cond a b c imm)) ∧ (mskL (ltr (shp n))).testBit B = true) := fun e => by have := x2 (by rw [hf]; exact e); rw [hJ] at this; exact this
  have HJC : Hid (f = 0 → ∀ x, Below W.heap.size W x → Calls Tryd.prog 11 #[.agg #[.int .i64 j0, .int .i64 j1, .int .i64 j2, .int .i64 j3, .int .i64 j4, .int .i32 j5]] x fun r W' => r = .returned (.int .i64 0) ∧ Below x.heap.size x W') := fun e x hb => check_ins x (HT.out x hb) j0 j1 j2 j3 j4 j5 0 (by rw [hJ] at hJi; exact hJi.1) (by rw [hJ] at hJi; exact hJi.2) (by rw [← hJ]; exact (dec_yes (by rw [hf]; exact e)).2)
  have HS : Hid (∀ x, Below W.heap.size W x → Calls Tryd.prog 13 #[.int .i64 op] x fun e W' => e = .returned (.string (shp n)) ∧ x = W') := fun x hb => by have hq : op = (n : Int) := hn; rw [hq]; have := shape_any x (HT.out x hb).f n; rw [shpI, if_pos (by omega), Int.toNat_natCast] at this; exact this
  have HKa : Hid (97 ∈ ltr (shp n) → ∀ x, Below W.heap.size W x → Calls Tryd.prog 8 #[.int .u32 (bits .or .u32 (w : Int) 62914560)] x fun r W' => r = .returned (.tuple #[.agg #[.int .i64 0, .int .i64 0, .int .i64 0, .int .i64 0, .int .i64 0, .int .i32 0], .int .i64 50]) ∧ Below x.heap.size x W') := fun hm x hb => by
    have hq := full_a h n hn hm
    rw [hw] at hq
    have e := or_mask (w : Int) (by omega) (by omega) 22 4 62914560 (by decide) (by decide) (by decide) (by decide)
    rw [show ((62914560 : Nat) : Int) = 62914560 from rfl, show (2 : Int) ^ 4 - 1 = 15 from rfl] at e
    rw [e]
    exact decode_ins x (HT.out x hb) _ hq.2.1 hq.2.2 0 0 0 0 0 0 50 (dec_no (by rw [hq.1]; decide)).2 hq.1
  have HKk : Hid (107 ∈ ltr (shp n) → ∀ x, Below W.heap.size W x → Calls Tryd.prog 8 #[.int .u32 (bits .or .u32 (w : Int) 29360128)] x fun r W' => r = .returned (.tuple #[.agg #[.int .i64 0, .int .i64 0, .int .i64 0, .int .i64 0, .int .i64 0, .int .i32 0], .int .i64 50]) ∧ Below x.heap.size x W') := fun hm x hb => by
    have hq := full_k h n hn hm
    rw [hw] at hq
    have e := or_mask (w : Int) (by omega) (by omega) 22 3 29360128 (by decide) (by decide) (by decide) (by decide)
    rw [show ((29360128 : Nat) : Int) = 29360128 from rfl, show (2 : Int) ^ 3 - 1 = 7 from rfl] at e
    rw [e]
    exact decode_ins x (HT.out x hb) _ hq.2.1 hq.2.2 0 0 0 0 0 0 50 (dec_no (by rw [hq.1]; decide)).2 hq.1
  have HLT : Hid (∀ l ∈ ltr (shp n), letter l) := (shp_ok n k2).2
  have hs : ((shp n).size : Int) ≤ 3 := by have := (shp_ok n k2).1; omega
  generalize shp n = s at *
  have W0 : 0 ≤ (w : Int) := by omega
  clear hT h hn k1 k2 hnine hgood hbd hw hB0 x2 hJ hf hJi
  go_enter Tryd.func4, Tryd.ntmps4
  go_upto_region 6 with (first | (go_at_call 9; refine (num_any _ _).mono ?_; rintro e w9 ⟨rfl, rfl⟩) | (go_at_call 10; refine (HE.out _ (below_one _ _)).mono ?_; rintro e w1 ⟨rfl, hb1⟩; have B1 : Hid (Below W.heap.size W w1) := below_on (below_one _ _) hb1; have C1 : Hid (Cel w1 W.heap.size 27 (Ins.mk op cond a b c imm).cs) := (Cel.new W 27 (Ins.mk op cond a b c imm).cs).on hb1; clear hb1) | (go_at_call 8; refine (HD.out _ B1.out).mono ?_; rintro e w2 ⟨rfl, hb2⟩; have B2 : Hid (Below W.heap.size W w2) := below_on B1.out hb2; have C2 : Hid (Cel w2 W.heap.size 27 (Ins.mk op cond a b c imm).cs) := C1.out.on hb2; clear hb2))
  have B3 : Hid (Below W.heap.size W (w2.alloc (Obj.cells #[Value.int .i64 j0, Value.int .i64 j1, Value.int .i64 j2, Value.int .i64 j3, Value.int .i64 j4, Value.int .i32 j5] 27))) := below_on B2.out (below_one _ _)
  have C3 : Hid (Cel (w2.alloc (Obj.cells #[Value.int .i64 j0, Value.int .i64 j1, Value.int .i64 j2, Value.int .i64 j3, Value.int .i64 j4, Value.int .i32 j5] 27)) W.heap.size 27 (Ins.mk op cond a b c imm).cs) := C2.out.on (below_one _ _)
  have CJ : Hid (Cel (w2.alloc (Obj.cells #[Value.int .i64 j0, Value.int .i64 j1, Value.int .i64 j2, Value.int .i64 j3, Value.int .i64 j4, Value.int .i32 j5] 27)) w2.heap.size 27 (Ins.mk j0 j1 j2 j3 j4 j5).cs) := Cel.new _ _ _
  generalize w2.alloc (Obj.cells #[Value.int .i64 j0, Value.int .i64 j1, Value.int .i64 j2, Value.int .i64 j3, Value.int .i64 j4, Value.int .i32 j5] 27) = V at *
  generalize w2.heap.size = gj at *
  obtain ⟨gi, hgi⟩ : ∃ g, W.heap.size = g := ⟨_, rfl⟩
  rw [hgi] at C3 ⊢
  clear hgi C1 C2 B1 B2 hX p0 hB
  go_cut [50] (fun x wx => x = .bool false ∧ Hid (Below W.heap.size W wx) ∧ Hid (Cel wx gi 27 (Ins.mk op cond a b c imm).cs))
  case first =>
    rcases hf2 with rfl | rfl
    · have y0 : V.cell? ⟨gj, 0, none⟩ = some (.int .i64 j0) := CJ.out.cell 0
      have y1 : V.cell? ⟨gj, 1, none⟩ = some (.int .i64 j1) := CJ.out.cell 1
      have y2 : V.cell? ⟨gj, 2, none⟩ = some (.int .i64 j2) := CJ.out.cell 2
      have y3 : V.cell? ⟨gj, 3, none⟩ = some (.int .i64 j3) := CJ.out.cell 3
      have y4 : V.cell? ⟨gj, 4, none⟩ = some (.int .i64 j4) := CJ.out.cell 4
      have y5 : V.cell? ⟨gj, 5, none⟩ = some (.int .i32 j5) := CJ.out.cell 5
      have z0 : V.cell? ⟨gi, 0, none⟩ = some (.int .i64 op) := C3.out.cell 0
      have z1 : V.cell? ⟨gi, 1, none⟩ = some (.int .i64 cond) := C3.out.cell 1
      have z2 : V.cell? ⟨gi, 2, none⟩ = some (.int .i64 a) := C3.out.cell 2
      have z3 : V.cell? ⟨gi, 3, none⟩ = some (.int .i64 b) := C3.out.cell 3
      have z4 : V.cell? ⟨gi, 4, none⟩ = some (.int .i64 c) := C3.out.cell 4
      have z5 : V.cell? ⟨gi, 5, none⟩ = some (.int .i32 imm) := C3.out.cell 5
      have HJ := HJC.out rfl
      have HJ' : Hid (∀ x, Below W.heap.size W x → Calls Tryd.prog 11 #[.agg #[.int .i64 j0, .int .i64 j1, .int .i64 j2, .int .i64 j3, .int .i64 j4, .int .i32 j5]] x fun r W' => r = .returned (.int .i64 0) ∧ Below x.heap.size x W') := HJ
      have HNE : Hid (Ins.mk j0 j1 j2 j3 j4 j5 ≠ (Ins.mk op cond a b c imm)) := (HX2.out rfl).1
      clear HJ HX2 HJC
      by_cases e0 : j0 = op
      · subst e0
        by_cases e1 : j1 = cond
        · subst e1
          by_cases e2 : j2 = a
          · subst e2
            by_cases e3 : j3 = b
            · subst e3
              by_cases e4 : j4 = c
              · subst e4
                by_cases e5 : j5 = imm
                · subst e5
                  exact absurd rfl HNE.out
                · have q : (j5 == imm) = false := by simpa using e5
                  clear e5
                  go_wp2_with (first | (go_at_call 9; refine (num_any _ _).mono ?_; rintro e w9 ⟨rfl, rfl⟩) | (go_at_call 11; refine (HJ'.out _ B3.out).mono ?_; rintro e w4 ⟨rfl, hb4⟩))
                  go_meet
                  exact ⟨rfl, below_on B3.out hb4, C3.out.on hb4⟩
              · have q : (j4 == c) = false := by simpa using e4
                clear e4
                go_wp2_with (first | (go_at_call 9; refine (num_any _ _).mono ?_; rintro e w9 ⟨rfl, rfl⟩) | (go_at_call 11; refine (HJ'.out _ B3.out).mono ?_; rintro e w4 ⟨rfl, hb4⟩))
                go_meet
                exact ⟨rfl, below_on B3.out hb4, C3.out.on hb4⟩
            · have q : (j3 == b) = false := by simpa using e3
              clear e3
              go_wp2_with (first | (go_at_call 9; refine (num_any _ _).mono ?_; rintro e w9 ⟨rfl, rfl⟩) | (go_at_call 11; refine (HJ'.out _ B3.out).mono ?_; rintro e w4 ⟨rfl, hb4⟩))
              go_meet
              exact ⟨rfl, below_on B3.out hb4, C3.out.on hb4⟩
          · have q : (j2 == a) = false := by simpa using e2
            clear e2
            go_wp2_with (first | (go_at_call 9; refine (num_any _ _).mono ?_; rintro e w9 ⟨rfl, rfl⟩) | (go_at_call 11; refine (HJ'.out _ B3.out).mono ?_; rintro e w4 ⟨rfl, hb4⟩))
            go_meet
            exact ⟨rfl, below_on B3.out hb4, C3.out.on hb4⟩
        · have q : (j1 == cond) = false := by simpa using e1
          clear e1
          go_wp2_with (first | (go_at_call 9; refine (num_any _ _).mono ?_; rintro e w9 ⟨rfl, rfl⟩) | (go_at_call 11; refine (HJ'.out _ B3.out).mono ?_; rintro e w4 ⟨rfl, hb4⟩))
          go_meet
          exact ⟨rfl, below_on B3.out hb4, C3.out.on hb4⟩
      · have q : (j0 == op) = false := by simpa using e0
        clear e0
        go_wp2_with (first | (go_at_call 9; refine (num_any _ _).mono ?_; rintro e w9 ⟨rfl, rfl⟩) | (go_at_call 11; refine (HJ'.out _ B3.out).mono ?_; rintro e w4 ⟨rfl, hb4⟩))
        go_meet
        exact ⟨rfl, below_on B3.out hb4, C3.out.on hb4⟩
    · go_wp2_with (go_at_call 9; refine (num_any _ _).mono ?_; rintro e w9 ⟨rfl, rfl⟩)
      go_meet
      exact ⟨rfl, B3, C3⟩
  case rest =>
    obtain ⟨rfl, B4, C4⟩ := hcut
    clear B3 C3 CJ
    have y0 : wc.cell? ⟨gi, 0, none⟩ = some (.int .i64 op) := C4.out.cell 0
    go_wp2_with (go_at_call 13; refine (HS.out _ B4.out).mono ?_; rintro e w5 ⟨rfl, rfl⟩)
    clear y0
    go_loopw [10, 12] (fun x i wr => ∃ (k m : Nat), k ≤ s.size ∧ i = .int .i64 k ∧ x = .int .u32 (m : Int) ∧ Hid (m = mskL ((ltr s).take k)) ∧ Hid (Below W.heap.size W wr)) (fun _ i _ => s.size - (intOf i).toNat)
    case atStart => exact ⟨0, 4227858432, Nat.zero_le _, rfl, rfl, rfl, B4⟩
    case round =>
      clear B4 C4
      obtain ⟨k, m, hk, rfl, rfl, HV, BR⟩ := hrel
      have HM : Hid (m < 2 ^ 32) := (show m < 2 ^ 32 by rw [HV.out]; exact mskF_lt _ _ (by decide))
      by_cases hk2 : k < s.size
      · have c1 : (k : Int) < (s.size : Int) := by omega
        obtain ⟨l, hlk⟩ : ∃ l, s[k].toNat = l := ⟨_, rfl⟩
        have hml : l ∈ ltr s := List.mem_iff_getElem.2 ⟨k, by rw [ltr_len]; exact hk2, by rw [ltr_get s k hk2, hlk]⟩
        have HLL := HLT.out l hml
        have HML : Hid (l ∈ ltr s) := hml
        clear hml
        have HV2 : Hid (m ||| mk l = mskL ((ltr s).take (k + 1))) := (show _ = _ by rw [ltr_snoc s k hk2, mskL_snoc, hlk, ← HV.out])
        have HK : Hid (k < s.size) := hk2
        have HOR : Hid (∀ q : Nat, q < 2 ^ 32 → bits .or .u32 (m : Int) (q : Int) = ((m ||| q : Nat) : Int)) := fun q hq => u32_or_nat m q HM.out hq
        rcases HLL with rfl | rfl | rfl | rfl | rfl | rfl | rfl
        · have ho : bits .or .u32 (m : Int) 62914560 = ((m ||| 62914560 : Nat) : Int) := HOR.out 62914560 (by decide)
          have HG : Hid (∀ x, Below W.heap.size W x → _) := HKa.out HML.out
          go_wp2_with (first | (go_at_call 9; refine (num_any _ _).mono ?_; rintro e w9 ⟨rfl, rfl⟩) | (go_at_call 8; refine (HG.out _ BR.out).mono ?_; rintro e w6 ⟨rfl, hb6⟩))
          go_roundw
          case measure => have := HK.out; simp [intOf]; omega
          case rel => exact ⟨k + 1, _, HK.out, by go_num, rfl, HV2, below_on (below_on BR.out hb6) (below_one _ _)⟩
        · have ho : bits .or .u32 (m : Int) 3932160 = ((m ||| 3932160 : Nat) : Int) := HOR.out 3932160 (by decide)
          go_wp2_with (go_at_call 9; refine (num_any _ _).mono ?_; rintro e w9 ⟨rfl, rfl⟩)
          go_roundw
          case measure => have := HK.out; simp [intOf]; omega
          case rel => exact ⟨k + 1, _, HK.out, by go_num, rfl, HV2, BR⟩
        · have ho : bits .or .u32 (m : Int) 245760 = ((m ||| 245760 : Nat) : Int) := HOR.out 245760 (by decide)
          go_wp2_with (go_at_call 9; refine (num_any _ _).mono ?_; rintro e w9 ⟨rfl, rfl⟩)
          go_roundw
          case measure => have := HK.out; simp [intOf]; omega
          case rel => exact ⟨k + 1, _, HK.out, by go_num, rfl, HV2, BR⟩
        · have ho : bits .or .u32 (m : Int) 29360128 = ((m ||| 29360128 : Nat) : Int) := HOR.out 29360128 (by decide)
          have HG : Hid (∀ x, Below W.heap.size W x → _) := HKk.out HML.out
          go_wp2_with (first | (go_at_call 9; refine (num_any _ _).mono ?_; rintro e w9 ⟨rfl, rfl⟩) | (go_at_call 8; refine (HG.out _ BR.out).mono ?_; rintro e w6 ⟨rfl, hb6⟩))
          go_roundw
          case measure => have := HK.out; simp [intOf]; omega
          case rel => exact ⟨k + 1, _, HK.out, by go_num, rfl, HV2, below_on (below_on BR.out hb6) (below_one _ _)⟩
        · have ho : bits .or .u32 (m : Int) 65535 = ((m ||| 65535 : Nat) : Int) := HOR.out 65535 (by decide)
          go_wp2_with (go_at_call 9; refine (num_any _ _).mono ?_; rintro e w9 ⟨rfl, rfl⟩)
          go_roundw
          case measure => have := HK.out; simp [intOf]; omega
          case rel => exact ⟨k + 1, _, HK.out, by go_num, rfl, HV2, BR⟩
        · have ho : bits .or .u32 (m : Int) 65535 = ((m ||| 65535 : Nat) : Int) := HOR.out 65535 (by decide)
          go_wp2_with (go_at_call 9; refine (num_any _ _).mono ?_; rintro e w9 ⟨rfl, rfl⟩)
          go_roundw
          case measure => have := HK.out; simp [intOf]; omega
          case rel => exact ⟨k + 1, _, HK.out, by go_num, rfl, HV2, BR⟩
        · have ho : bits .or .u32 (m : Int) 65535 = ((m ||| 65535 : Nat) : Int) := HOR.out 65535 (by decide)
          go_wp2_with (go_at_call 9; refine (num_any _ _).mono ?_; rintro e w9 ⟨rfl, rfl⟩)
          go_roundw
          case measure => have := HK.out; simp [intOf]; omega
          case rel => exact ⟨k + 1, _, HK.out, by go_num, rfl, HV2, BR⟩
      · obtain rfl : k = s.size := by omega
        have HT2 : Hid (m = mskL (ltr s)) := by have := HV.out; rw [show (ltr s).take s.size = ltr s by rw [← ltr_len, List.take_length]] at this; exact this
        have hbv : bits .and .u32 ((m : Int) / 2 ^ B) 1 = ((m / 2 ^ B % 2 : Nat) : Int) := by
          have hle : m / 2 ^ B < 4294967296 := Nat.lt_of_le_of_lt (Nat.div_le_self _ _) HM.out
          have e := M.and_low ((m : Int) / 2 ^ B) 1 (Int.ediv_nonneg (by omega) (by have := M.two_pos B; omega)) (by rw [← M.two_nat, ← Int.natCast_ediv]; omega) (by decide)
          rw [show (2 : Int) ^ 1 - 1 = 1 from rfl] at e
          rw [e, ← M.two_nat B]
          push_cast
          rfl
        have hbit := Nat.testBit_eq_decide_div_mod_eq (x := m) (i := B)
        clear hk hk2
        cases hq : m.testBit B with
        | true =>
          rw [hq] at hbit
          have h1 : m / 2 ^ B % 2 = 1 := of_decide_eq_true hbit.symm
          rw [h1] at hbv
          clear hbit h1 hq
          go_wp2_with (go_at_call 9; refine (num_any _ _).mono ?_; rintro e w9 ⟨rfl, rfl⟩)
          go_ret
          exact ⟨rfl, BR.out⟩
        | false =>
          rw [hq] at hbit
          have h1 : m / 2 ^ B % 2 = 0 := by have := of_decide_eq_false hbit.symm; omega
          rw [h1] at hbv
          obtain rfl : f = 50 := by rcases hf2 with e | e; (· have := (HX2.out e).2; rw [← HT2.out, hq] at this; cases this); (· exact e)
          clear hbit h1 hq
          go_wp2_with (go_at_call 9; refine (num_any _ _).mono ?_; rintro e w9 ⟨rfl, rfl⟩)
          go_ret
          exact ⟨rfl, BR.out⟩
theorem spoilt_walk (W : World) (hT : Tabs W) (op cond a b c imm bit : Int) (i0 : -2147483648 ≤ imm) (i1 : imm < 2147483648) :
    Calls Tryd.prog 4 #[.agg #[.int .i64 op, .int .i64 cond, .int .i64 a, .int .i64 b, .int .i64 c, .int .i32 imm], .int .i64 bit] W fun e W' => e = .returned (.bool true) ∧ Below W.heap.size W W' := by
  by_cases h : chk (Ins.mk op cond a b c imm) = 0
  · exact spoilt_yes W hT op cond a b c imm bit i0 i1 h
  · exact spoilt_no W hT op cond a b c imm bit i0 i1 h
end Go.Proofs.YtgdekmkhbickkaaDoor
