/- The document's target (14), text (16), Line (8). -/
import Derived.Test.YtncnogndopgknaaDoorLn7
import Derived.Test.YtncnogndopgknaaDoorRde
namespace Go.Proofs.YtncnogndopgknaaDoor
open Go.RowKit
/-- The document's tables lie where their initialisers laid them. -/
structure TR (W : World) : Prop where
  s : RShapes W
  n : RNames W
  c : RConds W
  z : 8 < W.heap.size
theorem RNames.below {W w : World} {B : Nat} (h : RNames W) (hb : Below B W w) (hB : 1 < B) : RNames w := fun n hn => (hb.cell (p := ⟨1, n, none⟩) hB).trans (h n hn)
theorem RConds.below {W w : World} {B : Nat} (h : RConds W) (hb : Below B W w) (hB : 3 < B) : RConds w := fun n hn => (hb.cell (p := ⟨3, n, none⟩) hB).trans (h n hn)
theorem TR.on {W w : World} (h : TR W) (hb : Below W.heap.size W w) : TR w := ⟨h.s.below hb (by have := h.z; omega), h.n.below hb (by have := h.z; omega), h.c.below hb (by have := h.z; omega), by have := hb.size; have := h.z; omega⟩
def A.tgtM (o : Option Nat) : Int := match o with | some t => (t : Int) | none => -1
theorem rtarget_any (W : World) (hT : TR W) (w : Int) (w0 : 0 ≤ w) (w1 : w < 4294967296) (p n : Nat) (hp : p ≤ 1000000000) (hn : n ≤ 1000000000) :
    Calls Tryd.prog 14 #[.int .u32 w, .int .i64 (p : Int), .int .i64 (n : Int)] W fun e w' => e = .returned (.int .i64 (A.tgtM (A.tgt w p n))) ∧ Below W.heap.size W w' := by
  have HD := hid (rdecode_any W hT.s (by have := hT.z; omega) w w0 w1)
  have p1 : (p : Int) ≤ 1000000000 := by omega
  have n1 : (n : Int) ≤ 1000000000 := by omega
  clear hT hp hn
  by_cases hE : decE w = 0
  · have hi := ok6 hE
    obtain ⟨R, hR⟩ : ∃ R, A.tgt w p n = R := ⟨_, rfl⟩
    have hR' := hR
    unfold A.tgt at hR
    rw [hE] at HD hR
    rw [hR']
    generalize hd : dec w = i at *
    clear hR' hd hE
    obtain ⟨op, cond, a, b, c, imm⟩ := i
    obtain ⟨⟨o0, o1⟩, _, _, _, _, ⟨m0, m1⟩⟩ := hi
    simp only at o0 o1 m0 m1 hR
    simp only [Ins.r] at HD
    by_cases h21 : op = 21 ∨ op = 22
    · have HR : Hid ((if 0 ≤ (p : Int) + 1 + imm ∧ (p : Int) + 1 + imm ≤ n then some ((p : Int) + 1 + imm).toNat else none) = R) := hid (by rw [← hR]; simp only [true_and, h21])
      clear hR
      by_cases hlo : 0 ≤ (p : Int) + 1 + imm
      · by_cases hhi : (p : Int) + 1 + imm ≤ n
        · have HS : Hid ((p : Int) + 1 + imm = A.tgtM R) := hid (by rw [← HR.out, if_pos ⟨hlo, hhi⟩]; simp only [A.tgtM]; omega)
          clear HR
          rcases h21 with rfl | rfl
          all_goals
            go_enter Tryd.func14, Tryd.ntmps14
            go_wp2_with (go_at_call 25; refine HD.out.mono ?_; rintro e w1 ⟨rfl, hb1⟩)
            go_ret
            exact ⟨ret_int HS.out, below_on hb1 (below_one _ _)⟩
        · have HS : Hid (-1 = A.tgtM R) := hid (by rw [← HR.out, if_neg (fun h => hhi h.2)]; rfl)
          have hhi' : (n : Int) < (p : Int) + 1 + imm := by omega
          clear HR hhi
          rcases h21 with rfl | rfl
          all_goals
            go_enter Tryd.func14, Tryd.ntmps14
            go_wp2_with (go_at_call 25; refine HD.out.mono ?_; rintro e w1 ⟨rfl, hb1⟩)
            go_ret
            exact ⟨ret_int HS.out, below_on hb1 (below_one _ _)⟩
      · have HS : Hid (-1 = A.tgtM R) := hid (by rw [← HR.out, if_neg (fun h => hlo h.1)]; rfl)
        have hlo' : (p : Int) + 1 + imm < 0 := by omega
        clear HR hlo
        rcases h21 with rfl | rfl
        all_goals
          go_enter Tryd.func14, Tryd.ntmps14
          go_wp2_with (go_at_call 25; refine HD.out.mono ?_; rintro e w1 ⟨rfl, hb1⟩)
          go_ret
          exact ⟨ret_int HS.out, below_on hb1 (below_one _ _)⟩
    · have HS : Hid (-1 = A.tgtM R) := hid (by rw [← hR, if_neg (fun h => h21 h.2.1)]; rfl)
      have e1 : (op != 21) = true := by simp; omega
      have e2 : (op != 22) = true := by simp; omega
      clear hR h21
      go_enter Tryd.func14, Tryd.ntmps14
      go_wp2_with (go_at_call 25; refine HD.out.mono ?_; rintro e w1 ⟨rfl, hb1⟩)
      go_ret
      exact ⟨ret_int HS.out, below_on hb1 (below_one _ _)⟩
  · have HS : Hid (-1 = A.tgtM (A.tgt w p n)) := hid (by unfold A.tgt; rw [if_neg (fun h => hE h.1)]; rfl)
    rw [(dec_no hE).1, (dec_no hE).2] at HD
    simp only [Ins.r, Ins.z] at HD
    clear hE
    go_enter Tryd.func14, Tryd.ntmps14
    go_wp2_with (go_at_call 25; refine HD.out.mono ?_; rintro e w1 ⟨rfl, hb1⟩)
    go_ret
    exact ⟨ret_int HS.out, below_on hb1 (below_one _ _)⟩
theorem bap2 (a b c : List UInt8) : (⟨a.toArray⟩ : ByteArray) ++ ⟨b.toArray⟩ ++ ⟨c.toArray⟩ = ⟨(a ++ (b ++ c)).toArray⟩ := by rw [bap, bap, List.append_assoc]
set_option maxRecDepth 40000 in
set_option maxHeartbeats 4000000 in
theorem rtext_any (W : World) (hT : TR W) (w : Int) (w0 : 0 ≤ w) (w1 : w < 4294967296) (lab : List UInt8) (hlab : lab.length ≤ 20) :
    Calls Tryd.prog 16 #[.int .u32 w, .string ⟨lab.toArray⟩] W fun e w' => e = .returned (.string ⟨(A.lin w lab).toArray⟩) ∧ Below W.heap.size W w' := by
  have HD := hid (rdecode_any W hT.s (by have := hT.z; omega) w w0 w1)
  have HT : Hid (∀ x, Below W.heap.size W x → TR x) := hid (fun x hx => hT.on hx)
  clear hT
  by_cases hE : decE w = 0
  · have HI : Hid (Ok6 (dec w)) := hid (ok6 hE)
    have HR : Hid (A.lin w lab = A.lineOf (dec w) lab) := hid (by unfold A.lin; rw [if_pos hE])
    rw [HR.out]
    rw [hE] at HD
    generalize dec w = i at *
    clear HR hE
    obtain ⟨s, hs⟩ : ∃ s, shpI i.op = s := ⟨_, rfl⟩
    obtain ⟨nm, hnm⟩ : ∃ nm : List UInt8, (namI i.op).data.toList = nm := ⟨_, rfl⟩
    have HS := shpI_ok i.op
    rw [hs] at HS
    have HL : Hid (∀ k (h : k < s.size), letter s[k].toNat) := HS.2
    have s3 : (s.size : Int) ≤ 3 := by have := HS.1; omega
    have HN4 : Hid (nm.length ≤ 4) := hid (by rw [← hnm]; exact A.nam_len i.op)
    have HR : Hid (A.lineOf i lab = nm ++ A.opnds i (ltr s) lab) := hid (by unfold A.lineOf; rw [hs, hnm])
    rw [HR.out]
    have HNm : Hid (∀ x, Below W.heap.size W x → Calls Tryd.prog 28 #[.int .i64 i.op] x fun e w' => e = .returned (.string ⟨nm.toArray⟩) ∧ x = w') := hid (fun x hx => by rw [← hnm, ← byteArr]; exact rname_any x (HT.out x hx).n i.op)
    have HSh : Hid (∀ x, Below W.heap.size W x → Calls Tryd.prog 29 #[.int .i64 i.op] x fun e w' => e = .returned (.string s) ∧ x = w') := hid (fun x hx => by rw [← hs]; exact rshape_any x (HT.out x hx).s i.op)
    have HCd : Hid (∀ x, Below W.heap.size W x → Calls Tryd.prog 30 #[.int .i64 i.cond] x fun e w' => e = .returned (.string ⟨(cndI i.cond).data.toList.toArray⟩) ∧ x = w') := hid (fun x hx => by rw [← byteArr]; exact rcname_any x (HT.out x hx).c i.cond)
    have HOL : Hid (∀ l, (A.opnd i l lab).length ≤ 20) := hid (fun l => A.opnd_len i HI.out l lab hlab)
    have HOS : Hid (∀ L, (A.opnds i L lab).length ≤ 21 * L.length) := hid (A.opnds_len i HI.out lab hlab)
    have HSL : Hid (s.size ≤ 3) := HS.1
    clear HR HS hs hnm hlab
    obtain ⟨op, cond, a, b, c, imm⟩ := i
    obtain ⟨⟨o0, o1⟩, ⟨a0, a1⟩, ⟨b0, b1⟩, ⟨c0, c1⟩, ⟨k0, k1⟩, ⟨m0, m1⟩⟩ := HI.out
    simp only at o0 o1 a0 a1 b0 b1 c0 c1 k0 k1 m0 m1 HNm HSh HCd
    simp only [Ins.r] at HD
    obtain ⟨a, rfl⟩ : ∃ n : Nat, a = (n : Int) := ⟨a.toNat, by omega⟩
    obtain ⟨b, rfl⟩ : ∃ n : Nat, b = (n : Int) := ⟨b.toNat, by omega⟩
    obtain ⟨c, rfl⟩ : ∃ n : Nat, c = (n : Int) := ⟨c.toNat, by omega⟩
    clear HI
    go_enter Tryd.func16, Tryd.ntmps16
    go_wp2_with (first | (go_at_call 25; refine HD.out.mono ?_; rintro e w2 ⟨rfl, hb2⟩) | (go_at_call 28; refine (HNm.out _ (below_on hb2 (below_one _ _))).mono ?_; rintro e w3 ⟨rfl, rfl⟩) | (go_at_call 29; refine (HSh.out _ (below_on hb2 (below_one _ _))).mono ?_; rintro e w3 ⟨rfl, rfl⟩))
    have HC0 : Hid (Cel (w2.alloc (Obj.cells #[Value.int IntKind.i64 op, Value.int IntKind.i64 cond, Value.int IntKind.i64 (a : Int), Value.int IntKind.i64 (b : Int), Value.int IntKind.i64 (c : Int), Value.int IntKind.i64 imm] 59)) w2.heap.size 59 [.int .i64 op, .int .i64 cond, .int .i64 (a : Int), .int .i64 (b : Int), .int .i64 (c : Int), .int .i64 imm] ∧ Below W.heap.size W (w2.alloc (Obj.cells #[Value.int IntKind.i64 op, Value.int IntKind.i64 cond, Value.int IntKind.i64 (a : Int), Value.int IntKind.i64 (b : Int), Value.int IntKind.i64 (c : Int), Value.int IntKind.i64 imm] 59))) := hid ⟨Cel.new _ _ _, below_on hb2 (below_one _ _)⟩
    generalize w2.alloc (Obj.cells #[Value.int IntKind.i64 op, Value.int IntKind.i64 cond, Value.int IntKind.i64 (a : Int), Value.int IntKind.i64 (b : Int), Value.int IntKind.i64 (c : Int), Value.int IntKind.i64 imm] 59) = X at *
    generalize w2.heap.size = g at *
    clear HD HNm HSh hb2
    go_loopw [7, 9] (fun ln j wr => ∃ k : Nat, k ≤ s.size ∧ j = .int .i64 k ∧ ln = .string ⟨(nm ++ A.opnds ⟨op, cond, a, b, c, imm⟩ ((ltr s).take k) lab).toArray⟩ ∧ Hid (X = wr)) (fun _ j _ => s.size - (intOf j).toNat)
    case atStart => exact ⟨0, Nat.zero_le _, rfl, by simp [A.opnds], hid rfl⟩
    case round =>
      obtain ⟨k, hk, rfl, rfl, HXX⟩ := hrel
      obtain rfl := HXX.out
      clear HXX
      by_cases hk2 : k < s.size
      · have c9 : (k : Int) < (s.size : Int) := by omega
        obtain ⟨l, hlk⟩ : ∃ l, s[k].toNat = l := ⟨_, rfl⟩
        have HLL : Hid (letter l) := hid (by have := HL.out k hk2; rw [hlk] at this; exact this)
        have HNX : Hid (nm ++ A.opnds ⟨op, cond, a, b, c, imm⟩ ((ltr s).take (k + 1)) lab = (nm ++ A.opnds ⟨op, cond, a, b, c, imm⟩ ((ltr s).take k) lab) ++ (32 :: A.opnd ⟨op, cond, a, b, c, imm⟩ l lab)) := hid (by rw [ltr_snoc s k hk2, A.opnds_snoc, hlk, List.append_assoc])
        have hz1 : (nm ++ A.opnds ⟨op, cond, a, b, c, imm⟩ ((ltr s).take k) lab).length ≤ 100 := by
          have h1 := HN4.out
          have h2 := HOS.out ((ltr s).take k)
          have h3 := HSL.out
          have h4 : ((ltr s).take k).length ≤ 3 := by rw [List.length_take, ltr_len]; omega
          rw [List.length_append]
          omega
        generalize nm ++ A.opnds ⟨op, cond, a, b, c, imm⟩ ((ltr s).take k) lab = ln at *
        have x1 := bap ln [32]
        have z0 : X.cell? ⟨g, 1, none⟩ = some (.int .i64 cond) := HC0.out.1.cell 1
        have z2 : X.cell? ⟨g, 2, none⟩ = some (.int .i64 (a : Int)) := HC0.out.1.cell 2
        have z3 : X.cell? ⟨g, 3, none⟩ = some (.int .i64 (b : Int)) := HC0.out.1.cell 3
        have z4 : X.cell? ⟨g, 4, none⟩ = some (.int .i64 (c : Int)) := HC0.out.1.cell 4
        have z5 : X.cell? ⟨g, 5, none⟩ = some (.int .i64 imm) := HC0.out.1.cell 5
        clear HOS
        rcases HLL.out with rfl | rfl | rfl | rfl | rfl | rfl | rfl
        · have HN : Hid (nm ++ A.opnds ⟨op, cond, a, b, c, imm⟩ ((ltr s).take (k + 1)) lab = ln ++ (32 :: 114 :: Lib.decDigits a)) := hid (by rw [HNX.out]; rfl)
          have HTn := hid (rTens_any X a (by omega))
          have hz := dec_len a (by omega)
          have x2 := bap (ln ++ [32]) [114]
          have x3 := bap (ln ++ [32] ++ [114]) (Lib.decDigits a)
          have HE : Hid (ln ++ [32] ++ [114] ++ Lib.decDigits a = ln ++ (32 :: 114 :: Lib.decDigits a)) := hid (by simp)
          generalize Lib.decDigits a = dd at *
          clear HNX HLL HOL
          go_wp2_with (go_at_call 15; refine HTn.out.mono ?_; rintro e w9 ⟨rfl, rfl⟩)
          go_roundw
          case measure => simp [intOf]; omega
          case rel => exact ⟨k + 1, by omega, by go_num, by first | (simp [HN.out]; done) | simp [HN.out, bap], trivial⟩
        · have HN : Hid (nm ++ A.opnds ⟨op, cond, a, b, c, imm⟩ ((ltr s).take (k + 1)) lab = ln ++ (32 :: 114 :: Lib.decDigits b)) := hid (by rw [HNX.out]; rfl)
          have HTn := hid (rTens_any X b (by omega))
          have hz := dec_len b (by omega)
          have x2 := bap (ln ++ [32]) [114]
          have x3 := bap (ln ++ [32] ++ [114]) (Lib.decDigits b)
          have HE : Hid (ln ++ [32] ++ [114] ++ Lib.decDigits b = ln ++ (32 :: 114 :: Lib.decDigits b)) := hid (by simp)
          generalize Lib.decDigits b = dd at *
          clear HNX HLL HOL
          go_wp2_with (go_at_call 15; refine HTn.out.mono ?_; rintro e w9 ⟨rfl, rfl⟩)
          go_roundw
          case measure => simp [intOf]; omega
          case rel => exact ⟨k + 1, by omega, by go_num, by first | (simp [HN.out]; done) | simp [HN.out, bap], trivial⟩
        · have HN : Hid (nm ++ A.opnds ⟨op, cond, a, b, c, imm⟩ ((ltr s).take (k + 1)) lab = ln ++ (32 :: 114 :: Lib.decDigits c)) := hid (by rw [HNX.out]; rfl)
          have HTn := hid (rTens_any X c (by omega))
          have hz := dec_len c (by omega)
          have x2 := bap (ln ++ [32]) [114]
          have x3 := bap (ln ++ [32] ++ [114]) (Lib.decDigits c)
          have HE : Hid (ln ++ [32] ++ [114] ++ Lib.decDigits c = ln ++ (32 :: 114 :: Lib.decDigits c)) := hid (by simp)
          generalize Lib.decDigits c = dd at *
          clear HNX HLL HOL
          go_wp2_with (go_at_call 15; refine HTn.out.mono ?_; rintro e w9 ⟨rfl, rfl⟩)
          go_roundw
          case measure => simp [intOf]; omega
          case rel => exact ⟨k + 1, by omega, by go_num, by first | (simp [HN.out]; done) | simp [HN.out, bap], trivial⟩
        · have HN : Hid (nm ++ A.opnds ⟨op, cond, a, b, c, imm⟩ ((ltr s).take (k + 1)) lab = ln ++ (32 :: (cndI cond).data.toList)) := hid (by rw [HNX.out]; rfl)
          have hz : (cndI cond).data.toList.length ≤ 2 := A.cnd_len cond
          have x2 := bap (ln ++ [32]) (cndI cond).data.toList
          have HE : Hid (ln ++ [32] ++ (cndI cond).data.toList = ln ++ (32 :: (cndI cond).data.toList)) := hid (by simp)
          have HC1 := hid (HCd.out X HC0.out.2)
          generalize (cndI cond).data.toList = dd at *
          clear HNX HLL HOL HCd
          go_wp2_with (go_at_call 30; refine HC1.out.mono ?_; rintro e w9 ⟨rfl, rfl⟩)
          go_roundw
          case measure => simp [intOf]; omega
          case rel => exact ⟨k + 1, by omega, by go_num, by first | (simp [HN.out]; done) | simp [HN.out, bap], trivial⟩
        · have HN : Hid (nm ++ A.opnds ⟨op, cond, a, b, c, imm⟩ ((ltr s).take (k + 1)) lab = ln ++ (32 :: Lib.itoa imm)) := hid (by rw [HNX.out]; rfl)
          have HTn := hid (rMinus_any X imm (by omega) (by omega))
          have hz := A.itoa_len imm (by omega) (by omega)
          have x2 := bap (ln ++ [32]) (Lib.itoa imm)
          have HE : Hid (ln ++ [32] ++ Lib.itoa imm = ln ++ (32 :: Lib.itoa imm)) := hid (by simp)
          generalize Lib.itoa imm = dd at *
          clear HNX HLL HOL
          go_wp2_with (go_at_call 31; refine HTn.out.mono ?_; rintro e w9 ⟨rfl, rfl⟩)
          go_roundw
          case measure => simp [intOf]; omega
          case rel => exact ⟨k + 1, by omega, by go_num, by first | (simp [HN.out]; done) | simp [HN.out, bap], trivial⟩
        · have HN : Hid (nm ++ A.opnds ⟨op, cond, a, b, c, imm⟩ ((ltr s).take (k + 1)) lab = ln ++ (32 :: Lib.itoa imm)) := hid (by rw [HNX.out]; rfl)
          have HTn := hid (rMinus_any X imm (by omega) (by omega))
          have hz := A.itoa_len imm (by omega) (by omega)
          have x2 := bap (ln ++ [32]) (Lib.itoa imm)
          have HE : Hid (ln ++ [32] ++ Lib.itoa imm = ln ++ (32 :: Lib.itoa imm)) := hid (by simp)
          generalize Lib.itoa imm = dd at *
          clear HNX HLL HOL
          go_wp2_with (go_at_call 31; refine HTn.out.mono ?_; rintro e w9 ⟨rfl, rfl⟩)
          go_roundw
          case measure => simp [intOf]; omega
          case rel => exact ⟨k + 1, by omega, by go_num, by first | (simp [HN.out]; done) | simp [HN.out, bap], trivial⟩
        · cases lab with
          | nil =>
            have HN : Hid (nm ++ A.opnds ⟨op, cond, a, b, c, imm⟩ ((ltr s).take (k + 1)) [] = ln ++ (32 :: Lib.itoa imm)) := hid (by rw [HNX.out]; rfl)
            have HTn := hid (rMinus_any X imm (by omega) (by omega))
            have hz := A.itoa_len imm (by omega) (by omega)
            have x2 := bap (ln ++ [32]) (Lib.itoa imm)
            have HE : Hid (ln ++ [32] ++ Lib.itoa imm = ln ++ (32 :: Lib.itoa imm)) := hid (by simp)
            generalize Lib.itoa imm = dd at *
            clear HNX HLL HOL
            go_wp2_with (go_at_call 31; refine HTn.out.mono ?_; rintro e w9 ⟨rfl, rfl⟩)
            go_roundw
            case measure => simp [intOf]; omega
            case rel => exact ⟨k + 1, by omega, by go_num, by first | (simp [HN.out]; done) | simp [HN.out, bap], trivial⟩
          | cons y0 t0 =>
            have q : (y0 :: t0).isEmpty = false := rfl
            have HN : Hid (nm ++ A.opnds ⟨op, cond, a, b, c, imm⟩ ((ltr s).take (k + 1)) (y0 :: t0) = ln ++ (32 :: (y0 :: t0))) := hid (by rw [HNX.out]; simp [A.opnd])
            have hz := HOL.out 111
            rw [show A.opnd ⟨op, cond, a, b, c, imm⟩ 111 (y0 :: t0) = y0 :: t0 by simp [A.opnd]] at hz
            have HE : Hid (ln ++ [32] ++ (y0 :: t0) = ln ++ (32 :: (y0 :: t0))) := hid (by simp)
            have x2 := bap (ln ++ [32]) (y0 :: t0)
            clear HNX HLL HOL HCd
            generalize y0 :: t0 = dd at *
            go_wp2_with fail
            go_roundw
            case measure => simp [intOf]; omega
            case rel => exact ⟨k + 1, by omega, by go_num, by first | (simp [HN.out]; done) | simp [HN.out, bap], trivial⟩
      · obtain rfl : k = s.size := by omega
        have HF : Hid (A.opnds ⟨op, cond, a, b, c, imm⟩ ((ltr s).take s.size) lab = A.opnds ⟨op, cond, a, b, c, imm⟩ (ltr s) lab) := hid (by rw [show (ltr s).take s.size = ltr s by rw [← ltr_len, List.take_length]])
        rw [HF.out]
        clear HOL HOS hk hk2
        go_wp2_with fail
        go_ret
        exact ⟨rfl, HC0.out.2⟩
  · have HR : Hid (A.lin w lab = [119, 111, 114, 100, 32] ++ T.hexed8 w.toNat) := hid (by unfold A.lin; rw [if_neg hE])
    rw [HR.out]
    rw [(dec_no hE).1, (dec_no hE).2] at HD
    simp only [Ins.r, Ins.z] at HD
    obtain ⟨u, rfl⟩ : ∃ u : Nat, w = (u : Int) := ⟨w.toNat, by omega⟩
    have u1 : u < 4294967296 := by omega
    have HH : Hid (∀ x, Calls Tryd.prog 27 #[.int .u32 (u : Int)] x fun e W' => e = .returned (.string ⟨(T.hexed8 u).toArray⟩) ∧ x = W') := hid (fun x => rHexed_any x u u1)
    have hz := A.hexed_len u
    have x2 := bap [119, 111, 114, 100, 32] (T.hexed8 u)
    rw [show ((u : Int)).toNat = u from rfl]
    generalize T.hexed8 u = t at *
    clear hE HR hlab
    go_enter Tryd.func16, Tryd.ntmps16
    go_wp2_with (first | (go_at_call 25; refine HD.out.mono ?_; rintro e w2 ⟨rfl, hb2⟩) | (go_at_call 27; refine (HH.out _).mono ?_; rintro e w3 ⟨rfl, rfl⟩))
    go_ret
    exact ⟨ret_str rfl, below_on hb2 (below_one _ _)⟩
theorem rline_any (W : World) (hT : TR W) (w : Int) (w0 : 0 ≤ w) (w1 : w < 4294967296) :
    Calls Tryd.prog 8 #[.int .u32 w] W fun e w' => e = .returned (.string ⟨(A.lin w []).toArray⟩) ∧ Below W.heap.size W w' := by
  have HL : Hid (Calls Tryd.prog 16 #[.int .u32 w, .string ⟨#[]⟩] W fun e w' => e = .returned (.string ⟨(A.lin w []).toArray⟩) ∧ Below W.heap.size W w') := hid (rtext_any W hT w w0 w1 [] (by decide))
  clear hT
  generalize A.lin w [] = t at *
  go_enter Tryd.func8, Tryd.ntmps8
  go_wp2_with (go_at_call 16; refine HL.out.mono ?_; rintro e w3 ⟨rfl, hb3⟩)
  go_ret
  exact ⟨rfl, hb3⟩
end Go.Proofs.YtncnogndopgknaaDoor
