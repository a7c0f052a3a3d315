import Derived.Test.YtncnogndopgknaaGreatDoorP35
import Derived.Test.YtncnogndopgknaaGreatDoorP01
namespace Go.Proofs.YtncnogndopgknaaGreatDoor
open Go.RowKit
namespace A
def tgtN (o : Option Nat) : Int := match o with | some t => t | none => 0
end A
theorem ret_ib {x : Int} {a b : Bool} (h : a = b) : Ending.returned (.tuple #[.int .i64 x, .bool a]) = .returned (.tuple #[.int .i64 x, .bool b]) := by rw [h]
theorem targetOf_any (W : World) (hT : TB W) (w : Int) (w0 : 0 ≤ w) (w1 : w < 4294967296) (p n : Nat) (hp : p ≤ 1000000000) (hn : n ≤ 1000000000) :
    Calls Tryz.prog 50 #[.int .u32 w, .int .i64 (p : Int), .int .i64 (n : Int)] W fun e w' => (∃ x : Int, e = .returned (.tuple #[.int .i64 x, .bool (A.tgt w p n).isSome]) ∧ ∀ t, A.tgt w p n = some t → x = (t : Int)) ∧ Below W.heap.size W w' := by
  have HD := hid (decode_any W hT.f hT.t (by have := hT.z; omega) w w0 w1)
  have p1 : (p : Int) ≤ 1000000000 := by omega
  have n1 : (n : Int) ≤ 1000000000 := by omega
  clear hT hp hn
  by_cases hE : decE w = 0
  · have hi := ok6 hE
    obtain ⟨R, hR⟩ : ∃ R, A.tgt w p n = R := ⟨_, rfl⟩
    have hR' := hR
    unfold A.tgt at hR
    rw [hE] at HD hR
    rw [hR']
    generalize hd : dec w = i at *
    clear hR' hd hE
    obtain ⟨op, cond, a, b, c, imm⟩ := i
    obtain ⟨⟨o0, o1⟩, _, _, _, _, ⟨m0, m1⟩⟩ := hi
    simp only at o0 o1 m0 m1 hR
    simp only [Ins.v] at HD
    by_cases h21 : op = 21 ∨ op = 22
    · have HR : Hid ((if 0 ≤ (p : Int) + 1 + imm ∧ (p : Int) + 1 + imm ≤ n then some ((p : Int) + 1 + imm).toNat else none) = R) := hid (by rw [← hR]; simp only [true_and, h21])
      clear hR
      by_cases hlo : 0 ≤ (p : Int) + 1 + imm
      · by_cases hhi : (p : Int) + 1 + imm ≤ n
        · have HS : Hid (R = some ((p : Int) + 1 + imm).toNat) := hid (by rw [← HR.out, if_pos ⟨hlo, hhi⟩])
          clear HR
          rcases h21 with rfl | rfl
          all_goals
            go_enter Tryz.func50, Tryz.ntmps50
            go_wp2_with (go_at_call 29; refine HD.out.mono ?_; rintro e w1 ⟨rfl, hb1⟩)
            go_ret2
            exact ⟨⟨_, by rw [HS.out]; rfl, fun t ht => by rw [HS.out] at ht; injection ht; omega⟩, below_on hb1 (below_one _ _)⟩
        · have HS : Hid (R = none) := hid (by rw [← HR.out, if_neg (fun h => hhi h.2)])
          have hhi' : (n : Int) < (p : Int) + 1 + imm := by omega
          clear HR hhi
          rcases h21 with rfl | rfl
          all_goals
            go_enter Tryz.func50, Tryz.ntmps50
            go_wp2_with (go_at_call 29; refine HD.out.mono ?_; rintro e w1 ⟨rfl, hb1⟩)
            go_ret2
            exact ⟨⟨(p : Int) + 1 + imm, by rw [HS.out]; exact ret_ib (by simp; omega), fun t ht => by rw [HS.out] at ht; cases ht⟩, below_on hb1 (below_one _ _)⟩
      · have HS : Hid (R = none) := hid (by rw [← HR.out, if_neg (fun h => hlo h.1)])
        have hlo' : (p : Int) + 1 + imm < 0 := by omega
        clear HR hlo
        rcases h21 with rfl | rfl
        all_goals
          go_enter Tryz.func50, Tryz.ntmps50
          go_wp2_with (go_at_call 29; refine HD.out.mono ?_; rintro e w1 ⟨rfl, hb1⟩)
          go_ret2
          exact ⟨⟨_, by rw [HS.out]; rfl, fun t ht => by rw [HS.out] at ht; cases ht⟩, below_on hb1 (below_one _ _)⟩
    · have HS : Hid (R = none) := hid (by rw [← hR, if_neg (fun h => h21 h.2.1)])
      have e1 : (op != 21) = true := by simp; omega
      have e2 : (op != 22) = true := by simp; omega
      clear hR h21
      go_enter Tryz.func50, Tryz.ntmps50
      go_wp2_with (go_at_call 29; refine HD.out.mono ?_; rintro e w1 ⟨rfl, hb1⟩)
      go_ret2
      exact ⟨⟨_, by rw [HS.out]; rfl, fun t ht => by rw [HS.out] at ht; cases ht⟩, below_on hb1 (below_one _ _)⟩
  · have HS : Hid (A.tgt w p n = none) := hid (by unfold A.tgt; rw [if_neg (fun h => hE h.1)])
    rw [(dec_no hE).1, (dec_no hE).2] at HD
    simp only [Ins.v, Ins.z] at HD
    clear hE
    go_enter Tryz.func50, Tryz.ntmps50
    go_wp2_with (go_at_call 29; refine HD.out.mono ?_; rintro e w1 ⟨rfl, hb1⟩)
    go_ret2
    exact ⟨⟨_, by rw [HS.out]; rfl, fun t ht => by rw [HS.out] at ht; cases ht⟩, below_on hb1 (below_one _ _)⟩
end Go.Proofs.YtncnogndopgknaaGreatDoor
namespace Go.Proofs.YtncnogndopgknaaGreatDoor
open Go.RowKit
set_option maxRecDepth 40000 in
set_option maxHeartbeats 2000000 in
theorem lineWith_any (W : World) (hT : TB W) (w : Int) (w0 : 0 ≤ w) (w1 : w < 4294967296) (lab : List UInt8) (hlab : lab.length ≤ 20) :
    Calls Tryz.prog 32 #[.int .u32 w, .string ⟨lab.toArray⟩] W fun e w' => e = .returned (.string ⟨(A.lin w lab).toArray⟩) ∧ Below W.heap.size W w' := by
  have HD := hid (decode_any W hT.f hT.t (by have := hT.z; omega) w w0 w1)
  have HT : Hid (∀ x, Below W.heap.size W x → TB x) := hid (fun x hx => hT.on hx)
  clear hT
  by_cases hE : decE w = 0
  · have HI : Hid (Ok6 (dec w)) := hid (ok6 hE)
    have HR : Hid (A.lin w lab = A.lineOf (dec w) lab) := hid (by unfold A.lin; rw [if_pos hE])
    rw [HR.out]
    rw [hE] at HD
    generalize dec w = i at *
    clear HR hE
    obtain ⟨s, hs⟩ : ∃ s, shpI i.op = s := ⟨_, rfl⟩
    obtain ⟨nm, hnm⟩ : ∃ nm : List UInt8, (namI i.op).data.toList = nm := ⟨_, rfl⟩
    have HS := shpI_ok i.op
    rw [hs] at HS
    have HL : Hid (∀ k (h : k < s.size), letter s[k].toNat) := HS.2
    have s3 : (s.size : Int) ≤ 3 := by have := HS.1; omega
    have HN4 : Hid (nm.length ≤ 4) := hid (by rw [← hnm]; exact A.nam_len i.op)
    have HR : Hid (A.lineOf i lab = nm ++ A.opnds i (ltr s) lab) := hid (by unfold A.lineOf; rw [hs, hnm])
    rw [HR.out]
    have HNm : Hid (∀ x, Below W.heap.size W x → Calls Tryz.prog 52 #[.int .i64 i.op] x fun e w' => e = .returned (.string ⟨nm.toArray⟩) ∧ x = w') := hid (fun x hx => by rw [← hnm, ← byteArr]; exact iname_any x (HT.out x hx).fn i.op)
    have HSh : Hid (∀ x, Below W.heap.size W x → Calls Tryz.prog 47 #[.int .i64 i.op] x fun e w' => e = .returned (.string s) ∧ x = w') := hid (fun x hx => by rw [← hs]; exact shape_any x (HT.out x hx).f i.op)
    have HOT : Hid (∀ x (l : Nat), Below W.heap.size W x → letter l → Calls Tryz.prog 53 #[i.v, .int .u8 (l : Int), .string ⟨lab.toArray⟩] x fun e w' => e = .returned (.string ⟨(A.opnd i l lab).toArray⟩) ∧ Below x.heap.size x w') := hid (fun x l hx h => opText_any x (HT.out x hx) i HI.out l h _ rfl lab hlab)
    have HOL : Hid (∀ l, (A.opnd i l lab).length ≤ 20) := hid (fun l => A.opnd_len i HI.out l lab hlab)
    have HOS : Hid (∀ L, (A.opnds i L lab).length ≤ 21 * L.length) := hid (A.opnds_len i HI.out lab hlab)
    have HSL : Hid (s.size ≤ 3) := HS.1
    clear HR HS hs hnm HI hlab
    obtain ⟨op, cond, a, b, c, imm⟩ := i
    generalize hii : (Ins.mk op cond a b c imm) = I at *
    have HII : Hid (I.v = .agg #[.int .i64 op, .int .i64 cond, .int .i64 a, .int .i64 b, .int .i64 c, .int .i32 imm] ∧ I.op = op ∧ I.cs = [.int .i64 op, .int .i64 cond, .int .i64 a, .int .i64 b, .int .i64 c, .int .i32 imm]) := hid (by rw [← hii]; exact ⟨rfl, rfl, rfl⟩)
    rw [HII.out.1] at HD
    rw [HII.out.2.1] at HNm HSh
    clear hii
    go_enter Tryz.func32, Tryz.ntmps32
    go_wp2_with (first | (go_at_call 29; refine HD.out.mono ?_; rintro e w2 ⟨rfl, hb2⟩) | (go_at_call 52; refine (HNm.out _ (below_on hb2 (below_one _ _))).mono ?_; rintro e w3 ⟨rfl, rfl⟩) | (go_at_call 47; refine (HSh.out _ (below_on hb2 (below_one _ _))).mono ?_; rintro e w3 ⟨rfl, rfl⟩))
    have HC0 : Hid (Cel (w2.alloc (Obj.cells #[Value.int IntKind.i64 op, Value.int IntKind.i64 cond, Value.int IntKind.i64 a, Value.int IntKind.i64 b, Value.int IntKind.i64 c, Value.int IntKind.i32 imm] 84)) w2.heap.size 84 I.cs ∧ Below W.heap.size W (w2.alloc (Obj.cells #[Value.int IntKind.i64 op, Value.int IntKind.i64 cond, Value.int IntKind.i64 a, Value.int IntKind.i64 b, Value.int IntKind.i64 c, Value.int IntKind.i32 imm] 84))) := hid ⟨by rw [HII.out.2.2]; exact Cel.new _ _ _, below_on hb2 (below_one _ _)⟩
    generalize w2.alloc (Obj.cells #[Value.int IntKind.i64 op, Value.int IntKind.i64 cond, Value.int IntKind.i64 a, Value.int IntKind.i64 b, Value.int IntKind.i64 c, Value.int IntKind.i32 imm] 84) = X at *
    generalize w2.heap.size = g at *
    clear HD HNm HSh hb2 HII
    go_loopw [7, 9, 28] (fun ln _ j wr => ∃ k : Nat, k ≤ s.size ∧ j = .int .i64 k ∧ ln = .string ⟨(nm ++ A.opnds I ((ltr s).take k) lab).toArray⟩ ∧ Hid (Cel wr g 84 I.cs ∧ Below W.heap.size W wr)) (fun _ _ j _ => s.size - (intOf j).toNat)
    case atStart => exact ⟨0, Nat.zero_le _, rfl, by simp [A.opnds], HC0⟩
    case round =>
      clear HC0
      obtain ⟨k, hk, rfl, rfl, HC⟩ := hrel
      by_cases hk2 : k < s.size
      · have c1 : (k : Int) < (s.size : Int) := by omega
        obtain ⟨l, hlk⟩ : ∃ l, s[k].toNat = l := ⟨_, rfl⟩
        have HLL : Hid (letter l) := hid (by have := HL.out k hk2; rw [hlk] at this; exact this)
        have HNX : Hid (nm ++ A.opnds I ((ltr s).take (k + 1)) lab = (nm ++ A.opnds I ((ltr s).take k) lab) ++ (32 :: A.opnd I l lab)) := hid (by rw [ltr_snoc s k hk2, A.opnds_snoc, hlk, List.append_assoc])
        have hz1 : (nm ++ A.opnds I ((ltr s).take k) lab).length ≤ 100 := by
          have h1 := HN4.out
          have h2 := HOS.out ((ltr s).take k)
          have h3 := HSL.out
          have h4 : ((ltr s).take k).length ≤ 3 := by rw [List.length_take, ltr_len]; omega
          rw [List.length_append]
          omega
        have hz2 := HOL.out l
        have HC24 : Hid (∀ x, Below W.heap.size W x → Calls Tryz.prog 53 #[I.v, .int .u8 (l : Int), .string ⟨lab.toArray⟩] x fun e w' => e = .returned (.string ⟨(A.opnd I l lab).toArray⟩) ∧ Below x.heap.size x w') := hid (fun x hx => HOT.out x l hx HLL.out)
        have x2 := bapp 32 (A.opnd I l lab)
        have x3 := bap (nm ++ A.opnds I ((ltr s).take k) lab) (32 :: A.opnd I l lab)
        generalize A.opnd I l lab = o at *
        generalize nm ++ A.opnds I ((ltr s).take k) lab = ln at *
        clear HOT HOL HOS HLL
        go_wp2_with fail
        have HR0 : Hid (∀ x, Cel x g 84 I.cs ∧ Below W.heap.size W x → x.rangeAt g 0 I.cs) := hid (fun x h => h.1.range)
        refine wp_region_held_drew (S := fun x => Cel x g 84 I.cs ∧ Below W.heap.size W x) (by kernel_rfl) (⟨HC.out.1.on (Below.refl _ _).drew, below_on HC.out.2 (Below.refl _ _).drew⟩) (fun hHeld => ?_)
        refine tk 0 ⟨some 31, .move (.tmp 7), 9, "print.go:79", #[], none⟩ (.string ⟨ln.toArray⟩) ?_
        simp only [Act.put, List.setIfInBounds_toArray, List.set_cons_zero, List.set_cons_succ]
        refine tk 1 ⟨some 32, .load 84 (.tmp 5), 84, "print.go:79", #[], none⟩ I.v ?_ (hy := yieldsIf_load_mid (by rfl) _ _ rfl _ _ rfl _ _ (fun w hSw => HR0.out w hSw) Tryz.underlying84 rfl size27)
        simp only [Act.put, List.setIfInBounds_toArray, List.set_cons_zero, List.set_cons_succ]
        refine tk 2 ⟨some 33, .move (.tmp 8), 9, "print.go:79", #[], none⟩ (.string s) ?_
        simp only [Act.put, List.setIfInBounds_toArray, List.set_cons_zero, List.set_cons_succ]
        refine tk 3 ⟨some 34, .move (.tmp 9), 3, "print.go:79", #[], none⟩ (.int .i64 (k : Int)) ?_
        simp only [Act.put, List.setIfInBounds_toArray, List.set_cons_zero, List.set_cons_succ]
        refine tk 4 ⟨some 35, .index 9 (.tmp 33) (.tmp 34), 5, "print.go:79", #[⟨2, .data⟩, ⟨3, .data⟩], none⟩ (.int .u8 (l : Int)) ?_
        simp only [Act.put, List.setIfInBounds_toArray, List.set_cons_zero, List.set_cons_succ]
        refine tk 5 ⟨some 36, .move (.tmp 1), 9, "print.go:79", #[], none⟩ (.string ⟨lab.toArray⟩) ?_
        simp only [Act.put, List.setIfInBounds_toArray, List.set_cons_zero, List.set_cons_succ]
        refine wpAnyH_ready (rs := [6]) (by kernel_rfl) (by simp) (AllReadyH.cons (o := ⟨some 37, .call { callee := .value (.func 53), args := #[.tmp 32, .tmp 35, .tmp 36], argTypes := #[84, 5, 9] }, 9, "print.go:79", #[⟨1, .data⟩, ⟨4, .data⟩, ⟨5, .data⟩], none⟩) rfl (fun KQ hK => ?_) AllReadyH.nil)
        go_simp
        refine (HC24.out _ (below_on HC.out.2 (Below.refl _ _).drew)).mono ?_
        rintro e w9 ⟨rfl, hb9⟩
        have HC9 : Hid (Cel w9 g 84 I.cs ∧ Below W.heap.size W w9) := hid ⟨(HC.out.1.on (Below.refl _ _).drew).on hb9, below_on (below_on HC.out.2 (Below.refl _ _).drew) hb9⟩
        go_wp2_with fail
        refine hK.out _ _ HC9.out (fun hHeld => ?_)
        clear hK KQ
        try simp only [Act.put, List.setIfInBounds_toArray, List.set_cons_zero, List.set_cons_succ]
        refine tk 7 ⟨some 38, .binOp .add 9 (.const (.string { data := #[32] })) (.tmp 37) 9, 9, "print.go:79", #[⟨6, .data⟩], none⟩ (.string ⟨(32 :: o).toArray⟩) ?_ (hy := Or.inl ⟨by rfl, by intro w hSw; go_simp; omega⟩)
        simp only [Act.put, List.setIfInBounds_toArray, List.set_cons_zero, List.set_cons_succ]
        refine tk 8 ⟨some 39, .binOp .add 9 (.tmp 31) (.tmp 38) 9, 9, "print.go:79", #[⟨0, .data⟩, ⟨7, .data⟩], none⟩ (.string ⟨(ln ++ (32 :: o)).toArray⟩) ?_ (hy := Or.inl ⟨by rfl, by intro w hSw; go_simp; omega⟩)
        simp only [Act.put, List.setIfInBounds_toArray, List.set_cons_zero, List.set_cons_succ]
        refine wpAnyH_ready (rs := [9]) (by kernel_rfl) (by simp) (AllReadyH.cons (o := ⟨some 7, .assign (.tmp 39), 9, "print.go:79", #[⟨8, .data⟩, ⟨6, .chain⟩, ⟨0, .phase⟩, ⟨1, .phase⟩, ⟨2, .phase⟩, ⟨3, .phase⟩, ⟨4, .phase⟩, ⟨5, .phase⟩, ⟨6, .phase⟩, ⟨7, .phase⟩, ⟨8, .phase⟩], none⟩) rfl (fun KQ hK => ?_) AllReadyH.nil)
        go_simp
        refine hK.out _ _ HC9.out (fun hHeld => ?_)
        clear hK KQ
        try simp only [Act.put, List.setIfInBounds_toArray, List.set_cons_zero, List.set_cons_succ]
        refine wpAnyH_done (by kernel_rfl) ?_ _
        clear hHeld
        go_wp2_with fail
        go_roundw
        case measure => simp [intOf]; omega
        case rel => exact ⟨k + 1, by omega, by go_num, by rw [HNX.out], HC9⟩
      · obtain rfl : k = s.size := by omega
        have HF : Hid (A.opnds I ((ltr s).take s.size) lab = A.opnds I (ltr s) lab) := hid (by rw [show (ltr s).take s.size = ltr s by rw [← ltr_len, List.take_length]])
        rw [HF.out]
        clear HOT HOL HOS hk hk2
        go_wp2_with fail
        go_ret
        exact ⟨rfl, HC.out.2⟩
  · have HR : Hid (A.lin w lab = [119, 111, 114, 100, 32] ++ T.hexed8 w.toNat) := hid (by unfold A.lin; rw [if_neg hE])
    rw [HR.out]
    rw [(dec_no hE).1, (dec_no hE).2] at HD
    simp only [Ins.v, Ins.z] at HD
    obtain ⟨u, rfl⟩ : ∃ u : Nat, w = (u : Int) := ⟨w.toNat, by omega⟩
    have u1 : u < 4294967296 := by omega
    have HH : Hid (∀ x, Calls Tryz.prog 26 #[.int .u32 (u : Int)] x fun e W' => e = .returned (.string ⟨(T.hexed8 u).toArray⟩) ∧ Below x.heap.size x W') := hid (fun x => hexed_text x u u1)
    have hz := A.hexed_len u
    have x2 := bap [119, 111, 114, 100, 32] (T.hexed8 u)
    rw [show ((u : Int)).toNat = u from rfl]
    generalize T.hexed8 u = t at *
    clear hE HR hlab
    go_enter Tryz.func32, Tryz.ntmps32
    go_wp2_with (first | (go_at_call 29; refine HD.out.mono ?_; rintro e w2 ⟨rfl, hb2⟩) | (go_at_call 26; refine (HH.out _).mono ?_; rintro e w3 ⟨rfl, hb3⟩))
    go_ret
    exact ⟨ret_str rfl, below_on (below_on hb2 (below_one _ _)) hb3⟩
end Go.Proofs.YtncnogndopgknaaGreatDoor
