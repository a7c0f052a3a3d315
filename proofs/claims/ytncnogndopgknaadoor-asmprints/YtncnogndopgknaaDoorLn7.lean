/- asm's lineWith (11), Line (7). -/
import Derived.Test.YtncnogndopgknaaDoorLn6
namespace Go.Proofs.YtncnogndopgknaaDoor
open Go.RowKit
set_option maxRecDepth 40000 in
set_option maxHeartbeats 2000000 in
theorem lineWith_any (W : World) (hT : TB W) (w : Int) (w0 : 0 ≤ w) (w1 : w < 4294967296) (lab : List UInt8) (hlab : lab.length ≤ 20) :
    Calls Tryd.prog 11 #[.int .u32 w, .string ⟨lab.toArray⟩] W fun e w' => e = .returned (.string ⟨(A.lin w lab).toArray⟩) ∧ Below W.heap.size W w' := by
  have HD := hid (decode_any W hT.f hT.t (by have := hT.z; omega) w w0 w1)
  have HT : Hid (∀ x, Below W.heap.size W x → TB x) := hid (fun x hx => hT.on hx)
  clear hT
  by_cases hE : decE w = 0
  · have HI : Hid (Ok6 (dec w)) := hid (ok6 hE)
    have HR : Hid (A.lin w lab = A.lineOf (dec w) lab) := hid (by unfold A.lin; rw [if_pos hE])
    rw [HR.out]
    rw [hE] at HD
    generalize dec w = i at *
    clear HR hE
    obtain ⟨s, hs⟩ : ∃ s, shpI i.op = s := ⟨_, rfl⟩
    obtain ⟨nm, hnm⟩ : ∃ nm : List UInt8, (namI i.op).data.toList = nm := ⟨_, rfl⟩
    have HS := shpI_ok i.op
    rw [hs] at HS
    have HL : Hid (∀ k (h : k < s.size), letter s[k].toNat) := HS.2
    have s3 : (s.size : Int) ≤ 3 := by have := HS.1; omega
    have HN4 : Hid (nm.length ≤ 4) := hid (by rw [← hnm]; exact A.nam_len i.op)
    have HR : Hid (A.lineOf i lab = nm ++ A.opnds i (ltr s) lab) := hid (by unfold A.lineOf; rw [hs, hnm])
    rw [HR.out]
    have HNm : Hid (∀ x, Below W.heap.size W x → Calls Tryd.prog 22 #[.int .i64 i.op] x fun e w' => e = .returned (.string ⟨nm.toArray⟩) ∧ x = w') := hid (fun x hx => by rw [← hnm, ← byteArr]; exact name_any x (HT.out x hx).fn i.op)
    have HSh : Hid (∀ x, Below W.heap.size W x → Calls Tryd.prog 23 #[.int .i64 i.op] x fun e w' => e = .returned (.string s) ∧ x = w') := hid (fun x hx => by rw [← hs]; exact shape_any x (HT.out x hx).f i.op)
    have HOT : Hid (∀ x (l : Nat), Below W.heap.size W x → letter l → Calls Tryd.prog 24 #[i.v, .int .u8 (l : Int), .string ⟨lab.toArray⟩] x fun e w' => e = .returned (.string ⟨(A.opnd i l lab).toArray⟩) ∧ Below x.heap.size x w') := hid (fun x l hx h => opText_any x (HT.out x hx) i HI.out l h _ rfl lab hlab)
    have HOL : Hid (∀ l, (A.opnd i l lab).length ≤ 20) := hid (fun l => A.opnd_len i HI.out l lab hlab)
    have HOS : Hid (∀ L, (A.opnds i L lab).length ≤ 21 * L.length) := hid (A.opnds_len i HI.out lab hlab)
    have HSL : Hid (s.size ≤ 3) := HS.1
    clear HR HS hs hnm HI hlab
    obtain ⟨op, cond, a, b, c, imm⟩ := i
    generalize hii : (Ins.mk op cond a b c imm) = I at *
    have HII : Hid (I.v = .agg #[.int .i64 op, .int .i64 cond, .int .i64 a, .int .i64 b, .int .i64 c, .int .i32 imm] ∧ I.op = op ∧ I.cs = [.int .i64 op, .int .i64 cond, .int .i64 a, .int .i64 b, .int .i64 c, .int .i32 imm]) := hid (by rw [← hii]; exact ⟨rfl, rfl, rfl⟩)
    rw [HII.out.1] at HD
    rw [HII.out.2.1] at HNm HSh
    clear hii
    go_enter Tryd.func11, Tryd.ntmps11
    go_wp2_with (first | (go_at_call 20; refine HD.out.mono ?_; rintro e w2 ⟨rfl, hb2⟩) | (go_at_call 22; refine (HNm.out _ (below_on hb2 (below_one _ _))).mono ?_; rintro e w3 ⟨rfl, rfl⟩) | (go_at_call 23; refine (HSh.out _ (below_on hb2 (below_one _ _))).mono ?_; rintro e w3 ⟨rfl, rfl⟩))
    have HC0 : Hid (Cel (w2.alloc (Obj.cells #[Value.int IntKind.i64 op, Value.int IntKind.i64 cond, Value.int IntKind.i64 a, Value.int IntKind.i64 b, Value.int IntKind.i64 c, Value.int IntKind.i32 imm] 52)) w2.heap.size 52 I.cs ∧ Below W.heap.size W (w2.alloc (Obj.cells #[Value.int IntKind.i64 op, Value.int IntKind.i64 cond, Value.int IntKind.i64 a, Value.int IntKind.i64 b, Value.int IntKind.i64 c, Value.int IntKind.i32 imm] 52))) := hid ⟨by rw [HII.out.2.2]; exact Cel.new _ _ _, below_on hb2 (below_one _ _)⟩
    generalize w2.alloc (Obj.cells #[Value.int IntKind.i64 op, Value.int IntKind.i64 cond, Value.int IntKind.i64 a, Value.int IntKind.i64 b, Value.int IntKind.i64 c, Value.int IntKind.i32 imm] 52) = X at *
    generalize w2.heap.size = g at *
    clear HD HNm HSh hb2 HII
    go_loopw [7, 9, 28] (fun ln _ j wr => ∃ k : Nat, k ≤ s.size ∧ j = .int .i64 k ∧ ln = .string ⟨(nm ++ A.opnds I ((ltr s).take k) lab).toArray⟩ ∧ Hid (Cel wr g 52 I.cs ∧ Below W.heap.size W wr)) (fun _ _ j _ => s.size - (intOf j).toNat)
    case atStart => exact ⟨0, Nat.zero_le _, rfl, by simp [A.opnds], HC0⟩
    case round =>
      clear HC0
      obtain ⟨k, hk, rfl, rfl, HC⟩ := hrel
      by_cases hk2 : k < s.size
      · have c1 : (k : Int) < (s.size : Int) := by omega
        obtain ⟨l, hlk⟩ : ∃ l, s[k].toNat = l := ⟨_, rfl⟩
        have HLL : Hid (letter l) := hid (by have := HL.out k hk2; rw [hlk] at this; exact this)
        have HNX : Hid (nm ++ A.opnds I ((ltr s).take (k + 1)) lab = (nm ++ A.opnds I ((ltr s).take k) lab) ++ (32 :: A.opnd I l lab)) := hid (by rw [ltr_snoc s k hk2, A.opnds_snoc, hlk, List.append_assoc])
        have hz1 : (nm ++ A.opnds I ((ltr s).take k) lab).length ≤ 100 := by
          have h1 := HN4.out
          have h2 := HOS.out ((ltr s).take k)
          have h3 := HSL.out
          have h4 : ((ltr s).take k).length ≤ 3 := by rw [List.length_take, ltr_len]; omega
          rw [List.length_append]
          omega
        have hz2 := HOL.out l
        have HC24 : Hid (∀ x, Below W.heap.size W x → Calls Tryd.prog 24 #[I.v, .int .u8 (l : Int), .string ⟨lab.toArray⟩] x fun e w' => e = .returned (.string ⟨(A.opnd I l lab).toArray⟩) ∧ Below x.heap.size x w') := hid (fun x hx => HOT.out x l hx HLL.out)
        have x2 := bapp 32 (A.opnd I l lab)
        have x3 := bap (nm ++ A.opnds I ((ltr s).take k) lab) (32 :: A.opnd I l lab)
        generalize A.opnd I l lab = o at *
        generalize nm ++ A.opnds I ((ltr s).take k) lab = ln at *
        clear HOT HOL HOS HLL
        go_wp2_with fail
        have HR0 : Hid (∀ x, Cel x g 52 I.cs ∧ Below W.heap.size W x → x.rangeAt g 0 I.cs) := hid (fun x h => h.1.range)
        refine wp_region_held_drew (S := fun x => Cel x g 52 I.cs ∧ Below W.heap.size W x) (by kernel_rfl) (⟨HC.out.1.on (Below.refl _ _).drew, below_on HC.out.2 (Below.refl _ _).drew⟩) (fun hHeld => ?_)
        refine wpAnyH_take (i := 0) (oi := { dst := some 31, op := Op.move (Operand.tmp 7), type := 9, pos := "print.go:79", after := #[], guard := none }) (v := .string ⟨ln.toArray⟩) rfl (by kernel_rfl) (by kernel_rfl) (by kernel_rfl) (fun _ _ _ h => h) (Or.inl ⟨by rfl, by intro w hSw; go_simp⟩) (by assumption) ?_
        simp only [Act.put, List.setIfInBounds_toArray, List.set_cons_zero, List.set_cons_succ]
        refine wpAnyH_take (i := 1) (oi := { dst := some 32, op := Op.load 52 (Operand.tmp 5), type := 52, pos := "print.go:79", after := #[], guard := none }) (v := I.v) rfl (by kernel_rfl) (by kernel_rfl) (by kernel_rfl) (fun _ _ _ h => h) (yieldsIf_load_mid (by rfl) _ _ rfl _ _ rfl _ _ (fun w hSw => HR0.out w hSw) Tryd.underlying52 rfl size27) (by assumption) ?_
        simp only [Act.put, List.setIfInBounds_toArray, List.set_cons_zero, List.set_cons_succ]
        refine wpAnyH_take (i := 2) (oi := { dst := some 33, op := Op.move (Operand.tmp 8), type := 9, pos := "print.go:79", after := #[], guard := none }) (v := .string s) rfl (by kernel_rfl) (by kernel_rfl) (by kernel_rfl) (fun _ _ _ h => h) (Or.inl ⟨by rfl, by intro w hSw; go_simp⟩) (by assumption) ?_
        simp only [Act.put, List.setIfInBounds_toArray, List.set_cons_zero, List.set_cons_succ]
        refine wpAnyH_take (i := 3) (oi := { dst := some 34, op := Op.move (Operand.tmp 9), type := 3, pos := "print.go:79", after := #[], guard := none }) (v := .int .i64 (k : Int)) rfl (by kernel_rfl) (by kernel_rfl) (by kernel_rfl) (fun _ _ _ h => h) (Or.inl ⟨by rfl, by intro w hSw; go_simp⟩) (by assumption) ?_
        simp only [Act.put, List.setIfInBounds_toArray, List.set_cons_zero, List.set_cons_succ]
        refine wpAnyH_take (i := 4) (oi := { dst := some 35, op := Op.index 9 (Operand.tmp 33) (Operand.tmp 34), type := 5, pos := "print.go:79", after := #[{ on := 2, ground := Ground.data }, { on := 3, ground := Ground.data }], guard := none }) (v := .int .u8 (l : Int)) rfl (by kernel_rfl) (by kernel_rfl) (by kernel_rfl) (fun _ _ _ h => h) (Or.inl ⟨by rfl, by intro w hSw; go_simp⟩) (by assumption) ?_
        simp only [Act.put, List.setIfInBounds_toArray, List.set_cons_zero, List.set_cons_succ]
        refine wpAnyH_take (i := 5) (oi := { dst := some 36, op := Op.move (Operand.tmp 1), type := 9, pos := "print.go:79", after := #[], guard := none }) (v := .string ⟨lab.toArray⟩) rfl (by kernel_rfl) (by kernel_rfl) (by kernel_rfl) (fun _ _ _ h => h) (Or.inl ⟨by rfl, by intro w hSw; go_simp⟩) (by assumption) ?_
        simp only [Act.put, List.setIfInBounds_toArray, List.set_cons_zero, List.set_cons_succ]
        refine wpAnyH_ready (rs := [6]) (by kernel_rfl) (by simp) (AllReadyH.cons (o := { dst := some 37, op := Op.call { callee := Callee.value (Operand.func 24), args := #[Operand.tmp 32, Operand.tmp 35, Operand.tmp 36], argTypes := #[52, 5, 9] }, type := 9, pos := "print.go:79", after := #[{ on := 1, ground := Ground.data }, { on := 4, ground := Ground.data }, { on := 5, ground := Ground.data }], guard := none }) rfl (fun KQ hK => ?_) AllReadyH.nil)
        go_simp
        refine (HC24.out _ (below_on HC.out.2 (Below.refl _ _).drew)).mono ?_
        rintro e w9 ⟨rfl, hb9⟩
        have HC9 : Hid (Cel w9 g 52 I.cs ∧ Below W.heap.size W w9) := hid ⟨(HC.out.1.on (Below.refl _ _).drew).on hb9, below_on (below_on HC.out.2 (Below.refl _ _).drew) hb9⟩
        go_wp2_with fail
        refine hK.out _ _ HC9.out (fun hHeld => ?_)
        clear hK KQ
        try simp only [Act.put, List.setIfInBounds_toArray, List.set_cons_zero, List.set_cons_succ]
        refine wpAnyH_take (i := 7) (oi := { dst := some 38, op := Op.binOp BinOp.add 9 (Operand.const (Value.string { data := #[32] })) (Operand.tmp 37) 9, type := 9, pos := "print.go:79", after := #[{ on := 6, ground := Ground.data }], guard := none }) (v := .string ⟨(32 :: o).toArray⟩) rfl (by kernel_rfl) (by kernel_rfl) (by kernel_rfl) (fun _ _ _ h => h) (Or.inl ⟨by rfl, by intro w hSw; go_simp; omega⟩) (by assumption) ?_
        simp only [Act.put, List.setIfInBounds_toArray, List.set_cons_zero, List.set_cons_succ]
        refine wpAnyH_take (i := 8) (oi := { dst := some 39, op := Op.binOp BinOp.add 9 (Operand.tmp 31) (Operand.tmp 38) 9, type := 9, pos := "print.go:79", after := #[{ on := 0, ground := Ground.data }, { on := 7, ground := Ground.data }], guard := none }) (v := .string ⟨(ln ++ (32 :: o)).toArray⟩) rfl (by kernel_rfl) (by kernel_rfl) (by kernel_rfl) (fun _ _ _ h => h) (Or.inl ⟨by rfl, by intro w hSw; go_simp; omega⟩) (by assumption) ?_
        simp only [Act.put, List.setIfInBounds_toArray, List.set_cons_zero, List.set_cons_succ]
        refine wpAnyH_ready (rs := [9]) (by kernel_rfl) (by simp) (AllReadyH.cons (o := { dst := some 7, op := Op.assign (Operand.tmp 39), type := 9, pos := "print.go:79", after := #[{ on := 8, ground := Ground.data }, { on := 6, ground := Ground.chain }, { on := 0, ground := Ground.phase }, { on := 1, ground := Ground.phase }, { on := 2, ground := Ground.phase }, { on := 3, ground := Ground.phase }, { on := 4, ground := Ground.phase }, { on := 5, ground := Ground.phase }, { on := 6, ground := Ground.phase }, { on := 7, ground := Ground.phase }, { on := 8, ground := Ground.phase }], guard := none }) rfl (fun KQ hK => ?_) AllReadyH.nil)
        go_simp
        refine hK.out _ _ HC9.out (fun hHeld => ?_)
        clear hK KQ
        try simp only [Act.put, List.setIfInBounds_toArray, List.set_cons_zero, List.set_cons_succ]
        refine wpAnyH_done (by kernel_rfl) ?_ _
        clear hHeld
        go_wp2_with fail
        go_roundw
        case measure => simp [intOf]; omega
        case rel => exact ⟨k + 1, by omega, by go_num, by rw [HNX.out], HC9⟩
      · obtain rfl : k = s.size := by omega
        have HF : Hid (A.opnds I ((ltr s).take s.size) lab = A.opnds I (ltr s) lab) := hid (by rw [show (ltr s).take s.size = ltr s by rw [← ltr_len, List.take_length]])
        rw [HF.out]
        clear HOT HOL HOS hk hk2
        go_wp2_with fail
        go_ret
        exact ⟨rfl, HC.out.2⟩
  · have HR : Hid (A.lin w lab = [119, 111, 114, 100, 32] ++ T.hexed8 w.toNat) := hid (by unfold A.lin; rw [if_neg hE])
    rw [HR.out]
    rw [(dec_no hE).1, (dec_no hE).2] at HD
    simp only [Ins.v, Ins.z] at HD
    obtain ⟨u, rfl⟩ : ∃ u : Nat, w = (u : Int) := ⟨w.toNat, by omega⟩
    have u1 : u < 4294967296 := by omega
    have HH : Hid (∀ x, Calls Tryd.prog 21 #[.int .u32 (u : Int)] x fun e W' => e = .returned (.string ⟨(T.hexed8 u).toArray⟩) ∧ Below x.heap.size x W') := hid (fun x => hexed_text x u u1)
    have hz := A.hexed_len u
    have x2 := bap [119, 111, 114, 100, 32] (T.hexed8 u)
    rw [show ((u : Int)).toNat = u from rfl]
    generalize T.hexed8 u = t at *
    clear hE HR hlab
    go_enter Tryd.func11, Tryd.ntmps11
    go_wp2_with (first | (go_at_call 20; refine HD.out.mono ?_; rintro e w2 ⟨rfl, hb2⟩) | (go_at_call 21; refine (HH.out _).mono ?_; rintro e w3 ⟨rfl, hb3⟩))
    go_ret
    exact ⟨ret_str rfl, below_on (below_on hb2 (below_one _ _)) hb3⟩
theorem line_any (W : World) (hT : TB W) (w : Int) (w0 : 0 ≤ w) (w1 : w < 4294967296) :
    Calls Tryd.prog 7 #[.int .u32 w] W fun e w' => e = .returned (.string ⟨(A.lin w []).toArray⟩) ∧ Below W.heap.size W w' := by
  have HL : Hid (Calls Tryd.prog 11 #[.int .u32 w, .string ⟨#[]⟩] W fun e w' => e = .returned (.string ⟨(A.lin w []).toArray⟩) ∧ Below W.heap.size W w') := hid (lineWith_any W hT w w0 w1 [] (by decide))
  clear hT
  generalize A.lin w [] = t at *
  go_enter Tryd.func7, Tryd.ntmps7
  go_wp2_with (go_at_call 11; refine HL.out.mono ?_; rintro e w3 ⟨rfl, hb3⟩)
  go_ret
  exact ⟨rfl, hb3⟩
end Go.Proofs.YtncnogndopgknaaDoor
