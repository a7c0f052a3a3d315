/- asm's registerText (40), operandText (24); the law's numbers (6). -/
import Derived.Test.YtncnogndopgknaaDoorPrt
import Derived.Lib.AppendIntMem
namespace Go.Proofs.YtncnogndopgknaaDoor
open Go.RowKit
/-- All tables lie where their initialisers laid them. -/
structure TB (W : World) : Prop where
  f : Forms W
  t : Tab W
  c : CNames W
  p : PowTab W
  z : 8 < W.heap.size
theorem CNames.below {W w : World} {B : Nat} (h : CNames W) (hb : Below B W w) (hB : 4 < B) : CNames w := fun n hn => (hb.cell (p := ⟨4, n, none⟩) hB).trans (h n hn)
theorem PowTab.on {W w : World} (h : PowTab W) (hb : Below W.heap.size W w) : PowTab w := Lib.tabBelow_of_tabIs h w hb
theorem TB.on {W w : World} (h : TB W) (hb : Below W.heap.size W w) : TB w := ⟨h.f.below hb (by have := h.z; omega), h.t.below hb (by have := h.z; omega), h.c.below hb (by have := h.z; omega), h.p.on hb, by have := hb.size; have := h.z; omega⟩
theorem TB.fn {W : World} (h : TB W) : FNames W := fun n hn => (h.f n hn).1

theorem regText_any (W : World) (hp : PowTab W) (n : Nat) (hn : n ≤ 14) : Calls Tryd.prog 40 #[.int .i64 (n : Int)] W fun e w' => e = .returned (.string ⟨(114 :: Lib.decDigits n).toArray⟩) ∧ Below W.heap.size W w' := by
  have HT := hid (tens_text n (by omega) W hp)
  have x2 := bapp 114 (Lib.decDigits n)
  have hz := dec_len n (by omega)
  have c1 : (n : Int) ≤ 14 := by omega
  generalize Lib.decDigits n = t at *
  go_enter Tryd.func40, Tryd.ntmps40
  go_wp2_with (go_at_call 18; refine HT.out.mono ?_; rintro e w1 ⟨rfl, hb1⟩)
  go_ret
  exact ⟨rfl, hb1⟩
theorem byteArr (s : ByteArray) : s = ⟨s.data.toList.toArray⟩ := by cases s; simp
set_option maxHeartbeats 1000000 in
theorem opText_any (W : World) (hT : TB W) (i : Ins) (hi : Ok6 i) (l : Nat) (h : letter l) (L : Int) (hL : L = (l : Int)) (lab : List UInt8) (hlab : lab.length ≤ 20) :
    Calls Tryd.prog 24 #[i.v, .int .u8 L, .string ⟨lab.toArray⟩] W fun e w' => e = .returned (.string ⟨(A.opnd i l lab).toArray⟩) ∧ Below W.heap.size W w' := by
  subst hL
  have HT : Hid (∀ x, Below W.heap.size W x → TB x) := hid (fun x hx => hT.on hx)
  clear hT
  obtain ⟨op, cond, a, b, c, imm⟩ := i
  obtain ⟨⟨o0, o1⟩, ⟨a0, a1⟩, ⟨b0, b1⟩, ⟨c0, c1⟩, ⟨k0, k1⟩, ⟨m0, m1⟩⟩ := hi
  simp only at o0 o1 a0 a1 b0 b1 c0 c1 k0 k1 m0 m1
  simp only [Ins.v]
  rcases h with rfl | rfl | rfl | rfl | rfl | rfl | rfl
  · obtain ⟨a, rfl⟩ : ∃ n : Nat, a = (n : Int) := ⟨a.toNat, by omega⟩
    go_enter Tryd.func24, Tryd.ntmps24
    go_wp2_with (go_at_call 40; refine (regText_any _ (HT.out _ (below_one _ _)).p a (by omega)).mono ?_; rintro e w1 ⟨rfl, hb1⟩)
    go_ret
    exact ⟨rfl, (below_one _ _).trans (hb1.mono (below_one _ _).size)⟩
  · obtain ⟨b, rfl⟩ : ∃ n : Nat, b = (n : Int) := ⟨b.toNat, by omega⟩
    go_enter Tryd.func24, Tryd.ntmps24
    go_wp2_with (go_at_call 40; refine (regText_any _ (HT.out _ (below_one _ _)).p b (by omega)).mono ?_; rintro e w1 ⟨rfl, hb1⟩)
    go_ret
    exact ⟨rfl, (below_one _ _).trans (hb1.mono (below_one _ _).size)⟩
  · obtain ⟨c, rfl⟩ : ∃ n : Nat, c = (n : Int) := ⟨c.toNat, by omega⟩
    go_enter Tryd.func24, Tryd.ntmps24
    go_wp2_with (go_at_call 40; refine (regText_any _ (HT.out _ (below_one _ _)).p c (by omega)).mono ?_; rintro e w1 ⟨rfl, hb1⟩)
    go_ret
    exact ⟨rfl, (below_one _ _).trans (hb1.mono (below_one _ _).size)⟩
  · have HR : Hid (cndI cond = ⟨(A.opnd ⟨op, cond, a, b, c, imm⟩ 107 lab).toArray⟩) := hid (byteArr _)
    go_enter Tryd.func24, Tryd.ntmps24
    go_wp2_with (go_at_call 41; refine (cname_any _ (HT.out _ (below_one _ _)).c cond).mono ?_; rintro e w1 ⟨rfl, rfl⟩)
    go_ret
    exact ⟨congrArg (fun x => Ending.returned (.string x)) HR.out, below_one _ _⟩
  · go_enter Tryd.func24, Tryd.ntmps24
    go_wp2_with (go_at_call 42; refine (minus_text imm (by omega) (by omega) _ (HT.out _ (below_one _ _)).p).mono ?_; rintro e w1 ⟨rfl, hb1⟩)
    go_ret
    exact ⟨rfl, (below_one _ _).trans (hb1.mono (below_one _ _).size)⟩
  · go_enter Tryd.func24, Tryd.ntmps24
    go_wp2_with (go_at_call 42; refine (minus_text imm (by omega) (by omega) _ (HT.out _ (below_one _ _)).p).mono ?_; rintro e w1 ⟨rfl, hb1⟩)
    go_ret
    exact ⟨rfl, (below_one _ _).trans (hb1.mono (below_one _ _).size)⟩
  · cases lab with
    | nil =>
      go_enter Tryd.func24, Tryd.ntmps24
      go_wp2_with (go_at_call 42; refine (minus_text imm (by omega) (by omega) _ (HT.out _ (below_one _ _)).p).mono ?_; rintro e w1 ⟨rfl, hb1⟩)
      go_ret
      exact ⟨rfl, (below_one _ _).trans (hb1.mono (below_one _ _).size)⟩
    | cons x t =>
      have q : (x :: t).isEmpty = false := rfl
      have HR : Hid (x :: t = A.opnd ⟨op, cond, a, b, c, imm⟩ 111 (x :: t)) := hid (by simp [A.opnd])
      generalize x :: t = y at *
      go_enter Tryd.func24, Tryd.ntmps24
      go_wp2_with fail
      go_ret
      exact ⟨ret_str HR.out, below_one _ _⟩
theorem numbers_any (W : World) : Calls Tryd.prog 6 #[] W fun e w' => e = .returned (.bool true) ∧ W = w' := by
  go_enter Tryd.func6, Tryd.ntmps6
  go_wp2
  go_ret
  exact ⟨rfl, rfl⟩
end Go.Proofs.YtncnogndopgknaaDoor
