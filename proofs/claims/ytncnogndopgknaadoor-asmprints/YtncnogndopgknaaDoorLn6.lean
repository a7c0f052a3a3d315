/- asm's targetOf (17), lineWith (11), Line (7). -/
import Derived.Test.YtncnogndopgknaaDoorLf6
namespace Go.Proofs.YtncnogndopgknaaDoor
open Go.RowKit
namespace A
/-- Where the word at a place jumps to, if the place is none beyond n. -/
def tgt (w : Int) (p n : Nat) : Option Nat :=
  if decE w = 0 ∧ ((dec w).op = 21 ∨ (dec w).op = 22) ∧ 0 ≤ (p : Int) + 1 + (dec w).imm ∧ (p : Int) + 1 + (dec w).imm ≤ n then some ((p : Int) + 1 + (dec w).imm).toNat else none
def tgtN (o : Option Nat) : Int := match o with | some t => t | none => 0
theorem tgt_le {w : Int} {p n t : Nat} (h : tgt w p n = some t) : t ≤ n := by
  unfold tgt at h
  split at h
  · injection h; omega
  · cases h
end A
theorem ret_ib {x : Int} {a b : Bool} (h : a = b) : Ending.returned (.tuple #[.int .i64 x, .bool a]) = .returned (.tuple #[.int .i64 x, .bool b]) := by rw [h]
theorem targetOf_any (W : World) (hT : TB W) (w : Int) (w0 : 0 ≤ w) (w1 : w < 4294967296) (p n : Nat) (hp : p ≤ 1000000000) (hn : n ≤ 1000000000) :
    Calls Tryd.prog 17 #[.int .u32 w, .int .i64 (p : Int), .int .i64 (n : Int)] W fun e w' => (∃ x : Int, e = .returned (.tuple #[.int .i64 x, .bool (A.tgt w p n).isSome]) ∧ ∀ t, A.tgt w p n = some t → x = (t : Int)) ∧ Below W.heap.size W w' := by
  have HD := hid (decode_any W hT.f hT.t (by have := hT.z; omega) w w0 w1)
  have p1 : (p : Int) ≤ 1000000000 := by omega
  have n1 : (n : Int) ≤ 1000000000 := by omega
  clear hT hp hn
  by_cases hE : decE w = 0
  · have hi := ok6 hE
    obtain ⟨R, hR⟩ : ∃ R, A.tgt w p n = R := ⟨_, rfl⟩
    have hR' := hR
    unfold A.tgt at hR
    rw [hE] at HD hR
    rw [hR']
    generalize hd : dec w = i at *
    clear hR' hd hE
    obtain ⟨op, cond, a, b, c, imm⟩ := i
    obtain ⟨⟨o0, o1⟩, _, _, _, _, ⟨m0, m1⟩⟩ := hi
    simp only at o0 o1 m0 m1 hR
    simp only [Ins.v] at HD
    by_cases h21 : op = 21 ∨ op = 22
    · have HR : Hid ((if 0 ≤ (p : Int) + 1 + imm ∧ (p : Int) + 1 + imm ≤ n then some ((p : Int) + 1 + imm).toNat else none) = R) := hid (by rw [← hR]; simp only [true_and, h21])
      clear hR
      by_cases hlo : 0 ≤ (p : Int) + 1 + imm
      · by_cases hhi : (p : Int) + 1 + imm ≤ n
        · have HS : Hid (R = some ((p : Int) + 1 + imm).toNat) := hid (by rw [← HR.out, if_pos ⟨hlo, hhi⟩])
          clear HR
          rcases h21 with rfl | rfl
          all_goals
            go_enter Tryd.func17, Tryd.ntmps17
            go_wp2_with (go_at_call 20; refine HD.out.mono ?_; rintro e w1 ⟨rfl, hb1⟩)
            go_ret2
            exact ⟨⟨_, by rw [HS.out]; rfl, fun t ht => by rw [HS.out] at ht; injection ht; omega⟩, below_on hb1 (below_one _ _)⟩
        · have HS : Hid (R = none) := hid (by rw [← HR.out, if_neg (fun h => hhi h.2)])
          have hhi' : (n : Int) < (p : Int) + 1 + imm := by omega
          clear HR hhi
          rcases h21 with rfl | rfl
          all_goals
            go_enter Tryd.func17, Tryd.ntmps17
            go_wp2_with (go_at_call 20; refine HD.out.mono ?_; rintro e w1 ⟨rfl, hb1⟩)
            go_ret2
            exact ⟨⟨(p : Int) + 1 + imm, by rw [HS.out]; exact ret_ib (by simp; omega), fun t ht => by rw [HS.out] at ht; cases ht⟩, below_on hb1 (below_one _ _)⟩
      · have HS : Hid (R = none) := hid (by rw [← HR.out, if_neg (fun h => hlo h.1)])
        have hlo' : (p : Int) + 1 + imm < 0 := by omega
        clear HR hlo
        rcases h21 with rfl | rfl
        all_goals
          go_enter Tryd.func17, Tryd.ntmps17
          go_wp2_with (go_at_call 20; refine HD.out.mono ?_; rintro e w1 ⟨rfl, hb1⟩)
          go_ret2
          exact ⟨⟨_, by rw [HS.out]; rfl, fun t ht => by rw [HS.out] at ht; cases ht⟩, below_on hb1 (below_one _ _)⟩
    · have HS : Hid (R = none) := hid (by rw [← hR, if_neg (fun h => h21 h.2.1)])
      have e1 : (op != 21) = true := by simp; omega
      have e2 : (op != 22) = true := by simp; omega
      clear hR h21
      go_enter Tryd.func17, Tryd.ntmps17
      go_wp2_with (go_at_call 20; refine HD.out.mono ?_; rintro e w1 ⟨rfl, hb1⟩)
      go_ret2
      exact ⟨⟨_, by rw [HS.out]; rfl, fun t ht => by rw [HS.out] at ht; cases ht⟩, below_on hb1 (below_one _ _)⟩
  · have HS : Hid (A.tgt w p n = none) := hid (by unfold A.tgt; rw [if_neg (fun h => hE h.1)])
    rw [(dec_no hE).1, (dec_no hE).2] at HD
    simp only [Ins.v, Ins.z] at HD
    clear hE
    go_enter Tryd.func17, Tryd.ntmps17
    go_wp2_with (go_at_call 20; refine HD.out.mono ?_; rintro e w1 ⟨rfl, hb1⟩)
    go_ret2
    exact ⟨⟨_, by rw [HS.out]; rfl, fun t ht => by rw [HS.out] at ht; cases ht⟩, below_on hb1 (below_one _ _)⟩
end Go.Proofs.YtncnogndopgknaaDoor
