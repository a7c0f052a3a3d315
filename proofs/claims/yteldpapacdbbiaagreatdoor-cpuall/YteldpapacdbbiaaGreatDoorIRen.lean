/- The document's Encode (24). -/
import Derived.Test.YteldpapacdbbiaaGreatDoorIRc
namespace Go.Proofs.YteldpapacdbbiaaGreatDoor.I
open Go.RowKit

theorem rencode_any (W : World) (hR : RShapes W) (hW : 3 < W.heap.size) (op cond a b c imm : Int) (i0 : -2147483648 ≤ imm) (i1 : imm < 2147483648) :
    Calls Tryz.prog 61 #[.agg #[.int .i64 op, .int .i64 cond, .int .i64 a, .int .i64 b, .int .i64 c, .int .i64 imm]] W fun e W' => e = .returned (.tuple #[.int .u32 (enc ⟨op, cond, a, b, c, imm⟩), .int .i64 (chk ⟨op, cond, a, b, c, imm⟩)]) ∧ Below W.heap.size W W' := by
  obtain ⟨e, he⟩ : ∃ e, chk ⟨op, cond, a, b, c, imm⟩ = e := ⟨_, rfl⟩
  have HC : Hid (∀ w, Below W.heap.size W w → Calls Tryz.prog 91 #[.agg #[.int .i64 op, .int .i64 cond, .int .i64 a, .int .i64 b, .int .i64 c, .int .i64 imm]] w fun r W' => r = .returned (.int .i64 e) ∧ Below w.heap.size w W') := fun w hb => by have := rcheck_any w (hR.below hb (by omega)) (by have := hb.size; omega) op cond a b c imm i0 i1; rw [he] at this; exact this
  clear hR hW
  by_cases h : e = 0
  · subst h
    obtain ⟨n, hn, h1, h2, h3, h4⟩ := chk_zero he
    obtain ⟨a0, a1, b0, b1, c0, c1, k0, k1, m0, m1, _⟩ := good_bounds h3 h4
    have hn' : op = (n : Int) := hn
    have o0 : 1 ≤ op := by omega
    have o1 : op < 25 := by omega
    have HE : Hid (enc ⟨op, cond, a, b, c, imm⟩ = sumW ⟨op, cond, a, b, c, imm⟩) := enc_eq he
    rw [he]
    simp only at a0 a1 b0 b1 c0 c1 k0 k1 m0 m1
    clear he hn hn' h1 h2 h3 h4 i0 i1
    obtain ⟨v, hv⟩ : ∃ v, enc ⟨op, cond, a, b, c, imm⟩ = v := ⟨_, rfl⟩
    have HV : Hid (v = sumW ⟨op, cond, a, b, c, imm⟩) := (show v = _ by rw [← hv]; exact HE.out)
    rw [hv]
    clear hv HE
    by_cases hm : imm < 0
    · go_enter Tryz.func61, Tryz.ntmps61
      go_wp2_with (go_at_call 91; refine (HC.out _ (below_one _ _)).mono ?_; rintro r w1 ⟨rfl, hb1⟩; have CX : Hid (Cel w1 W.heap.size 85 [.int .i64 op, .int .i64 cond, .int .i64 a, .int .i64 b, .int .i64 c, .int .i64 imm]) := (Cel.new W 85 [.int .i64 op, .int .i64 cond, .int .i64 a, .int .i64 b, .int .i64 c, .int .i64 imm]).on hb1; have z0 : w1.cell? ⟨W.heap.size, 0, none⟩ = some (.int .i64 op) := CX.out.cell 0; have z1 : w1.cell? ⟨W.heap.size, 1, none⟩ = some (.int .i64 cond) := CX.out.cell 1; have z2 : w1.cell? ⟨W.heap.size, 2, none⟩ = some (.int .i64 a) := CX.out.cell 2; have z3 : w1.cell? ⟨W.heap.size, 3, none⟩ = some (.int .i64 b) := CX.out.cell 3; have z4 : w1.cell? ⟨W.heap.size, 4, none⟩ = some (.int .i64 c) := CX.out.cell 4; have z5 : w1.cell? ⟨W.heap.size, 5, none⟩ = some (.int .i64 imm) := CX.out.cell 5)
      go_ret2
      exact ⟨ret_u32_0 (by rw [HV.out]; unfold sumW; simp only; omega), below_on (below_one _ _) hb1⟩
    · have hm' : 0 ≤ imm := by omega
      clear hm
      go_enter Tryz.func61, Tryz.ntmps61
      go_wp2_with (go_at_call 91; refine (HC.out _ (below_one _ _)).mono ?_; rintro r w1 ⟨rfl, hb1⟩; have CX : Hid (Cel w1 W.heap.size 85 [.int .i64 op, .int .i64 cond, .int .i64 a, .int .i64 b, .int .i64 c, .int .i64 imm]) := (Cel.new W 85 [.int .i64 op, .int .i64 cond, .int .i64 a, .int .i64 b, .int .i64 c, .int .i64 imm]).on hb1; have z0 : w1.cell? ⟨W.heap.size, 0, none⟩ = some (.int .i64 op) := CX.out.cell 0; have z1 : w1.cell? ⟨W.heap.size, 1, none⟩ = some (.int .i64 cond) := CX.out.cell 1; have z2 : w1.cell? ⟨W.heap.size, 2, none⟩ = some (.int .i64 a) := CX.out.cell 2; have z3 : w1.cell? ⟨W.heap.size, 3, none⟩ = some (.int .i64 b) := CX.out.cell 3; have z4 : w1.cell? ⟨W.heap.size, 4, none⟩ = some (.int .i64 c) := CX.out.cell 4; have z5 : w1.cell? ⟨W.heap.size, 5, none⟩ = some (.int .i64 imm) := CX.out.cell 5)
      go_ret2
      exact ⟨ret_u32_0 (by rw [HV.out]; unfold sumW; simp only; omega), below_on (below_one _ _) hb1⟩
  · have h' : (e != 0) = true := by simpa using h
    have hv : enc ⟨op, cond, a, b, c, imm⟩ = 0 := by unfold enc; rw [if_neg (by rw [he]; exact h)]
    rw [hv, he]
    clear he hv h
    go_enter Tryz.func61, Tryz.ntmps61
    go_wp2_with (go_at_call 91; refine (HC.out _ (below_one _ _)).mono ?_; rintro r w1 ⟨rfl, hb1⟩)
    go_ret2
    exact ⟨rfl, below_on (below_one _ _) hb1⟩
end Go.Proofs.YteldpapacdbbiaaGreatDoor.I
