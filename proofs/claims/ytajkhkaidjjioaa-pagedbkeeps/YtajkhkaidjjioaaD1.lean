/- place 89, size 45, Pages 46, Births 17, Memory 13, frame 54, Secure 84. -/
import Derived.Test.YtajkhkaidjjioaaD0
namespace Go.Proofs.Ytajkhkaidjjioaa
open Go.RowKit
set_option maxHeartbeats 4000000
set_option maxRecDepth 100000
theorem place_any (W : World) (p : Int) (h0 : 0 ≤ p) (h1 : p ≤ 1000) : Calls Try.prog 89 #[.int .i64 p] W fun x W' => x = .returned (.int .i64 (1 + 2 * p)) ∧ W = W' := by
  have q : wrap64 (2 * p) = 2 * p := by unfold wrap64; omega
  have q2 : wrap64 (1 + 2 * p) = 1 + 2 * p := by unfold wrap64; omega
  go_enter Try.func89, Try.ntmps89
  go_wp2_with fail
  go_ret
  exact ⟨rfl, rfl⟩
theorem secure_any (W : World) (f : Fp) (m : MS) (h : Mem W f m) : Calls Try.prog 84 #[ptr f.gm] W fun x W' => x = .returned (.int .i64 (m.ns : Int)) ∧ W = W' := by
  have c0 := h.cel.cell 0
  simp only [List.getElem?_cons_zero] at c0
  clear h
  simp only [ptr] at *
  go_enter Try.func84, Try.ntmps84
  go_wp2_with fail
  go_ret
  exact ⟨rfl, rfl⟩
theorem size_any (W : World) (f : Fp) (m : MS) (h : Mem W f m) : Calls Try.prog 45 #[ptr f.gm] W fun x W' => x = .returned (.int .i64 (1 + 2 * (m.ns : Int))) ∧ W = W' := by
  have HS := hid (secure_any W f m h)
  have h1 := h.ns0
  have h2 := h.most
  have n0 : 0 ≤ (m.ns : Int) := by omega
  have n1 : (m.ns : Int) ≤ 1000 := by omega
  clear h h1 h2
  simp only [ptr] at *
  go_enter Try.func45, Try.ntmps45
  go_wp2_with fail
  refine HS.out.mono ?_
  rintro x w1 ⟨rfl, rfl⟩
  go_wp2_with fail
  refine (place_any _ _ n0 n1).mono ?_
  rintro x w1 ⟨rfl, rfl⟩
  go_wp2_with fail
  go_ret
  exact ⟨rfl, rfl⟩
theorem pages_dv {W : World} {g gw off n c : Nat} {L : List Int} {f : Fp} {m : MS} (h : Mem W f m) (hd : DV W g f.gm gw off n c L) : Calls Try.prog 46 #[ptr g] W fun x W' => x = .returned (.int .i64 (m.ns : Int)) ∧ W = W' := by
  have HS := hid (secure_any W f m h)
  have c0 := hd.cel.cell 0
  simp only [List.getElem?_cons_zero] at c0
  clear h hd
  simp only [ptr] at *
  go_enter Try.func46, Try.ntmps46
  go_wp2_with fail
  refine HS.out.mono ?_
  rintro x w1 ⟨rfl, rfl⟩
  go_wp2_with fail
  go_ret
  exact ⟨rfl, rfl⟩
theorem pages_any (W : World) (p : Dp) (d : DS) (h : DB W p d) : Calls Try.prog 46 #[ptr p.g] W fun x W' => x = .returned (.int .i64 (d.m.ns : Int)) ∧ W = W' := pages_dv h.mem h.dv
theorem births_any (W : World) (p : Dp) (d : DS) (h : DB W p d) : Calls Try.prog 17 #[ptr p.g] W fun x W' => x = .returned (.int .i64 d.b) ∧ W = W' := by
  have c0 := h.cel.cell 1
  have c1 := h.dv.at 0 d.b rfl
  have n0 : (0 : Int) < ((1 + 2 * d.m.ns : Nat) : Int) := by omega
  have b0 : wrap64 d.b = d.b := by have := h.ok.b0; have := h.ok.b1; unfold wrap64; omega
  simp only [List.getElem?_cons_zero, List.getElem?_cons_succ] at c0
  clear h
  simp only [ptr] at *
  generalize 1 + 2 * d.m.ns = n at *
  go_enter Try.func17, Try.ntmps17
  go_wp2_with fail
  go_ret
  exact ⟨ret_int b0, rfl⟩
theorem memory_any (W : World) (p : Dp) (d : DS) (h : DB W p d) : Calls Try.prog 13 #[ptr p.g] W fun x W' => x = .returned (ptr p.f.gm) ∧ W = W' := by
  have c0 := h.cel.cell 0
  simp only [List.getElem?_cons_zero] at c0
  clear h
  simp only [ptr] at *
  go_enter Try.func13, Try.ntmps13
  go_wp2_with fail
  go_ret
  exact ⟨rfl, rfl⟩
theorem frame_any (W : World) (p : Int) : Calls Try.prog 54 #[.int .i64 p] W fun x W' => x = .returned (fr true p) ∧ Below W.heap.size W W' := by
  unfold fr
  go_enter Try.func54, Try.ntmps54
  go_wp2_with fail
  go_returns
  exact ⟨rfl, below_one _ _⟩
end Go.Proofs.Ytajkhkaidjjioaa
