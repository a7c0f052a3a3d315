import Derived.Test.YtlfnpllojinjdaaDoorRef8
namespace Go.Proofs.YtlfnpllojinjdaaDoor
open Go.RowKit

/-- One call of a script, as the program holds it. -/
structure OpV where
  a : Int
  b : Int
  c : Int
  d : Int
  n : Int
  m : Int
  lao : Option Addr
  ln : Nat
  lc : Nat
  lx : List Int
  pao : Option Addr
  pn : Nat
  pc : Nat
  px : List Int
  bao : Option Addr
  bn : Nat
  bc : Nat
  bx : List Int
  s : ByteArray
def OpV.cells (k : Int) (o : OpV) : Array Value := #[.int .i64 k, .int .u32 o.a, .int .u32 o.b, .int .u32 o.c, .int .u32 o.d, .int .i64 o.n, .int .i64 o.m, .slice o.lao o.ln o.lc, .slice o.pao o.pn o.pc, .slice o.bao o.bn o.bc, .string o.s]
def IsWord (x : Int) : Prop := 0 ≤ x ∧ x < 4294967296
def IsInt (x : Int) : Prop := -9223372036854775808 ≤ x ∧ x ≤ 9223372036854775807
structure OpV.Ok (W : World) (o : OpV) : Prop where
  a : IsWord o.a
  b : IsWord o.b
  c : IsWord o.c
  d : IsWord o.d
  n : IsInt o.n
  m : IsInt o.m
  ll : o.lx.length = o.ln
  lw : Wds o.lx
  la : At W .u32 o.lao o.lx
  lb : o.ln ≤ 1048576
  pl : o.px.length = o.pn
  pw : Wds o.px
  pa : At W .u32 o.pao o.px
  pb : o.pn ≤ 1048576
  bl : o.bx.length = o.bn
  bw : Bts o.bx
  ba : At W .u8 o.bao o.bx
  bb : o.bn ≤ 1048576
  sb : o.s.size ≤ 1048576

theorem below_one (W : World) (o : Obj) : Below W.heap.size W (W.alloc o) := (Below.refl W.heap.size W).alloc (Nat.le_refl _) o
theorem quiet_same {P : Program} {f : FuncId} {args : Array Value} {w : World} {n : Nat} {v : Value}
    (h : Calls P f args (w.drewN n) fun e w' => e = .returned v ∧ w.drewN n = w') : Calls P f args (w.drewN n) fun e w'' => e = .returned v ∧ ∃ m, w'' = w.drewN m :=
  h.mono fun _ _ ⟨he, hm⟩ => ⟨he, n, hm.symm⟩
set_option maxRecDepth 100000 in
set_option maxHeartbeats 1000000 in
theorem sums7 (W : World) (hT : Tab W) (h0 : 0 < W.heap.size) (o : OpV) (ok : o.Ok W) :
    Calls Tryd.prog 44 #[.agg (o.cells 7)] W fun e W' => e = .returned (.bool true) ∧ Below W.heap.size W W' := by
  obtain ⟨⟨a0, a1⟩, ⟨b0, b1⟩, ⟨c0, c1⟩, ⟨d0, d1⟩, ⟨n0, n1⟩, ⟨m0, m1⟩, -, -, -, -, -, -, -, -, -, -, -, -, -⟩ := ok
  obtain ⟨a, b, c, d, n, m, lao, ln, lc, lx, pao, pn, pc, px, bao, bn, bc, bx, s⟩ := o
  simp only [OpV.cells] at *
  have HB : Hid _ := below_one W (.cells #[.int .i64 7, .int .u32 a, .int .u32 b, .int .u32 c, .int .u32 d, .int .i64 n, .int .i64 m, .slice lao ln lc, .slice pao pn pc, .slice bao bn bc, .string s] 67)
  by_cases h : 1 ≤ m ∧ 0 ≤ n ∧ n ≤ 32 - m
  · obtain ⟨g1, g2, g3⟩ := h
    go_enter Tryd.func44, Tryd.ntmps44
    go_wp2_with fail
    go_quiet (first | (go_at_call 21; exact Calls.quiet_of (field_yes _ ((hT.alloc h0 _).drewN _) _ _ _ a0 a1 g1 g2 g3)) | (go_at_call 48; exact quiet_same (rfield_yes _ _ _ _ a0 a1 g1 g2 g3)))
    go_wp2
    go_ret
    exact ⟨rfl, below_drewN HB.out _⟩
  · have H : Hid _ := h
    clear h
    go_enter Tryd.func44, Tryd.ntmps44
    go_wp2_with fail
    go_quiet (first | (go_at_call 21; exact quiet_same (field_no _ _ _ _ m0 m1 H.out)) | (go_at_call 48; exact quiet_same (rfield_no _ _ _ _ H.out)))
    go_wp2
    go_ret
    exact ⟨rfl, below_drewN HB.out _⟩
set_option maxRecDepth 100000 in
set_option maxHeartbeats 1000000 in
theorem sums8 (W : World) (hT : Tab W) (h0 : 0 < W.heap.size) (o : OpV) (ok : o.Ok W) :
    Calls Tryd.prog 44 #[.agg (o.cells 8)] W fun e W' => e = .returned (.bool true) ∧ Below W.heap.size W W' := by
  obtain ⟨⟨a0, a1⟩, ⟨b0, b1⟩, ⟨c0, c1⟩, ⟨d0, d1⟩, ⟨n0, n1⟩, ⟨m0, m1⟩, -, -, -, -, -, -, -, -, -, -, -, -, -⟩ := ok
  obtain ⟨a, b, c, d, n, m, lao, ln, lc, lx, pao, pn, pc, px, bao, bn, bc, bx, s⟩ := o
  simp only [OpV.cells] at *
  have HB : Hid _ := below_one W (.cells #[.int .i64 8, .int .u32 a, .int .u32 b, .int .u32 c, .int .u32 d, .int .i64 n, .int .i64 m, .slice lao ln lc, .slice pao pn pc, .slice bao bn bc, .string s] 67)
  by_cases h : 1 ≤ m ∧ 0 ≤ n ∧ n ≤ 32 - m
  · obtain ⟨g1, g2, g3⟩ := h
    go_enter Tryd.func44, Tryd.ntmps44
    go_wp2_with fail
    go_quiet (first | (go_at_call 22; exact quiet_same (setField_yes _ ((hT.alloc h0 _).drewN _) _ _ _ _ a0 a1 b0 b1 g1 g2 g3)) | (go_at_call 49; exact quiet_same (rset_yes _ _ _ _ _ a0 a1 b0 b1 g1 g2 g3)))
    go_wp2
    go_ret
    exact ⟨rfl, below_drewN HB.out _⟩
  · have H : Hid _ := h
    clear h
    go_enter Tryd.func44, Tryd.ntmps44
    go_wp2_with fail
    go_quiet (first | (go_at_call 22; exact quiet_same (setField_no _ _ _ _ _ m0 m1 H.out)) | (go_at_call 49; exact quiet_same (rset_no _ _ _ _ _ H.out)))
    go_wp2
    go_ret
    exact ⟨rfl, below_drewN HB.out _⟩
set_option maxRecDepth 100000 in
set_option maxHeartbeats 1000000 in
theorem sums9 (W : World) (hT : Tab W) (h0 : 0 < W.heap.size) (o : OpV) (ok : o.Ok W) :
    Calls Tryd.prog 44 #[.agg (o.cells 9)] W fun e W' => e = .returned (.bool true) ∧ Below W.heap.size W W' := by
  obtain ⟨⟨a0, a1⟩, ⟨b0, b1⟩, ⟨c0, c1⟩, ⟨d0, d1⟩, ⟨n0, n1⟩, ⟨m0, m1⟩, -, -, -, -, -, -, -, -, -, -, -, -, -⟩ := ok
  obtain ⟨a, b, c, d, n, m, lao, ln, lc, lx, pao, pn, pc, px, bao, bn, bc, bx, s⟩ := o
  simp only [OpV.cells] at *
  have HB : Hid _ := below_one W (.cells #[.int .i64 9, .int .u32 a, .int .u32 b, .int .u32 c, .int .u32 d, .int .i64 n, .int .i64 m, .slice lao ln lc, .slice pao pn pc, .slice bao bn bc, .string s] 67)
  by_cases h : 1 ≤ n ∧ n ≤ 32
  · obtain ⟨g1, g2⟩ := h
    go_enter Tryd.func44, Tryd.ntmps44
    go_wp2_with fail
    go_quiet (first | (go_at_call 26; exact Calls.quiet_of (extend_yes _ ((hT.alloc h0 _).drewN _) _ _ a0 a1 g1 g2)) | (go_at_call 50; exact quiet_same (rext_yes _ _ _ a0 a1 g1 g2)))
    go_wp2
    go_ret
    exact ⟨rfl, below_drewN HB.out _⟩
  · have H : Hid _ := h
    clear h
    go_enter Tryd.func44, Tryd.ntmps44
    go_wp2_with fail
    go_quiet (first | (go_at_call 26; exact quiet_same (extend_no _ _ _ n0 n1 H.out)) | (go_at_call 50; exact quiet_same (rext_no _ _ _ H.out)))
    go_wp2
    go_ret
    exact ⟨rfl, below_drewN HB.out _⟩
set_option maxRecDepth 100000 in
set_option maxHeartbeats 1000000 in
theorem sums11 (W : World) (_hT : Tab W) (_h0 : 0 < W.heap.size) (o : OpV) (ok : o.Ok W) :
    Calls Tryd.prog 44 #[.agg (o.cells 11)] W fun e W' => e = .returned (.bool true) ∧ Below W.heap.size W W' := by
  obtain ⟨⟨a0, a1⟩, ⟨b0, b1⟩, ⟨c0, c1⟩, ⟨d0, d1⟩, ⟨n0, n1⟩, ⟨m0, m1⟩, -, -, -, -, -, -, -, -, -, -, -, -, -⟩ := ok
  obtain ⟨a, b, c, d, n, m, lao, ln, lc, lx, pao, pn, pc, px, bao, bn, bc, bx, s⟩ := o
  simp only [OpV.cells] at *
  have HB : Hid _ := below_one W (.cells #[.int .i64 11, .int .u32 a, .int .u32 b, .int .u32 c, .int .u32 d, .int .i64 n, .int .i64 m, .slice lao ln lc, .slice pao pn pc, .slice bao bn bc, .string s] 67)
  go_enter Tryd.func44, Tryd.ntmps44
  go_wp2_with fail
  go_quiet (first | (go_at_call 25; exact quiet_same (rotate_any _ _ _ a0 a1)) | (go_at_call 54; exact quiet_same (rrot_any _ _ _ a0 a1)))
  go_wp2
  go_ret
  exact ⟨rfl, below_drewN HB.out _⟩
set_option maxRecDepth 100000 in
set_option maxHeartbeats 1000000 in
theorem sums14 (W : World) (_hT : Tab W) (_h0 : 0 < W.heap.size) (o : OpV) (ok : o.Ok W) :
    Calls Tryd.prog 44 #[.agg (o.cells 14)] W fun e W' => e = .returned (.bool true) ∧ Below W.heap.size W W' := by
  obtain ⟨⟨a0, a1⟩, ⟨b0, b1⟩, ⟨c0, c1⟩, ⟨d0, d1⟩, ⟨n0, n1⟩, ⟨m0, m1⟩, -, -, -, -, -, -, -, -, -, -, -, -, -⟩ := ok
  obtain ⟨a, b, c, d, n, m, lao, ln, lc, lx, pao, pn, pc, px, bao, bn, bc, bx, s⟩ := o
  simp only [OpV.cells] at *
  have HB : Hid _ := below_one W (.cells #[.int .i64 14, .int .u32 a, .int .u32 b, .int .u32 c, .int .u32 d, .int .i64 n, .int .i64 m, .slice lao ln lc, .slice pao pn pc, .slice bao bn bc, .string s] 67)
  go_enter Tryd.func44, Tryd.ntmps44
  go_wp2_with fail
  go_quiet (first | (go_at_call 12; exact quiet_same (overlap_any _ _ _ _ _ a0 a1 c0 c1 b0 b1 d0 d1)) | (go_at_call 58; exact quiet_same (roverlap_any _ _ _ _ _ a0 a1 c0 c1 b0 b1 d0 d1)))
  go_wp2
  go_ret
  exact ⟨rfl, below_drewN HB.out _⟩
end Go.Proofs.YtlfnpllojinjdaaDoor
