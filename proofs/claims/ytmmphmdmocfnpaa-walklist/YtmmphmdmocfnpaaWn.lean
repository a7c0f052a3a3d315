/- WalkList's address 36, listed 39, allowed 38. -/
import Derived.Test.YtmmphmdmocfnpaaWm
namespace Go.Proofs.Ytmmphmdmocfnpaa
open Go.RowKit
set_option maxHeartbeats 8000000
set_option maxRecDepth 100000
theorem address_any (W : World) (x : Mg) (hx : x.Ok) (o : Int) (o0 : -9223372036854775808 ≤ o) (o1 : o ≤ 9223372036854775807) : Calls Try.prog 36 #[.agg #[.int .i64 x.i, .int .i64 x.j, .bool x.s, .int .i64 x.p, .bool x.wr, .bool x.ex], .int .i64 o] W fun e W' => e = .returned (.int .u32 (adr x o)) ∧ Below W.heap.size W W' := by
  have HC : Hid (Cel (W.alloc (.cells #[.int .i64 x.i, .int .i64 x.j, .bool x.s, .int .i64 x.p, .bool x.wr, .bool x.ex] 90)) W.heap.size 90 [.int .i64 x.i, .int .i64 x.j, .bool x.s, .int .i64 x.p, .bool x.wr, .bool x.ex]) := hid (Cel.new W 90 _)
  have HB := hid (below_one W (.cells #[.int .i64 x.i, .int .i64 x.j, .bool x.s, .int .i64 x.p, .bool x.wr, .bool x.ex] 90))
  have H1 := hid (fun W => within_any W x.i 0 2 (by decide) (by decide) (by decide) hx.1.1 hx.1.2)
  have H2 := hid (fun W => within_any W x.j 0 1023 (by decide) (by decide) (by decide) hx.2.1.1 hx.2.1.2)
  have H3 := hid (fun W => within_any W o 0 1023 (by decide) (by decide) (by decide) o0 o1)
  simp only [Int.reduceSub, Int.reduceAdd] at H1 H2 H3
  have ti := tI_range x
  have tj := tJ_range x
  have tw := wi_range o 0 1024 (by decide)
  change Hid (∀ W, Calls Try.prog 25 #[.int .i64 x.i, .int .i64 0, .int .i64 2] W fun e W' => e = .returned (.int .i64 (tI x)) ∧ W' = W) at H1
  change Hid (∀ W, Calls Try.prog 25 #[.int .i64 x.j, .int .i64 0, .int .i64 1023] W fun e W' => e = .returned (.int .i64 (tJ x)) ∧ W' = W) at H2
  unfold adr
  obtain ⟨t, ht⟩ : ∃ t : Nat, tI x = (t : Int) := ⟨(tI x).toNat, by omega⟩
  rw [ht] at H1 ti ⊢
  rw [Int.toNat_natCast]
  have H4 := hid (fun W => index_any W t (by omega))
  have hix : 0 ≤ ix t ∧ ix t ≤ 255 := by have := ix_cases t (by omega); omega
  generalize ix t = it at *
  generalize tJ x = jt at *
  generalize wi o 0 1024 = ot at *
  clear hx ht
  go_enter Try.func36, Try.ntmps36
  go_upto_region 1 with fail
  generalize hX : W.alloc _ = X at *
  clear hX
  generalize hg : W.heap.size = g0 at HC ⊢
  have HD := hid (And.intro (HC.out.on (Below.refl _ _).drew) (below_on HB.out (Below.refl _ _).drew))
  clear HC HB
  refine wp_region_held_drew (S := fun y => Cel y g0 90 [.int .i64 x.i, .int .i64 x.j, .bool x.s, .int .i64 x.p, .bool x.wr, .bool x.ex]) (by kernel_rfl) HD.out.1 (fun hHeld => ?_)
  refine wpAnyH_take (i := 0) (oi := { dst := some 5, op := Op.fieldAddr 90 (Operand.tmp 2) 0, type := 0, pos := "outright.go:94", after := #[], guard := none }) (v := .pointer (some ⟨g0, 0, none⟩)) rfl (by kernel_rfl) (by kernel_rfl) (by kernel_rfl) (fun _ _ _ h => h) (Or.inl ⟨by rfl, by intro w hSw; go_simp⟩) (by assumption) ?_
  simp only [Act.put, List.setIfInBounds_toArray, List.set_cons_zero, List.set_cons_succ]
  refine wpAnyH_take (i := 1) (oi := { dst := some 6, op := Op.load 3 (Operand.tmp 5), type := 3, pos := "outright.go:94", after := #[{ on := 0, ground := Ground.data }], guard := none }) (v := .int .i64 x.i) rfl (by kernel_rfl) (by kernel_rfl) (by kernel_rfl) (fun _ _ _ h => h) (Or.inl ⟨by rfl, by intro w hSw; have h0 := Cel.cell hSw 0; have h1 := Cel.cell hSw 1; simp only [List.getElem?_cons_zero, List.getElem?_cons_succ] at h0 h1; go_simp⟩) (by assumption) ?_
  simp only [Act.put, List.setIfInBounds_toArray, List.set_cons_zero, List.set_cons_succ]
  refine wpAnyH_take (i := 6) (oi := { dst := some 11, op := Op.fieldAddr 90 (Operand.tmp 2) 1, type := 0, pos := "outright.go:94", after := #[], guard := none }) (v := .pointer (some ⟨g0, 1, none⟩)) rfl (by kernel_rfl) (by kernel_rfl) (by kernel_rfl) (fun _ _ _ h => h) (Or.inl ⟨by rfl, by intro w hSw; go_simp⟩) (by assumption) ?_
  simp only [Act.put, List.setIfInBounds_toArray, List.set_cons_zero, List.set_cons_succ]
  refine wpAnyH_take (i := 7) (oi := { dst := some 12, op := Op.load 3 (Operand.tmp 11), type := 3, pos := "outright.go:94", after := #[{ on := 6, ground := Ground.data }], guard := none }) (v := .int .i64 x.j) rfl (by kernel_rfl) (by kernel_rfl) (by kernel_rfl) (fun _ _ _ h => h) (Or.inl ⟨by rfl, by intro w hSw; have h0 := Cel.cell hSw 0; have h1 := Cel.cell hSw 1; simp only [List.getElem?_cons_zero, List.getElem?_cons_succ] at h0 h1; go_simp⟩) (by assumption) ?_
  simp only [Act.put, List.setIfInBounds_toArray, List.set_cons_zero, List.set_cons_succ]
  refine wpAnyH_take (i := 12) (oi := { dst := some 17, op := Op.move (Operand.tmp 1), type := 3, pos := "outright.go:94", after := #[], guard := none }) (v := .int .i64 o) rfl (by kernel_rfl) (by kernel_rfl) (by kernel_rfl) (fun _ _ _ h => h) (Or.inl ⟨by rfl, by intro w hSw; go_simp⟩) (by assumption) ?_
  simp only [Act.put, List.setIfInBounds_toArray, List.set_cons_zero, List.set_cons_succ]
  refine wpAnyH_ready (rs := [2]) (by kernel_rfl) (by simp) (AllReadyH.cons (o := { dst := some 7, op := Op.call { callee := Callee.value (Operand.func 25), args := #[Operand.tmp 6, Operand.const (Value.int IntKind.i64 0), Operand.const (Value.int IntKind.i64 2)], argTypes := #[3, 3, 3] }, type := 3, pos := "outright.go:94", after := #[{ on := 1, ground := Ground.data }], guard := none }) rfl (fun KQ hK => ?_) AllReadyH.nil)
  go_simp
  refine (H1.out _).mono ?_
  rintro e wx ⟨rfl, rfl⟩
  go_wp2_with fail
  refine hK.out _ _ HD.out.1 (fun hHeld => ?_)
  clear hK KQ
  try simp only [Act.put, List.setIfInBounds_toArray, List.set_cons_zero, List.set_cons_succ]
  refine wpAnyH_ready (rs := [3]) (by kernel_rfl) (by simp) (AllReadyH.cons (o := { dst := some 8, op := Op.call { callee := Callee.value (Operand.func 52), args := #[Operand.tmp 7], argTypes := #[3] }, type := 3, pos := "outright.go:94", after := #[{ on := 2, ground := Ground.data }, { on := 2, ground := Ground.chain }], guard := none }) rfl (fun KQ hK => ?_) AllReadyH.nil)
  go_simp
  refine (H4.out _).mono ?_
  rintro e w1 ⟨rfl, hb⟩
  have HE := hid (And.intro (HD.out.1.on hb) (below_on HD.out.2 hb))
  clear hb
  go_wp2_with fail
  refine hK.out _ _ HE.out.1 (fun hHeld => ?_)
  clear hK KQ
  try simp only [Act.put, List.setIfInBounds_toArray, List.set_cons_zero, List.set_cons_succ]
  refine wpAnyH_take (i := 4) (oi := { dst := some 9, op := Op.convert 3 22 (Operand.tmp 8), type := 22, pos := "outright.go:94", after := #[{ on := 3, ground := Ground.data }], guard := none }) (v := .int .u32 it) rfl (by kernel_rfl) (by kernel_rfl) (by kernel_rfl) (fun _ _ _ h => h) (Or.inl ⟨by rfl, by intro w hSw; go_simp; rw [IntKind.wrap_u32]; omega⟩) (by assumption) ?_
  simp only [Act.put, List.setIfInBounds_toArray, List.set_cons_zero, List.set_cons_succ]
  refine wpAnyH_take (i := 5) (oi := { dst := some 10, op := Op.binOp BinOp.shl 22 (Operand.tmp 9) (Operand.const (Value.int IntKind.u64 22)) 108, type := 22, pos := "outright.go:94", after := #[{ on := 4, ground := Ground.data }], guard := none }) (v := .int .u32 (it * 4194304)) rfl (by kernel_rfl) (by kernel_rfl) (by kernel_rfl) (fun _ _ _ h => h) (Or.inl ⟨by rfl, by intro w hSw; go_simp; first | omega | (rw [IntKind.wrap_u32]; omega)⟩) (by assumption) ?_
  simp only [Act.put, List.setIfInBounds_toArray, List.set_cons_zero, List.set_cons_succ]
  refine wpAnyH_ready (rs := [8]) (by kernel_rfl) (by simp) (AllReadyH.cons (o := { dst := some 13, op := Op.call { callee := Callee.value (Operand.func 25), args := #[Operand.tmp 12, Operand.const (Value.int IntKind.i64 0), Operand.const (Value.int IntKind.i64 1023)], argTypes := #[3, 3, 3] }, type := 3, pos := "outright.go:94", after := #[{ on := 7, ground := Ground.data }, { on := 3, ground := Ground.chain }], guard := none }) rfl (fun KQ hK => ?_) AllReadyH.nil)
  go_simp
  refine (H2.out _).mono ?_
  rintro e wx ⟨rfl, rfl⟩
  go_wp2_with fail
  refine hK.out _ _ HE.out.1 (fun hHeld => ?_)
  clear hK KQ
  try simp only [Act.put, List.setIfInBounds_toArray, List.set_cons_zero, List.set_cons_succ]
  refine wpAnyH_take (i := 9) (oi := { dst := some 14, op := Op.convert 3 22 (Operand.tmp 13), type := 22, pos := "outright.go:94", after := #[{ on := 8, ground := Ground.data }], guard := none }) (v := .int .u32 jt) rfl (by kernel_rfl) (by kernel_rfl) (by kernel_rfl) (fun _ _ _ h => h) (Or.inl ⟨by rfl, by intro w hSw; go_simp; rw [IntKind.wrap_u32]; omega⟩) (by assumption) ?_
  simp only [Act.put, List.setIfInBounds_toArray, List.set_cons_zero, List.set_cons_succ]
  refine wpAnyH_take (i := 10) (oi := { dst := some 15, op := Op.binOp BinOp.shl 22 (Operand.tmp 14) (Operand.const (Value.int IntKind.u64 12)) 108, type := 22, pos := "outright.go:94", after := #[{ on := 9, ground := Ground.data }], guard := none }) (v := .int .u32 (jt * 4096)) rfl (by kernel_rfl) (by kernel_rfl) (by kernel_rfl) (fun _ _ _ h => h) (Or.inl ⟨by rfl, by intro w hSw; go_simp; first | omega | (rw [IntKind.wrap_u32]; omega)⟩) (by assumption) ?_
  simp only [Act.put, List.setIfInBounds_toArray, List.set_cons_zero, List.set_cons_succ]
  refine wpAnyH_take (i := 11) (oi := { dst := some 16, op := Op.binOp BinOp.add 22 (Operand.tmp 10) (Operand.tmp 15) 22, type := 22, pos := "outright.go:94", after := #[{ on := 5, ground := Ground.data }, { on := 10, ground := Ground.data }], guard := none }) (v := .int .u32 (it * 4194304 + jt * 4096)) rfl (by kernel_rfl) (by kernel_rfl) (by kernel_rfl) (fun _ _ _ h => h) (Or.inl ⟨by rfl, by intro w hSw; go_simp; first | omega | (rw [IntKind.wrap_u32]; omega)⟩) (by assumption) ?_
  simp only [Act.put, List.setIfInBounds_toArray, List.set_cons_zero, List.set_cons_succ]
  refine wpAnyH_ready (rs := [13]) (by kernel_rfl) (by simp) (AllReadyH.cons (o := { dst := some 18, op := Op.call { callee := Callee.value (Operand.func 25), args := #[Operand.tmp 17, Operand.const (Value.int IntKind.i64 0), Operand.const (Value.int IntKind.i64 1023)], argTypes := #[3, 3, 3] }, type := 3, pos := "outright.go:94", after := #[{ on := 12, ground := Ground.data }, { on := 8, ground := Ground.chain }], guard := none }) rfl (fun KQ hK => ?_) AllReadyH.nil)
  go_simp
  refine (H3.out _).mono ?_
  rintro e wx ⟨rfl, rfl⟩
  go_wp2_with fail
  refine hK.out _ _ HE.out.1 (fun hHeld => ?_)
  clear hK KQ
  try simp only [Act.put, List.setIfInBounds_toArray, List.set_cons_zero, List.set_cons_succ]
  refine wpAnyH_take (i := 14) (oi := { dst := some 19, op := Op.convert 3 22 (Operand.tmp 18), type := 22, pos := "outright.go:94", after := #[{ on := 13, ground := Ground.data }], guard := none }) (v := .int .u32 ot) rfl (by kernel_rfl) (by kernel_rfl) (by kernel_rfl) (fun _ _ _ h => h) (Or.inl ⟨by rfl, by intro w hSw; go_simp; rw [IntKind.wrap_u32]; omega⟩) (by assumption) ?_
  simp only [Act.put, List.setIfInBounds_toArray, List.set_cons_zero, List.set_cons_succ]
  refine wpAnyH_take (i := 15) (oi := { dst := some 20, op := Op.binOp BinOp.shl 22 (Operand.tmp 19) (Operand.const (Value.int IntKind.u64 2)) 108, type := 22, pos := "outright.go:94", after := #[{ on := 14, ground := Ground.data }], guard := none }) (v := .int .u32 (ot * 4)) rfl (by kernel_rfl) (by kernel_rfl) (by kernel_rfl) (fun _ _ _ h => h) (Or.inl ⟨by rfl, by intro w hSw; go_simp; first | omega | (rw [IntKind.wrap_u32]; omega)⟩) (by assumption) ?_
  simp only [Act.put, List.setIfInBounds_toArray, List.set_cons_zero, List.set_cons_succ]
  refine wpAnyH_take (i := 16) (oi := { dst := some 21, op := Op.binOp BinOp.add 22 (Operand.tmp 16) (Operand.tmp 20) 22, type := 22, pos := "outright.go:94", after := #[{ on := 11, ground := Ground.data }, { on := 15, ground := Ground.data }], guard := none }) (v := .int .u32 (it * 4194304 + jt * 4096 + ot * 4)) rfl (by kernel_rfl) (by kernel_rfl) (by kernel_rfl) (fun _ _ _ h => h) (Or.inl ⟨by rfl, by intro w hSw; go_simp; first | omega | (rw [IntKind.wrap_u32]; omega)⟩) (by assumption) ?_
  simp only [Act.put, List.setIfInBounds_toArray, List.set_cons_zero, List.set_cons_succ]
  refine wpAnyH_ready (rs := [17]) (by kernel_rfl) (by simp) (AllReadyH.cons (o := { dst := some 4, op := Op.assign (Operand.tmp 21), type := 22, pos := "outright.go:94", after := #[{ on := 16, ground := Ground.data }, { on := 13, ground := Ground.chain }, { on := 0, ground := Ground.phase }, { on := 1, ground := Ground.phase }, { on := 2, ground := Ground.phase }, { on := 3, ground := Ground.phase }, { on := 4, ground := Ground.phase }, { on := 5, ground := Ground.phase }, { on := 6, ground := Ground.phase }, { on := 7, ground := Ground.phase }, { on := 8, ground := Ground.phase }, { on := 9, ground := Ground.phase }, { on := 10, ground := Ground.phase }, { on := 11, ground := Ground.phase }, { on := 12, ground := Ground.phase }, { on := 13, ground := Ground.phase }, { on := 14, ground := Ground.phase }, { on := 15, ground := Ground.phase }, { on := 16, ground := Ground.phase }], guard := none }) rfl (fun KQ hK => ?_) AllReadyH.nil)
  go_simp
  refine hK.out _ _ HE.out.1 (fun hHeld => ?_)
  clear hK KQ
  try simp only [Act.put, List.setIfInBounds_toArray, List.set_cons_zero, List.set_cons_succ]
  refine wpAnyH_done (by kernel_rfl) ?_ _
  subst hg
  go_wp2_with fail
  go_ret
  exact ⟨rfl, HE.out.2⟩
theorem listed_any (W : World) (A : List (Int × Mp)) (lo : Option Addr) (lc : Nat) (hr : RowAt W lo A) (hn : (A.length : Int) ≤ 262144) (v : Int) (q : Mp) (hm : (v, q) ∈ A) (hs : A.Pairwise (fun x y => x.1 < y.1)) :
    Calls Try.prog 39 #[.slice lo A.length lc, .int .u32 v, q.v] W fun e W' => e = .returned (.bool true) ∧ Below W.heap.size W W' := by
  obtain ⟨i0, hi0⟩ := List.getElem?_of_mem hm
  obtain ⟨hl0, he0⟩ := List.getElem?_eq_some_iff.1 hi0
  have HLt : Hid (∀ k (hk : k < i0), (A[k]'(by omega)).1 < v) := hid (fun k hk => by
    have := List.pairwise_iff_getElem.1 hs k i0 (by omega) hl0 hk
    rw [he0] at this
    exact this)
  obtain ⟨qs, qp, qw, qx⟩ := q
  have HC : Hid (Cel (W.alloc (.cells #[.bool qs, .int .i64 qp, .bool qw, .bool qx] 35)) W.heap.size 35 [.bool qs, .int .i64 qp, .bool qw, .bool qx]) := hid (Cel.new W 35 _)
  have HB := hid (below_one W (.cells #[.bool qs, .int .i64 qp, .bool qw, .bool qx] 35))
  have HR := hid (fun x (hb : Below W.heap.size W x) => hr.on hb)
  have HI0 := hid hi0
  clear hm hs hr hi0 he0
  obtain ⟨na, hna⟩ : ∃ na, A.length = na := ⟨_, rfl⟩
  rw [hna] at hl0 hn ⊢
  have HN := hid hna
  clear hna
  unfold Mp.v
  go_enter Try.func39, Try.ntmps39
  go_upto_region 1 with fail
  generalize hX : W.alloc _ = X at *
  clear hX
  generalize hg : W.heap.size = g5 at HC ⊢
  go_wp2_with fail
  go_loopw [7] (fun i wr => ∃ j : Nat, j ≤ i0 ∧ i = .int .i64 (j : Int) ∧ wr = X) (fun i _ => na - (intOf i).toNat)
  case atStart => exact ⟨0, Nat.zero_le _, rfl, rfl⟩
  case round =>
    obtain ⟨j, hj, rfl, rfl⟩ := hrel
    have q1 : (j : Int) < (na : Int) := by omega
    by_cases hlt : j < i0
    · obtain ⟨y, hy⟩ : ∃ y, A[j]? = some y := ⟨A[j]'(by rw [HN.out]; omega), List.getElem?_eq_getElem _⟩
      have hv := HLt.out j hlt
      rw [(List.getElem?_eq_some_iff.1 hy).2] at hv
      obtain ⟨g, hg1, _, c0, _⟩ := HR.out _ HB.out j y hy
      subst hg1
      have hne : (y.1 == v) = false := by simp; omega
      clear hy hv
      generalize y.1 = yv at *
      go_wp2_with fail
      go_roundw
      case measure => simp [intOf] <;> omega
      case rel => exact ⟨j + 1, by omega, by simp, trivial⟩
    · have hji : j = i0 := by omega
      subst hji
      obtain ⟨g, hg1, _, c0, c1, c2, c3, c4⟩ := HR.out _ HB.out j _ HI0.out
      subst hg1
      simp only at c0 c1 c2 c3 c4
      go_upto_region 5 with fail
      have HD : Hid (Cel wr.drew g5 35 [.bool qs, .int .i64 qp, .bool qw, .bool qx] ∧ (wr.drew.cell? ⟨g, j * 5 + 1, none⟩ = some (.bool qs) ∧ wr.drew.cell? ⟨g, j * 5 + 2, none⟩ = some (.int .i64 qp) ∧ wr.drew.cell? ⟨g, j * 5 + 3, none⟩ = some (.bool qw) ∧ wr.drew.cell? ⟨g, j * 5 + 4, none⟩ = some (.bool qx))) := hid ⟨HC.out.on (Below.refl _ _).drew, c1, c2, c3, c4⟩
      clear c0 c1 c2 c3 c4
      refine wp_region_held_drew (S := fun x => Cel x g5 35 [.bool qs, .int .i64 qp, .bool qw, .bool qx] ∧ (x.cell? ⟨g, j * 5 + 1, none⟩ = some (.bool qs) ∧ x.cell? ⟨g, j * 5 + 2, none⟩ = some (.int .i64 qp) ∧ x.cell? ⟨g, j * 5 + 3, none⟩ = some (.bool qw) ∧ x.cell? ⟨g, j * 5 + 4, none⟩ = some (.bool qx))) (by kernel_rfl) HD.out (fun hHeld => ?_)
      refine wpAnyH_take (i := 0) (oi := { dst := some 21, op := Op.move (Operand.tmp 0), type := 60, pos := "outright.go:167", after := #[], guard := none }) (v := .slice (some ⟨g, 0, none⟩) na lc) rfl (by kernel_rfl) (by kernel_rfl) (by kernel_rfl) (fun _ _ _ h => h) (Or.inl ⟨by rfl, by intro w hSw; go_simp⟩) (by assumption) ?_
      simp only [Act.put, List.setIfInBounds_toArray, List.set_cons_zero, List.set_cons_succ]
      refine wpAnyH_take (i := 1) (oi := { dst := some 22, op := Op.move (Operand.tmp 7), type := 3, pos := "outright.go:167", after := #[], guard := none }) (v := .int .i64 (j : Int)) rfl (by kernel_rfl) (by kernel_rfl) (by kernel_rfl) (fun _ _ _ h => h) (Or.inl ⟨by rfl, by intro w hSw; go_simp⟩) (by assumption) ?_
      simp only [Act.put, List.setIfInBounds_toArray, List.set_cons_zero, List.set_cons_succ]
      refine wpAnyH_take (i := 2) (oi := { dst := some 23, op := Op.indexAddr 60 (Operand.tmp 21) (Operand.tmp 22), type := 0, pos := "outright.go:167", after := #[{ on := 0, ground := Ground.data }, { on := 1, ground := Ground.data }], guard := none }) (v := .pointer (some ⟨g, j * 5, none⟩)) rfl (by kernel_rfl) (by kernel_rfl) (by kernel_rfl) (fun _ _ _ h => h) (Or.inl ⟨by rfl, by intro w hSw; go_simp⟩) (by assumption) ?_
      simp only [Act.put, List.setIfInBounds_toArray, List.set_cons_zero, List.set_cons_succ]
      refine wpAnyH_take (i := 3) (oi := { dst := some 24, op := Op.fieldAddr 67 (Operand.tmp 23) 1, type := 0, pos := "outright.go:167", after := #[{ on := 2, ground := Ground.data }], guard := none }) (v := .pointer (some ⟨g, j * 5 + 1, none⟩)) rfl (by kernel_rfl) (by kernel_rfl) (by kernel_rfl) (fun _ _ _ h => h) (Or.inl ⟨by rfl, by intro w hSw; go_simp⟩) (by assumption) ?_
      simp only [Act.put, List.setIfInBounds_toArray, List.set_cons_zero, List.set_cons_succ]
      refine wpAnyH_take (i := 4) (oi := { dst := some 25, op := Op.load 35 (Operand.tmp 24), type := 35, pos := "outright.go:167", after := #[{ on := 3, ground := Ground.data }], guard := none }) (v := .agg #[.bool qs, .int .i64 qp, .bool qw, .bool qx]) rfl (by kernel_rfl) (by kernel_rfl) (by kernel_rfl) (fun _ _ _ h => h) (Or.inl ⟨by rfl, by intro w hSw; obtain ⟨d1, d2, d3, d4⟩ := hSw.2; go_simp⟩) (by assumption) ?_
      simp only [Act.put, List.setIfInBounds_toArray, List.set_cons_zero, List.set_cons_succ]
      refine wpAnyH_take (i := 5) (oi := { dst := some 26, op := Op.load 35 (Operand.tmp 5), type := 35, pos := "outright.go:167", after := #[], guard := none }) (v := .agg #[.bool qs, .int .i64 qp, .bool qw, .bool qx]) rfl (by kernel_rfl) (by kernel_rfl) (by kernel_rfl) (fun _ _ _ h => h) (Or.inl ⟨by rfl, by intro w hSw; have h0 := Cel.cell hSw.1 0; have h1 := Cel.cell hSw.1 1; have h2 := Cel.cell hSw.1 2; have h3 := Cel.cell hSw.1 3; simp only [List.getElem?_cons_zero, List.getElem?_cons_succ] at h0 h1 h2 h3; go_simp⟩) (by assumption) ?_
      simp only [Act.put, List.setIfInBounds_toArray, List.set_cons_zero, List.set_cons_succ]
      refine wpAnyH_take (i := 6) (oi := { dst := some 27, op := Op.binOp BinOp.eql 35 (Operand.tmp 25) (Operand.tmp 26) 35, type := 4, pos := "outright.go:167", after := #[{ on := 4, ground := Ground.data }, { on := 5, ground := Ground.data }], guard := none }) (v := .bool true) rfl (by kernel_rfl) (by kernel_rfl) (by kernel_rfl) (fun _ _ _ h => h) (Or.inl ⟨by rfl, by intro w hSw; go_simp⟩) (by assumption) ?_
      simp only [Act.put, List.setIfInBounds_toArray, List.set_cons_zero, List.set_cons_succ]
      refine wpAnyH_ready (rs := [7]) (by kernel_rfl) (by simp) (AllReadyH.cons (o := { dst := some 6, op := Op.assign (Operand.tmp 27), type := 4, pos := "outright.go:167", after := #[{ on := 6, ground := Ground.data }, { on := 0, ground := Ground.phase }, { on := 1, ground := Ground.phase }, { on := 2, ground := Ground.phase }, { on := 3, ground := Ground.phase }, { on := 4, ground := Ground.phase }, { on := 5, ground := Ground.phase }, { on := 6, ground := Ground.phase }], guard := none }) rfl (fun KQ hK => ?_) AllReadyH.nil)
      go_simp
      refine hK.out _ _ HD.out (fun hHeld => ?_)
      clear hK KQ
      try simp only [Act.put, List.setIfInBounds_toArray, List.set_cons_zero, List.set_cons_succ]
      refine wpAnyH_done (by kernel_rfl) ?_ _
      subst hg
      go_wp2_with fail
      go_ret
      exact ⟨rfl, below_on HB.out (Below.refl _ _).drew⟩
theorem Mem.notT {x : World} {f : Fp} {m : MS} (h : Mem x f m) {g : Nat} {t : TypeId} {cs : List Value} (hg : Cel x g t cs) (h1 : t ≠ 126) (h2 : t ≠ 146) (h3 : t ≠ 156) : g ∉ f.all := by
  have hne : ∀ g' t' cs', Cel x g' t' cs' → t ≠ t' → g ≠ g' := fun g' t' cs' hc ht hgg => by
    subst hgg
    exact ht (hg.ty hc)
  intro hm
  simp only [Fp.all, List.mem_cons] at hm
  rcases hm with hm | hm | hm | hm
  · exact hne _ _ _ h.cel h1 hm
  · exact hne _ _ _ h.sec h2 hm
  · exact hne _ _ _ h.ins h2 hm
  · obtain ⟨i, hi, rfl⟩ := List.mem_iff_getElem.1 hm
    have hp := h.pg i (by rw [← h.len]; exact hi)
    exact hne _ _ _ hp h3 (by simp [Fp.b, List.getD_eq_getElem?_getD, hi])
theorem Cel.rd {x x' : World} {f : Fp} {m m' : MS} {g : Nat} {t : TypeId} {cs : List Value} (hg : Cel x g t cs) (h : Mem x f m) (s : Rd x x' f m') (h1 : t ≠ 126) (h2 : t ≠ 146) (h3 : t ≠ 156) : Cel x' g t cs := hg.but s.but (fun hm => h.notT hg h1 h2 h3 (Fp.w_all hm))
theorem allowed_any (W : World) (fa : Fp) (m : MS) (c : Int) (hm : Mem W fa (m.wc c)) (hU : m.U) (va : Int) (v0 : 0 ≤ va) (v1 : va < 4294967296) (q : Mp) (o : Int) (o0 : -9223372036854775808 ≤ o) (o1 : o ≤ 9223372036854775807) (hk : m.wk 0 va = q) (hE : m.wkE 0 va = 0) (hO : spO va = wi o 0 1024) :
    Calls Try.prog 38 #[ptr fa.gm, .int .u32 va, q.v, .int .i64 o] W fun e W' => e = .returned (.bool true) ∧ ∃ c', Rd W W' fa (m.wc c') := by
  have HT : Hid (∀ x c a, Mem x fa (m.wc c) → Calls Try.prog 32 #[ptr fa.gm, .int .i64 0, .int .u32 va, .int .i64 a] x fun e w' => e = .returned (.tuple #[fr (if q.al a then q.s else false) (if q.al a then q.p else 0), .int .i64 (if q.al a then wi o 0 1024 else 0), .int .i64 (if q.al a then 0 else 93)]) ∧ ∃ c', Rd x w' fa (m.wc c')) := hid (fun x c a hx => by
    have h := translate_any x fa (m.wc c) hx (hU.wc c) 0 va a v0 v1
    obtain ⟨c', hc⟩ := MS.wkS_wc (m.wc c) 0 va
    rw [hc, MS.wc_wc] at h
    have e1 : (m.wc c).trE 0 va a = if q.al a then 0 else 93 := by
      show m.trE 0 va a = _
      unfold MS.trE
      rw [if_pos hE, hk]
    have e2 : (m.wc c).trS 0 va a = if q.al a then q.s else false := by
      show (if (m.wc c).trE 0 va a = 0 then (m.wk 0 va).s else false) = _
      rw [e1, hk]
      by_cases hal : q.al a = true
      · simp [hal]
      · simp [hal]
    have e3 : (m.wc c).trP 0 va a = if q.al a then q.p else 0 := by
      show (if (m.wc c).trE 0 va a = 0 then (m.wk 0 va).p else 0) = _
      rw [e1, hk]
      by_cases hal : q.al a = true
      · simp [hal]
      · simp [hal]
    have e4 : (m.wc c).trO 0 va a = if q.al a then wi o 0 1024 else 0 := by
      show (if (m.wc c).trE 0 va a = 0 then spO va else 0) = _
      rw [e1, hO]
      by_cases hal : q.al a = true
      · simp [hal]
      · simp [hal]
    rw [e1, e2, e3, e4] at h
    exact h.mono (fun e w' hh => ⟨hh.1, c', hh.2⟩))
  have HW := hid (fun W => within_any W o 0 1023 (by decide) (by decide) (by decide) o0 o1)
  simp only [Int.reduceSub, Int.reduceAdd] at HW
  obtain ⟨qs, qp, qw, qx⟩ := q
  have HA0 := hid (fun x c h => HT.out x c 0 h)
  have HA1 := hid (fun x c h => HT.out x c 1 h)
  have HA2 := hid (fun x c h => HT.out x c 2 h)
  have HC : Hid (Cel (W.alloc (.cells #[.bool qs, .int .i64 qp, .bool qw, .bool qx] 35)) W.heap.size 35 [.bool qs, .int .i64 qp, .bool qw, .bool qx]) := hid (Cel.new W 35 _)
  have HR := hid ((Rd.start hm).on (below_one W (.cells #[.bool qs, .int .i64 qp, .bool qw, .bool qx] 35)))
  clear HT hm hU hk hE hO o0 o1
  simp only [Mp.al, if_true, if_neg (show ¬ (1 : Int) = 0 by decide), if_neg (show ¬ (2 : Int) = 0 by decide), if_neg (show ¬ (2 : Int) = 1 by decide)] at HA0 HA1 HA2
  unfold ptr fr Mp.v at *
  generalize wi o 0 1024 = wo at *
  cases qw
  all_goals cases qx
  all_goals simp only [Bool.false_eq_true, if_false, if_true] at HA0 HA1 HA2
  · go_enter Try.func38, Try.ntmps38
    go_upto_region 1 with fail
    generalize hX : W.alloc _ = X at *
    clear hX
    generalize hg : W.heap.size = g6 at HC ⊢
    go_upto_region 2 with (go_at_call 32; refine (HA0.out _ _ HR.out.mem).mono ?_; rintro e w1 ⟨rfl, c1, hr⟩; have HR1 := hid ((HR.out.step hr.mem hr.but).on (below_one _ (.cells #[.bool qs, .int .i64 qp] 33))); have HC1 := hid ((HC.out.rd HR.out.mem hr (by decide) (by decide) (by decide)).on (below_one _ (.cells #[.bool qs, .int .i64 qp] 33))); have HF1 := hid (Cel.new w1 33 [.bool qs, .int .i64 qp]); clear hr)
    generalize hX1 : World.alloc _ _ = X1 at *
    clear hX1 HR HC HA0
    generalize w1.heap.size = g9 at *
    have a0 := HF1.out.cell 0
    have a1 := HF1.out.cell 1
    have b0 := HC1.out.cell 0
    have b1 := HC1.out.cell 1
    simp only [List.getElem?_cons_zero, List.getElem?_cons_succ] at a0 a1 b0 b1
    go_upto_region 4 with (go_at_call 25; refine (HW.out _).mono ?_; rintro e wz ⟨rfl, rfl⟩)
    clear a0 a1 b0 b1
    go_upto_region 5 with (go_at_call 32; refine (HA1.out _ _ HR1.out.mem).mono ?_; rintro e w2 ⟨rfl, c2, hr⟩; have HR2 := hid ((HR1.out.step hr.mem hr.but).on (below_one _ (.cells #[.bool false, .int .i64 0] 33))); have HC2 := hid ((HC1.out.rd HR1.out.mem hr (by decide) (by decide) (by decide)).on (below_one _ (.cells #[.bool false, .int .i64 0] 33))); have HF2 := hid (Cel.new w2 33 [.bool false, .int .i64 0]); have HG2 : Hid (W.heap.size ≤ w2.heap.size) := hid (Nat.le_trans HR1.out.but.size hr.but.size); clear hr)
    generalize hX2 : World.alloc _ _ = X2 at *
    clear hX2 HR1 HC1 HA1 HF1
    generalize w2.heap.size = g12 at *
    have a0 := HF2.out.cell 0
    have a1 := HF2.out.cell 1
    have b0 := HC2.out.cell 0
    have b1 := HC2.out.cell 1
    have b2 := HC2.out.cell 2
    have b3 := HC2.out.cell 3
    simp only [List.getElem?_cons_zero, List.getElem?_cons_succ] at a0 a1 b0 b1 b2 b3
    go_upto_region 7 with fail
    clear a0 a1 b0 b1 b2 b3
    go_upto_region 8 with (go_at_call 32; refine (HA2.out _ _ HR2.out.mem).mono ?_; rintro e w3 ⟨rfl, c3, hr⟩; have HR3 := hid (HR2.out.step hr.mem hr.but); have HC3 := hid (HC2.out.rd HR2.out.mem hr (by decide) (by decide) (by decide)); have HF3 := hid (HF2.out.rd HR2.out.mem hr (by decide) (by decide) (by decide)); clear hr; have a0 := HF3.out.cell 0; have a1 := HF3.out.cell 1; simp only [List.getElem?_cons_zero, List.getElem?_cons_succ] at a0 a1; have f0 := HF3.out.free 0; have f1 := HF3.out.free 1)
    have HF4 := hid ((HF3.out.setCell 0 (.bool false)).setCell 1 (.int .i64 0))
    have HB4 := hid ((ButL.setCell (G := [g12]) w3 g12 0 (.bool false) (by simp)).trans (.setCell _ g12 1 (.int .i64 0) (by simp)))
    generalize hX3 : World.setCell _ _ _ = X3 at *
    clear hX3 a0 a1 f0 f1
    have HR4 := hid (HR3.out.set HB4.out HG2.out)
    have HC4 := hid (HC3.out.but HB4.out (by rw [List.mem_singleton]; intro h; subst h; exact absurd (HC3.out.ty HF3.out) (by decide)))
    clear HR3 HC3 HB4 HF3 HA2 HC2 HF2 HR2
    have a0 := HF4.out.cell 0
    have a1 := HF4.out.cell 1
    have b0 := HC4.out.cell 0
    have b1 := HC4.out.cell 1
    have b2 := HC4.out.cell 2
    have b3 := HC4.out.cell 3
    simp only [List.set_cons_zero, List.set_cons_succ, List.getElem?_cons_zero, List.getElem?_cons_succ] at a0 a1 b0 b1 b2 b3
    go_wp2_with fail
    go_ret
    exact ⟨rfl, c3, HR4.out⟩
  · go_enter Try.func38, Try.ntmps38
    go_upto_region 1 with fail
    generalize hX : W.alloc _ = X at *
    clear hX
    generalize hg : W.heap.size = g6 at HC ⊢
    go_upto_region 2 with (go_at_call 32; refine (HA0.out _ _ HR.out.mem).mono ?_; rintro e w1 ⟨rfl, c1, hr⟩; have HR1 := hid ((HR.out.step hr.mem hr.but).on (below_one _ (.cells #[.bool qs, .int .i64 qp] 33))); have HC1 := hid ((HC.out.rd HR.out.mem hr (by decide) (by decide) (by decide)).on (below_one _ (.cells #[.bool qs, .int .i64 qp] 33))); have HF1 := hid (Cel.new w1 33 [.bool qs, .int .i64 qp]); clear hr)
    generalize hX1 : World.alloc _ _ = X1 at *
    clear hX1 HR HC HA0
    generalize w1.heap.size = g9 at *
    have a0 := HF1.out.cell 0
    have a1 := HF1.out.cell 1
    have b0 := HC1.out.cell 0
    have b1 := HC1.out.cell 1
    simp only [List.getElem?_cons_zero, List.getElem?_cons_succ] at a0 a1 b0 b1
    go_upto_region 4 with (go_at_call 25; refine (HW.out _).mono ?_; rintro e wz ⟨rfl, rfl⟩)
    clear a0 a1 b0 b1
    go_upto_region 5 with (go_at_call 32; refine (HA1.out _ _ HR1.out.mem).mono ?_; rintro e w2 ⟨rfl, c2, hr⟩; have HR2 := hid ((HR1.out.step hr.mem hr.but).on (below_one _ (.cells #[.bool false, .int .i64 0] 33))); have HC2 := hid ((HC1.out.rd HR1.out.mem hr (by decide) (by decide) (by decide)).on (below_one _ (.cells #[.bool false, .int .i64 0] 33))); have HF2 := hid (Cel.new w2 33 [.bool false, .int .i64 0]); have HG2 : Hid (W.heap.size ≤ w2.heap.size) := hid (Nat.le_trans HR1.out.but.size hr.but.size); clear hr)
    generalize hX2 : World.alloc _ _ = X2 at *
    clear hX2 HR1 HC1 HA1 HF1
    generalize w2.heap.size = g12 at *
    have a0 := HF2.out.cell 0
    have a1 := HF2.out.cell 1
    have b0 := HC2.out.cell 0
    have b1 := HC2.out.cell 1
    have b2 := HC2.out.cell 2
    have b3 := HC2.out.cell 3
    simp only [List.getElem?_cons_zero, List.getElem?_cons_succ] at a0 a1 b0 b1 b2 b3
    go_upto_region 7 with fail
    clear a0 a1 b0 b1 b2 b3
    go_upto_region 8 with (go_at_call 32; refine (HA2.out _ _ HR2.out.mem).mono ?_; rintro e w3 ⟨rfl, c3, hr⟩; have HR3 := hid (HR2.out.step hr.mem hr.but); have HC3 := hid (HC2.out.rd HR2.out.mem hr (by decide) (by decide) (by decide)); have HF3 := hid (HF2.out.rd HR2.out.mem hr (by decide) (by decide) (by decide)); clear hr; have a0 := HF3.out.cell 0; have a1 := HF3.out.cell 1; simp only [List.getElem?_cons_zero, List.getElem?_cons_succ] at a0 a1; have f0 := HF3.out.free 0; have f1 := HF3.out.free 1)
    have HF4 := hid ((HF3.out.setCell 0 (.bool qs)).setCell 1 (.int .i64 qp))
    have HB4 := hid ((ButL.setCell (G := [g12]) w3 g12 0 (.bool qs) (by simp)).trans (.setCell _ g12 1 (.int .i64 qp) (by simp)))
    generalize hX3 : World.setCell _ _ _ = X3 at *
    clear hX3 a0 a1 f0 f1
    have HR4 := hid (HR3.out.set HB4.out HG2.out)
    have HC4 := hid (HC3.out.but HB4.out (by rw [List.mem_singleton]; intro h; subst h; exact absurd (HC3.out.ty HF3.out) (by decide)))
    clear HR3 HC3 HB4 HF3 HA2 HC2 HF2 HR2
    have a0 := HF4.out.cell 0
    have a1 := HF4.out.cell 1
    have b0 := HC4.out.cell 0
    have b1 := HC4.out.cell 1
    have b2 := HC4.out.cell 2
    have b3 := HC4.out.cell 3
    simp only [List.set_cons_zero, List.set_cons_succ, List.getElem?_cons_zero, List.getElem?_cons_succ] at a0 a1 b0 b1 b2 b3
    go_wp2_with fail
    go_ret
    exact ⟨rfl, c3, HR4.out⟩
  · go_enter Try.func38, Try.ntmps38
    go_upto_region 1 with fail
    generalize hX : W.alloc _ = X at *
    clear hX
    generalize hg : W.heap.size = g6 at HC ⊢
    go_upto_region 2 with (go_at_call 32; refine (HA0.out _ _ HR.out.mem).mono ?_; rintro e w1 ⟨rfl, c1, hr⟩; have HR1 := hid ((HR.out.step hr.mem hr.but).on (below_one _ (.cells #[.bool qs, .int .i64 qp] 33))); have HC1 := hid ((HC.out.rd HR.out.mem hr (by decide) (by decide) (by decide)).on (below_one _ (.cells #[.bool qs, .int .i64 qp] 33))); have HF1 := hid (Cel.new w1 33 [.bool qs, .int .i64 qp]); clear hr)
    generalize hX1 : World.alloc _ _ = X1 at *
    clear hX1 HR HC HA0
    generalize w1.heap.size = g9 at *
    have a0 := HF1.out.cell 0
    have a1 := HF1.out.cell 1
    have b0 := HC1.out.cell 0
    have b1 := HC1.out.cell 1
    simp only [List.getElem?_cons_zero, List.getElem?_cons_succ] at a0 a1 b0 b1
    go_upto_region 4 with (go_at_call 25; refine (HW.out _).mono ?_; rintro e wz ⟨rfl, rfl⟩)
    clear a0 a1 b0 b1
    go_upto_region 5 with (go_at_call 32; refine (HA1.out _ _ HR1.out.mem).mono ?_; rintro e w2 ⟨rfl, c2, hr⟩; have HR2 := hid ((HR1.out.step hr.mem hr.but).on (below_one _ (.cells #[.bool qs, .int .i64 qp] 33))); have HC2 := hid ((HC1.out.rd HR1.out.mem hr (by decide) (by decide) (by decide)).on (below_one _ (.cells #[.bool qs, .int .i64 qp] 33))); have HF2 := hid (Cel.new w2 33 [.bool qs, .int .i64 qp]); have HG2 : Hid (W.heap.size ≤ w2.heap.size) := hid (Nat.le_trans HR1.out.but.size hr.but.size); clear hr)
    generalize hX2 : World.alloc _ _ = X2 at *
    clear hX2 HR1 HC1 HA1 HF1
    generalize w2.heap.size = g12 at *
    have a0 := HF2.out.cell 0
    have a1 := HF2.out.cell 1
    have b0 := HC2.out.cell 0
    have b1 := HC2.out.cell 1
    have b2 := HC2.out.cell 2
    have b3 := HC2.out.cell 3
    simp only [List.getElem?_cons_zero, List.getElem?_cons_succ] at a0 a1 b0 b1 b2 b3
    go_upto_region 7 with fail
    clear a0 a1 b0 b1 b2 b3
    go_upto_region 8 with (go_at_call 32; refine (HA2.out _ _ HR2.out.mem).mono ?_; rintro e w3 ⟨rfl, c3, hr⟩; have HR3 := hid (HR2.out.step hr.mem hr.but); have HC3 := hid (HC2.out.rd HR2.out.mem hr (by decide) (by decide) (by decide)); have HF3 := hid (HF2.out.rd HR2.out.mem hr (by decide) (by decide) (by decide)); clear hr; have a0 := HF3.out.cell 0; have a1 := HF3.out.cell 1; simp only [List.getElem?_cons_zero, List.getElem?_cons_succ] at a0 a1; have f0 := HF3.out.free 0; have f1 := HF3.out.free 1)
    have HF4 := hid ((HF3.out.setCell 0 (.bool false)).setCell 1 (.int .i64 0))
    have HB4 := hid ((ButL.setCell (G := [g12]) w3 g12 0 (.bool false) (by simp)).trans (.setCell _ g12 1 (.int .i64 0) (by simp)))
    generalize hX3 : World.setCell _ _ _ = X3 at *
    clear hX3 a0 a1 f0 f1
    have HR4 := hid (HR3.out.set HB4.out HG2.out)
    have HC4 := hid (HC3.out.but HB4.out (by rw [List.mem_singleton]; intro h; subst h; exact absurd (HC3.out.ty HF3.out) (by decide)))
    clear HR3 HC3 HB4 HF3 HA2 HC2 HF2 HR2
    have a0 := HF4.out.cell 0
    have a1 := HF4.out.cell 1
    have b0 := HC4.out.cell 0
    have b1 := HC4.out.cell 1
    have b2 := HC4.out.cell 2
    have b3 := HC4.out.cell 3
    simp only [List.set_cons_zero, List.set_cons_succ, List.getElem?_cons_zero, List.getElem?_cons_succ] at a0 a1 b0 b1 b2 b3
    go_wp2_with fail
    go_ret
    exact ⟨rfl, c3, HR4.out⟩
  · go_enter Try.func38, Try.ntmps38
    go_upto_region 1 with fail
    generalize hX : W.alloc _ = X at *
    clear hX
    generalize hg : W.heap.size = g6 at HC ⊢
    go_upto_region 2 with (go_at_call 32; refine (HA0.out _ _ HR.out.mem).mono ?_; rintro e w1 ⟨rfl, c1, hr⟩; have HR1 := hid ((HR.out.step hr.mem hr.but).on (below_one _ (.cells #[.bool qs, .int .i64 qp] 33))); have HC1 := hid ((HC.out.rd HR.out.mem hr (by decide) (by decide) (by decide)).on (below_one _ (.cells #[.bool qs, .int .i64 qp] 33))); have HF1 := hid (Cel.new w1 33 [.bool qs, .int .i64 qp]); clear hr)
    generalize hX1 : World.alloc _ _ = X1 at *
    clear hX1 HR HC HA0
    generalize w1.heap.size = g9 at *
    have a0 := HF1.out.cell 0
    have a1 := HF1.out.cell 1
    have b0 := HC1.out.cell 0
    have b1 := HC1.out.cell 1
    simp only [List.getElem?_cons_zero, List.getElem?_cons_succ] at a0 a1 b0 b1
    go_upto_region 4 with (go_at_call 25; refine (HW.out _).mono ?_; rintro e wz ⟨rfl, rfl⟩)
    clear a0 a1 b0 b1
    go_upto_region 5 with (go_at_call 32; refine (HA1.out _ _ HR1.out.mem).mono ?_; rintro e w2 ⟨rfl, c2, hr⟩; have HR2 := hid ((HR1.out.step hr.mem hr.but).on (below_one _ (.cells #[.bool qs, .int .i64 qp] 33))); have HC2 := hid ((HC1.out.rd HR1.out.mem hr (by decide) (by decide) (by decide)).on (below_one _ (.cells #[.bool qs, .int .i64 qp] 33))); have HF2 := hid (Cel.new w2 33 [.bool qs, .int .i64 qp]); have HG2 : Hid (W.heap.size ≤ w2.heap.size) := hid (Nat.le_trans HR1.out.but.size hr.but.size); clear hr)
    generalize hX2 : World.alloc _ _ = X2 at *
    clear hX2 HR1 HC1 HA1 HF1
    generalize w2.heap.size = g12 at *
    have a0 := HF2.out.cell 0
    have a1 := HF2.out.cell 1
    have b0 := HC2.out.cell 0
    have b1 := HC2.out.cell 1
    have b2 := HC2.out.cell 2
    have b3 := HC2.out.cell 3
    simp only [List.getElem?_cons_zero, List.getElem?_cons_succ] at a0 a1 b0 b1 b2 b3
    go_upto_region 7 with fail
    clear a0 a1 b0 b1 b2 b3
    go_upto_region 8 with (go_at_call 32; refine (HA2.out _ _ HR2.out.mem).mono ?_; rintro e w3 ⟨rfl, c3, hr⟩; have HR3 := hid (HR2.out.step hr.mem hr.but); have HC3 := hid (HC2.out.rd HR2.out.mem hr (by decide) (by decide) (by decide)); have HF3 := hid (HF2.out.rd HR2.out.mem hr (by decide) (by decide) (by decide)); clear hr; have a0 := HF3.out.cell 0; have a1 := HF3.out.cell 1; simp only [List.getElem?_cons_zero, List.getElem?_cons_succ] at a0 a1; have f0 := HF3.out.free 0; have f1 := HF3.out.free 1)
    have HF4 := hid ((HF3.out.setCell 0 (.bool qs)).setCell 1 (.int .i64 qp))
    have HB4 := hid ((ButL.setCell (G := [g12]) w3 g12 0 (.bool qs) (by simp)).trans (.setCell _ g12 1 (.int .i64 qp) (by simp)))
    generalize hX3 : World.setCell _ _ _ = X3 at *
    clear hX3 a0 a1 f0 f1
    have HR4 := hid (HR3.out.set HB4.out HG2.out)
    have HC4 := hid (HC3.out.but HB4.out (by rw [List.mem_singleton]; intro h; subst h; exact absurd (HC3.out.ty HF3.out) (by decide)))
    clear HR3 HC3 HB4 HF3 HA2 HC2 HF2 HR2
    have a0 := HF4.out.cell 0
    have a1 := HF4.out.cell 1
    have b0 := HC4.out.cell 0
    have b1 := HC4.out.cell 1
    have b2 := HC4.out.cell 2
    have b3 := HC4.out.cell 3
    simp only [List.set_cons_zero, List.set_cons_succ, List.getElem?_cons_zero, List.getElem?_cons_succ] at a0 a1 b0 b1 b2 b3
    go_wp2_with fail
    go_ret
    exact ⟨rfl, c3, HR4.out⟩
end Go.Proofs.Ytmmphmdmocfnpaa
