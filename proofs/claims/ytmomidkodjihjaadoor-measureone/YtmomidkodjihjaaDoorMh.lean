/- within, same. -/
import Derived.Test.YtmomidkodjihjaaDoorMg
namespace Go.Proofs.YtmomidkodjihjaaDoor
open Go.RowKit
open H
set_option maxHeartbeats 4000000
set_option maxRecDepth 100000
/-- The rest, from 0 on. -/
def wit (x d : Int) : Int := if x.tmod d < 0 then x.tmod d + d else x.tmod d
theorem wit_lo (x d : Int) (h : 0 < d) : 0 ≤ wit x d := by
  have b2 : -d < x.tmod d := by
    have := Int.tmod_lt_of_pos (-x) h
    rw [Int.neg_tmod] at this
    omega
  unfold wit; split <;> omega
theorem wit_hi (x d : Int) (h : 0 < d) : wit x d < d := by
  have b1 : x.tmod d < d := Int.tmod_lt_of_pos x h
  unfold wit; split <;> omega
theorem within_any (W : World) (x lo hi d : Int) (l0 : 0 ≤ lo) (lh : lo ≤ hi) (h1 : hi ≤ 140737488355328) (hd : hi - lo + 1 = d) :
    Calls Tryd.prog 14 #[.int .i64 x, .int .i64 lo, .int .i64 hi] W fun e W' => e = .returned (.int .i64 (lo + wit x d)) ∧ W = W' := by
  have b1 : x.tmod d < d := Int.tmod_lt_of_pos x (by omega)
  have b2 : -d < x.tmod d := by
    have := Int.tmod_lt_of_pos (-x) (show (0 : Int) < d by omega)
    rw [Int.neg_tmod] at this
    omega
  obtain ⟨t, ht⟩ : ∃ t, x.tmod d = t := ⟨_, rfl⟩
  unfold wit
  rw [ht]
  rw [ht] at b1 b2
  have e1 : IntKind.i64.wrap (hi - lo) = hi - lo := by rw [IntKind.wrap_i64]; omega
  have e2 : IntKind.i64.wrap (hi - lo + 1) = d := by rw [IntKind.wrap_i64]; omega
  have z0 : ¬ d = 0 := by omega
  have e3 : IntKind.i64.wrap t = t := by rw [IntKind.wrap_i64]; omega
  by_cases hneg : t < 0
  · rw [if_pos hneg]
    have e4 : IntKind.i64.wrap (t + hi) = t + hi := by rw [IntKind.wrap_i64]; omega
    have e5 : IntKind.i64.wrap (t + hi - lo) = t + hi - lo := by rw [IntKind.wrap_i64]; omega
    have e6 : IntKind.i64.wrap (t + hi - lo + 1) = t + d := by rw [IntKind.wrap_i64]; omega
    have e7 : IntKind.i64.wrap (lo + (t + d)) = lo + (t + d) := by rw [IntKind.wrap_i64]; omega
    clear b1 b2 hd
    go_enter Tryd.func14, Tryd.ntmps14
    go_wp2
    go_ret
    exact ⟨rfl, rfl⟩
  · rw [if_neg hneg]
    have e7 : IntKind.i64.wrap (lo + t) = lo + t := by rw [IntKind.wrap_i64]; omega
    clear b1 b2 hd
    go_enter Tryd.func14, Tryd.ntmps14
    go_wp2
    go_ret
    exact ⟨rfl, rfl⟩
theorem same_any (W : World) (ao bo : Option Addr) (n m c d : Nat) (xs ys : List Int) (hx : xs.length = n) (hy : ys.length = m) (ha : At W .u32 ao xs) (hb : At W .u32 bo ys) (hn : n ≤ 4611686018427387904) :
    Calls Tryd.prog 11 #[.slice ao n c, .slice bo m d] W fun e W' => e = .returned (.bool (decide (xs = ys))) ∧ Below W.heap.size W W' := by
  by_cases hnm : n = m
  · subst hnm
    have HF : Hid ((∀ k, k < n → xs.getD k 0 = ys.getD k 0) → xs = ys) := hid (fun h => List.ext_getElem (hx.trans hy.symm) (fun i h1 h2 => by
      have := h i (by omega)
      simpa [List.getD_eq_getElem?_getD, h1, h2] using this))
    have HX := hid hx
    have HY := hid hy
    have HA := hid ha
    have HB := hid hb
    have q0 : (n : Int) ≤ 4611686018427387904 := by omega
    obtain ⟨r, hr⟩ : ∃ r, r = decide (xs = ys) := ⟨_, rfl⟩
    have HR := hid hr
    rw [← hr]
    clear hx hy ha hb hn hr
    go_enter Tryd.func11, Tryd.ntmps11
    go_wp2_with fail
    go_loopw [5] (fun i wr => ∃ k : Nat, k ≤ n ∧ i = .int .i64 (k : Int) ∧ Hid (Below W.heap.size W wr ∧ ∀ j, j < k → xs.getD j 0 = ys.getD j 0)) (fun i _ => n - (intOf i).toNat)
    case atStart => exact ⟨0, Nat.zero_le _, rfl, hid ⟨Below.refl _ _, by intro j hj; omega⟩⟩
    case round =>
      obtain ⟨k, hk, rfl, HQ⟩ := hrel
      by_cases hlt : k < n
      · obtain ⟨b1, o1, rfl, g1, r1⟩ : ∃ b off, ao = some ⟨b, off, none⟩ ∧ b < W.heap.size ∧ Row W .u32 b off xs := HA.out.resolve_left (by intro e; have := HX.out; rw [e] at this; simp at this; omega)
        obtain ⟨b2, o2, rfl, g2, r2⟩ : ∃ b off, bo = some ⟨b, off, none⟩ ∧ b < W.heap.size ∧ Row W .u32 b off ys := HB.out.resolve_left (by intro e; have := HY.out; rw [e] at this; simp at this; omega)
        have HC : Hid (∀ w, Below W.heap.size W w → w.cell? ⟨b1, o1 + k, none⟩ = some (.int .u32 (xs.getD k 0)) ∧ w.cell? ⟨b2, o2 + k, none⟩ = some (.int .u32 (ys.getD k 0))) := hid (fun w hw => ⟨(r1.below hw g1) k (by rw [HX.out]; exact hlt), (r2.below hw g2) k (by rw [HY.out]; exact hlt)⟩)
        have q1 : (k : Int) < (n : Int) := by omega
        have q2 : (0 : Int) ≤ (k : Int) := by omega
        have HK := hid hlt
        obtain ⟨x, hx⟩ : ∃ x, xs.getD k 0 = x := ⟨_, rfl⟩
        obtain ⟨y, hy⟩ : ∃ y, ys.getD k 0 = y := ⟨_, rfl⟩
        rw [hx, hy] at HC
        have HE : Hid (xs.getD k 0 = x ∧ ys.getD k 0 = y) := hid ⟨hx, hy⟩
        clear hx hy g1 r1 g2 r2 hlt hk
        go_upto_region 6 with fail
        have X0 := hid HQ.out.1.drew
        by_cases he : x = y
        · subst he
          refine wp_region_held_drew (S := fun w => Below W.heap.size W w) (by kernel_rfl) X0.out (fun hHeld => ?_)
          generalize World.drew _ = w0 at *
          refine wpAnyH_take (i := 0) (oi := { dst := some 17, op := Op.move (Operand.tmp 0), type := 22, pos := "law.go:83", after := #[], guard := none }) (v := .slice (some ⟨b1, o1, none⟩) n c) rfl (by kernel_rfl) (by kernel_rfl) (by kernel_rfl) (fun _ _ _ h => h) (Or.inl ⟨by rfl, by intro w hSw; go_simp⟩) (by assumption) ?_
          simp only [Act.put, List.setIfInBounds_toArray, List.set_cons_zero, List.set_cons_succ]
          refine wpAnyH_take (i := 1) (oi := { dst := some 18, op := Op.move (Operand.tmp 5), type := 3, pos := "law.go:83", after := #[], guard := none }) (v := .int .i64 (k : Int)) rfl (by kernel_rfl) (by kernel_rfl) (by kernel_rfl) (fun _ _ _ h => h) (Or.inl ⟨by rfl, by intro w hSw; go_simp⟩) (by assumption) ?_
          simp only [Act.put, List.setIfInBounds_toArray, List.set_cons_zero, List.set_cons_succ]
          refine wpAnyH_take (i := 2) (oi := { dst := some 19, op := Op.indexAddr 22 (Operand.tmp 17) (Operand.tmp 18), type := 0, pos := "law.go:83", after := #[{ on := 0, ground := Ground.data }, { on := 1, ground := Ground.data }], guard := none }) (v := .pointer (some ⟨b1, o1 + k, none⟩)) rfl (by kernel_rfl) (by kernel_rfl) (by kernel_rfl) (fun _ _ _ h => h) (Or.inl ⟨by rfl, by intro w hSw; go_simp⟩) (by assumption) ?_
          simp only [Act.put, List.setIfInBounds_toArray, List.set_cons_zero, List.set_cons_succ]
          refine wpAnyH_take (i := 3) (oi := { dst := some 20, op := Op.load 24 (Operand.tmp 19), type := 24, pos := "law.go:83", after := #[{ on := 2, ground := Ground.data }], guard := none }) (v := .int .u32 x) rfl (by kernel_rfl) (by kernel_rfl) (by kernel_rfl) (fun _ _ _ h => h) (Or.inl ⟨by rfl, by intro w hSw; have hc := (HC.out w hSw).1; go_simp⟩) (by assumption) ?_
          simp only [Act.put, List.setIfInBounds_toArray, List.set_cons_zero, List.set_cons_succ]
          refine wpAnyH_take (i := 4) (oi := { dst := some 21, op := Op.move (Operand.tmp 1), type := 22, pos := "law.go:83", after := #[], guard := none }) (v := .slice (some ⟨b2, o2, none⟩) n d) rfl (by kernel_rfl) (by kernel_rfl) (by kernel_rfl) (fun _ _ _ h => h) (Or.inl ⟨by rfl, by intro w hSw; go_simp⟩) (by assumption) ?_
          simp only [Act.put, List.setIfInBounds_toArray, List.set_cons_zero, List.set_cons_succ]
          refine wpAnyH_take (i := 5) (oi := { dst := some 22, op := Op.move (Operand.tmp 5), type := 3, pos := "law.go:83", after := #[], guard := none }) (v := .int .i64 (k : Int)) rfl (by kernel_rfl) (by kernel_rfl) (by kernel_rfl) (fun _ _ _ h => h) (Or.inl ⟨by rfl, by intro w hSw; go_simp⟩) (by assumption) ?_
          simp only [Act.put, List.setIfInBounds_toArray, List.set_cons_zero, List.set_cons_succ]
          refine wpAnyH_take (i := 6) (oi := { dst := some 23, op := Op.indexAddr 22 (Operand.tmp 21) (Operand.tmp 22), type := 0, pos := "law.go:83", after := #[{ on := 4, ground := Ground.data }, { on := 5, ground := Ground.data }], guard := none }) (v := .pointer (some ⟨b2, o2 + k, none⟩)) rfl (by kernel_rfl) (by kernel_rfl) (by kernel_rfl) (fun _ _ _ h => h) (Or.inl ⟨by rfl, by intro w hSw; go_simp⟩) (by assumption) ?_
          simp only [Act.put, List.setIfInBounds_toArray, List.set_cons_zero, List.set_cons_succ]
          refine wpAnyH_take (i := 7) (oi := { dst := some 24, op := Op.load 24 (Operand.tmp 23), type := 24, pos := "law.go:83", after := #[{ on := 6, ground := Ground.data }], guard := none }) (v := .int .u32 x) rfl (by kernel_rfl) (by kernel_rfl) (by kernel_rfl) (fun _ _ _ h => h) (Or.inl ⟨by rfl, by intro w hSw; have hc := (HC.out w hSw).2; go_simp⟩) (by assumption) ?_
          simp only [Act.put, List.setIfInBounds_toArray, List.set_cons_zero, List.set_cons_succ]
          refine wpAnyH_take (i := 8) (oi := { dst := some 25, op := Op.binOp BinOp.neq 24 (Operand.tmp 20) (Operand.tmp 24) 24, type := 4, pos := "law.go:83", after := #[{ on := 3, ground := Ground.data }, { on := 7, ground := Ground.data }], guard := none }) (v := .bool false) rfl (by kernel_rfl) (by kernel_rfl) (by kernel_rfl) (fun _ _ _ h => h) (Or.inl ⟨by rfl, by intro w hSw; go_simp⟩) (by assumption) ?_
          simp only [Act.put, List.setIfInBounds_toArray, List.set_cons_zero, List.set_cons_succ]
          refine wpAnyH_done (by kernel_rfl) ?_ _
          go_wp2_with fail
          go_roundw
          case measure => have := HK.out; simp [intOf] <;> omega
          case rel => exact ⟨k + 1, HK.out, by simp, hid ⟨X0.out, fun j hj => by
            by_cases e : j = k
            · rw [e, HE.out.1, HE.out.2]
            · exact HQ.out.2 j (by omega)⟩⟩
        · have hne : (x != y) = true := by simpa using he
          have HN : Hid (r = false) := hid (by rw [HR.out]; exact decide_eq_false (fun e => he (by rw [← HE.out.1, ← HE.out.2, e])))
          clear he
          refine wp_region_held_drew (S := fun w => Below W.heap.size W w) (by kernel_rfl) X0.out (fun hHeld => ?_)
          generalize World.drew _ = w0 at *
          refine wpAnyH_take (i := 0) (oi := { dst := some 17, op := Op.move (Operand.tmp 0), type := 22, pos := "law.go:83", after := #[], guard := none }) (v := .slice (some ⟨b1, o1, none⟩) n c) rfl (by kernel_rfl) (by kernel_rfl) (by kernel_rfl) (fun _ _ _ h => h) (Or.inl ⟨by rfl, by intro w hSw; go_simp⟩) (by assumption) ?_
          simp only [Act.put, List.setIfInBounds_toArray, List.set_cons_zero, List.set_cons_succ]
          refine wpAnyH_take (i := 1) (oi := { dst := some 18, op := Op.move (Operand.tmp 5), type := 3, pos := "law.go:83", after := #[], guard := none }) (v := .int .i64 (k : Int)) rfl (by kernel_rfl) (by kernel_rfl) (by kernel_rfl) (fun _ _ _ h => h) (Or.inl ⟨by rfl, by intro w hSw; go_simp⟩) (by assumption) ?_
          simp only [Act.put, List.setIfInBounds_toArray, List.set_cons_zero, List.set_cons_succ]
          refine wpAnyH_take (i := 2) (oi := { dst := some 19, op := Op.indexAddr 22 (Operand.tmp 17) (Operand.tmp 18), type := 0, pos := "law.go:83", after := #[{ on := 0, ground := Ground.data }, { on := 1, ground := Ground.data }], guard := none }) (v := .pointer (some ⟨b1, o1 + k, none⟩)) rfl (by kernel_rfl) (by kernel_rfl) (by kernel_rfl) (fun _ _ _ h => h) (Or.inl ⟨by rfl, by intro w hSw; go_simp⟩) (by assumption) ?_
          simp only [Act.put, List.setIfInBounds_toArray, List.set_cons_zero, List.set_cons_succ]
          refine wpAnyH_take (i := 3) (oi := { dst := some 20, op := Op.load 24 (Operand.tmp 19), type := 24, pos := "law.go:83", after := #[{ on := 2, ground := Ground.data }], guard := none }) (v := .int .u32 x) rfl (by kernel_rfl) (by kernel_rfl) (by kernel_rfl) (fun _ _ _ h => h) (Or.inl ⟨by rfl, by intro w hSw; have hc := (HC.out w hSw).1; go_simp⟩) (by assumption) ?_
          simp only [Act.put, List.setIfInBounds_toArray, List.set_cons_zero, List.set_cons_succ]
          refine wpAnyH_take (i := 4) (oi := { dst := some 21, op := Op.move (Operand.tmp 1), type := 22, pos := "law.go:83", after := #[], guard := none }) (v := .slice (some ⟨b2, o2, none⟩) n d) rfl (by kernel_rfl) (by kernel_rfl) (by kernel_rfl) (fun _ _ _ h => h) (Or.inl ⟨by rfl, by intro w hSw; go_simp⟩) (by assumption) ?_
          simp only [Act.put, List.setIfInBounds_toArray, List.set_cons_zero, List.set_cons_succ]
          refine wpAnyH_take (i := 5) (oi := { dst := some 22, op := Op.move (Operand.tmp 5), type := 3, pos := "law.go:83", after := #[], guard := none }) (v := .int .i64 (k : Int)) rfl (by kernel_rfl) (by kernel_rfl) (by kernel_rfl) (fun _ _ _ h => h) (Or.inl ⟨by rfl, by intro w hSw; go_simp⟩) (by assumption) ?_
          simp only [Act.put, List.setIfInBounds_toArray, List.set_cons_zero, List.set_cons_succ]
          refine wpAnyH_take (i := 6) (oi := { dst := some 23, op := Op.indexAddr 22 (Operand.tmp 21) (Operand.tmp 22), type := 0, pos := "law.go:83", after := #[{ on := 4, ground := Ground.data }, { on := 5, ground := Ground.data }], guard := none }) (v := .pointer (some ⟨b2, o2 + k, none⟩)) rfl (by kernel_rfl) (by kernel_rfl) (by kernel_rfl) (fun _ _ _ h => h) (Or.inl ⟨by rfl, by intro w hSw; go_simp⟩) (by assumption) ?_
          simp only [Act.put, List.setIfInBounds_toArray, List.set_cons_zero, List.set_cons_succ]
          refine wpAnyH_take (i := 7) (oi := { dst := some 24, op := Op.load 24 (Operand.tmp 23), type := 24, pos := "law.go:83", after := #[{ on := 6, ground := Ground.data }], guard := none }) (v := .int .u32 y) rfl (by kernel_rfl) (by kernel_rfl) (by kernel_rfl) (fun _ _ _ h => h) (Or.inl ⟨by rfl, by intro w hSw; have hc := (HC.out w hSw).2; go_simp⟩) (by assumption) ?_
          simp only [Act.put, List.setIfInBounds_toArray, List.set_cons_zero, List.set_cons_succ]
          refine wpAnyH_take (i := 8) (oi := { dst := some 25, op := Op.binOp BinOp.neq 24 (Operand.tmp 20) (Operand.tmp 24) 24, type := 4, pos := "law.go:83", after := #[{ on := 3, ground := Ground.data }, { on := 7, ground := Ground.data }], guard := none }) (v := .bool true) rfl (by kernel_rfl) (by kernel_rfl) (by kernel_rfl) (fun _ _ _ h => h) (Or.inl ⟨by rfl, by intro w hSw; go_simp⟩) (by assumption) ?_
          simp only [Act.put, List.setIfInBounds_toArray, List.set_cons_zero, List.set_cons_succ]
          refine wpAnyH_done (by kernel_rfl) ?_ _
          go_wp2_with fail
          go_ret
          exact ⟨by rw [HN.out]; rfl, X0.out⟩
      · obtain rfl : k = n := by omega
        have HN : Hid (r = true) := hid (by rw [HR.out]; exact decide_eq_true (HF.out HQ.out.2))
        clear hlt hk
        go_wp2_with fail
        go_ret
        exact ⟨by rw [HN.out]; rfl, HQ.out.1⟩
  · have hne : ((n : Int) != (m : Int)) = true := by rw [bne_iff_ne]; omega
    have hF : decide (xs = ys) = false := decide_eq_false (fun e => hnm (by rw [← hx, ← hy, e]))
    rw [hF]
    clear hF hnm ha hb hx hy hn
    go_enter Tryd.func11, Tryd.ntmps11
    go_wp2_with fail
    go_ret
    exact ⟨rfl, Below.refl _ _⟩
end Go.Proofs.YtmomidkodjihjaaDoor
