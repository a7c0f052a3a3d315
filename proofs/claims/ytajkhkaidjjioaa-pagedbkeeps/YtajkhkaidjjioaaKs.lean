/- PagedbKeeps: lists of numbers that are the same; within. -/
import Derived.Test.YtajkhkaidjjioaaPc
namespace Go.Proofs.Ytajkhkaidjjioaa
open Go.RowKit
set_option maxHeartbeats 4000000
set_option maxRecDepth 100000
/-- A list of numbers that lies somewhere. -/
structure NL (W : World) (ao : Option Addr) (A : List Nat) : Prop where
  at_ : 0 < A.length → ∃ g, ao = some ⟨g, 0, none⟩ ∧ g < W.heap.size ∧ ∀ j, j < A.length → W.cell? ⟨g, j, none⟩ = some (.int .i64 ((A.getD j 0 : Nat) : Int))
theorem NL.on {W w : World} {ao : Option Addr} {A : List Nat} (h : NL W ao A) (hb : Below W.heap.size W w) : NL w ao A := ⟨fun h0 => by
  obtain ⟨g, e, hg, hc⟩ := h.at_ h0
  refine ⟨g, e, Nat.lt_of_lt_of_le hg hb.size, fun j hj => ?_⟩
  rw [← hc j hj]
  unfold World.cell?
  rw [hb.block g hg]⟩
theorem own_nl {W w : World} {v : Value} {A : List Nat} (h : w.ownsRow W.heap.size 3 1 v A.length (ints A)) : ∃ ao c, v = .slice ao A.length c ∧ NL w ao A := by
  rcases h.2 with ⟨hv, h0⟩ | ⟨g, cap, cur, hv, hB, hg, r⟩
  · exact ⟨none, 0, by rw [hv, h0], ⟨fun hp => by omega⟩⟩
  · refine ⟨some ⟨g, 0, none⟩, cap, hv, ⟨fun _ => ⟨g, rfl, (Array.getElem?_eq_some_iff.1 hg).1, fun j hj => ?_⟩⟩⟩
    have hj' : (ints A)[j]? = some (.int .i64 ((A.getD j 0 : Nat) : Int)) := by
      rw [ints, List.getElem?_map, List.getElem?_eq_getElem hj, List.getD_eq_getElem?_getD, List.getElem?_eq_getElem hj]
      rfl
    have := h.cells (g := g) (by rw [hv]; rfl) j _ hj'
    rwa [Addr.add_mid, Nat.zero_add] at this
theorem sameNums_any (W : World) (ao bo : Option Addr) (c c' : Nat) (A : List Nat) (hA : NL W ao A) (hB : NL W bo A) (hn : A.length ≤ 1000000) :
    Calls Try.prog 22 #[.slice ao A.length c, .slice bo A.length c'] W fun e W' => e = .returned (.bool true) ∧ Below W.heap.size W W' := by
  have HA := hid hA
  have HB := hid hB
  have HN : Hid (A.length ≤ 1000000) := hid hn
  clear hA hB hn
  generalize hn : A.length = n at *
  have HNL := hid hn
  clear hn
  go_enter Try.func22, Try.ntmps22
  go_wp2_with fail
  go_loopw [5] (fun i wr => ∃ j : Nat, j ≤ n ∧ i = .int .i64 (j : Int) ∧ Hid (Below W.heap.size W wr)) (fun i _ => n - (intOf i).toNat)
  case atStart => exact ⟨0, Nat.zero_le _, rfl, hid (Below.refl _ _)⟩
  case round =>
    obtain ⟨j, hj, rfl, HQ⟩ := hrel
    by_cases hlt : j < n
    · have q1 : (j : Int) < (n : Int) := by omega
      have q2 : (j : Int) ≤ 1000000 := by have := HN.out; omega
      have q0 : (0 : Int) ≤ (j : Int) := by omega
      have qn : j < n := hlt
      have HJ : Hid (j < n) := hid hlt
      obtain ⟨ga, rfl, _, ha⟩ := (HA.out.on (below_on HQ.out (Below.refl _ _).drew)).at_ (by rw [HNL.out]; omega)
      obtain ⟨gb, rfl, _, hb⟩ := (HB.out.on (below_on HQ.out (Below.refl _ _).drew)).at_ (by rw [HNL.out]; omega)
      have HWA := hid (ha j (by rw [HNL.out]; exact hlt))
      have HWB := hid (hb j (by rw [HNL.out]; exact hlt))
      have HBB := hid (below_on HQ.out (Below.refl _ _).drew)
      clear hlt hj ha hb
      generalize ((A.getD j 0 : Nat) : Int) = va at *
      go_upto_region 6 with fail
      refine wp_region_held_drew (S := fun w => w.cell? ⟨ga, j, none⟩ = some (.int .i64 va) ∧ w.cell? ⟨gb, j, none⟩ = some (.int .i64 va)) (by kernel_rfl) ⟨HWA.out, HWB.out⟩ (fun hHeld => ?_)
      refine wpAnyH_take (i := 0) (oi := { dst := some 17, op := Op.move (Operand.tmp 0), type := 45, pos := "law.go:82", after := #[], guard := none }) (v := .slice (some ⟨ga, 0, none⟩) n c) rfl (by kernel_rfl) (by kernel_rfl) (by kernel_rfl) (fun _ _ _ h => h) (Or.inl ⟨by rfl, by intro w hSw; go_simp⟩) (by assumption) ?_
      simp only [Act.put, List.setIfInBounds_toArray, List.set_cons_zero, List.set_cons_succ]
      refine wpAnyH_take (i := 1) (oi := { dst := some 18, op := Op.move (Operand.tmp 5), type := 3, pos := "law.go:82", after := #[], guard := none }) (v := .int .i64 (j : Int)) rfl (by kernel_rfl) (by kernel_rfl) (by kernel_rfl) (fun _ _ _ h => h) (Or.inl ⟨by rfl, by intro w hSw; go_simp⟩) (by assumption) ?_
      simp only [Act.put, List.setIfInBounds_toArray, List.set_cons_zero, List.set_cons_succ]
      refine wpAnyH_take (i := 2) (oi := { dst := some 19, op := Op.indexAddr 45 (Operand.tmp 17) (Operand.tmp 18), type := 0, pos := "law.go:82", after := #[{ on := 0, ground := Ground.data }, { on := 1, ground := Ground.data }], guard := none }) (v := .pointer (some ⟨ga, j, none⟩)) rfl (by kernel_rfl) (by kernel_rfl) (by kernel_rfl) (fun _ _ _ h => h) (Or.inl ⟨by rfl, by intro w hSw; go_simp⟩) (by assumption) ?_
      simp only [Act.put, List.setIfInBounds_toArray, List.set_cons_zero, List.set_cons_succ]
      refine wpAnyH_take (i := 3) (oi := { dst := some 20, op := Op.load 3 (Operand.tmp 19), type := 3, pos := "law.go:82", after := #[{ on := 2, ground := Ground.data }], guard := none }) (v := .int .i64 va) rfl (by kernel_rfl) (by kernel_rfl) (by kernel_rfl) (fun _ _ _ h => h) (Or.inl ⟨by rfl, by intro w hSw; have hc := hSw.1; go_simp⟩) (by assumption) ?_
      simp only [Act.put, List.setIfInBounds_toArray, List.set_cons_zero, List.set_cons_succ]
      refine wpAnyH_take (i := 4) (oi := { dst := some 21, op := Op.move (Operand.tmp 1), type := 45, pos := "law.go:82", after := #[], guard := none }) (v := Value.slice (some ⟨gb, 0, none⟩) n c') rfl (by kernel_rfl) (by kernel_rfl) (by kernel_rfl) (fun _ _ _ h => h) (Or.inl ⟨by rfl, by intro w hSw; go_simp⟩) (by assumption) ?_
      simp only [Act.put, List.setIfInBounds_toArray, List.set_cons_zero, List.set_cons_succ]
      refine wpAnyH_take (i := 5) (oi := { dst := some 22, op := Op.move (Operand.tmp 5), type := 3, pos := "law.go:82", after := #[], guard := none }) (v := .int .i64 (j : Int)) rfl (by kernel_rfl) (by kernel_rfl) (by kernel_rfl) (fun _ _ _ h => h) (Or.inl ⟨by rfl, by intro w hSw; go_simp⟩) (by assumption) ?_
      simp only [Act.put, List.setIfInBounds_toArray, List.set_cons_zero, List.set_cons_succ]
      refine wpAnyH_take (i := 6) (oi := { dst := some 23, op := Op.indexAddr 45 (Operand.tmp 21) (Operand.tmp 22), type := 0, pos := "law.go:82", after := #[{ on := 4, ground := Ground.data }, { on := 5, ground := Ground.data }], guard := none }) (v := .pointer (some ⟨gb, j, none⟩)) rfl (by kernel_rfl) (by kernel_rfl) (by kernel_rfl) (fun _ _ _ h => h) (Or.inl ⟨by rfl, by intro w hSw; go_simp⟩) (by assumption) ?_
      simp only [Act.put, List.setIfInBounds_toArray, List.set_cons_zero, List.set_cons_succ]
      refine wpAnyH_take (i := 7) (oi := { dst := some 24, op := Op.load 3 (Operand.tmp 23), type := 3, pos := "law.go:82", after := #[{ on := 6, ground := Ground.data }], guard := none }) (v := .int .i64 va) rfl (by kernel_rfl) (by kernel_rfl) (by kernel_rfl) (fun _ _ _ h => h) (Or.inl ⟨by rfl, by intro w hSw; have hc := hSw.2; go_simp⟩) (by assumption) ?_
      simp only [Act.put, List.setIfInBounds_toArray, List.set_cons_zero, List.set_cons_succ]
      refine wpAnyH_take (i := 8) (oi := { dst := some 25, op := Op.binOp BinOp.neq 3 (Operand.tmp 20) (Operand.tmp 24) 3, type := 4, pos := "law.go:82", after := #[{ on := 3, ground := Ground.data }, { on := 7, ground := Ground.data }], guard := none }) (v := .bool false) rfl (by kernel_rfl) (by kernel_rfl) (by kernel_rfl) (fun _ _ _ h => h) (Or.inl ⟨by rfl, by intro w hSw; go_simp⟩) (by assumption) ?_
      simp only [Act.put, List.setIfInBounds_toArray, List.set_cons_zero, List.set_cons_succ]
      refine wpAnyH_done (by kernel_rfl) ?_ _
      go_wp2_with fail
      go_roundw
      case measure => have := HJ.out; simp [intOf] <;> omega
      case rel => exact ⟨j + 1, HJ.out, by simp, HBB⟩
    · have hjn : j = n := by omega
      subst hjn
      go_wp2_with fail
      go_ret
      exact ⟨rfl, HQ.out⟩
def wi (x lo n : Int) : Int := lo + x % n
theorem wi_range (x lo n : Int) (h : 0 < n) : lo ≤ wi x lo n ∧ wi x lo n < lo + n := by
  unfold wi
  have := Int.emod_nonneg x (show n ≠ 0 by omega)
  have := Int.emod_lt_of_pos x h
  omega
theorem within_any (W : World) (x lo hi : Int) (h0 : 0 ≤ lo) (h1 : lo ≤ hi) (h2 : hi ≤ 1048576) (x0 : -9223372036854775808 ≤ x) (x1 : x ≤ 9223372036854775807) :
    Calls Try.prog 21 #[.int .i64 x, .int .i64 lo, .int .i64 hi] W fun e W' => e = .returned (.int .i64 (wi x lo (hi - lo + 1))) ∧ W' = W := by
  obtain ⟨n, hn⟩ : ∃ n, n = hi - lo + 1 := ⟨_, rfl⟩
  have hn0 : 0 < n := by omega
  have ht : x.tmod n = x % n ∧ 0 ≤ x.tmod n ∨ x.tmod n + n = x % n ∧ x.tmod n < 0 := by
    by_cases hx : 0 ≤ x
    · exact .inl ⟨Int.tmod_eq_emod_of_nonneg hx, by rw [Int.tmod_eq_emod_of_nonneg hx]; exact Int.emod_nonneg _ (by omega)⟩
    · have e1 : (-x).tmod n = (-x) % n := Int.tmod_eq_emod_of_nonneg (by omega)
      rw [Int.neg_tmod] at e1
      by_cases hd : (-x) % n = 0
      · left
        have h4 : x % n = 0 := by
          have : n ∣ -x := Int.dvd_of_emod_eq_zero hd
          exact Int.emod_eq_zero_of_dvd (by have := Int.dvd_neg.1 this; exact this)
        omega
      · right
        have h5 := Int.emod_nonneg (-x) (show n ≠ 0 by omega)
        have h6 := Int.emod_lt_of_pos (-x) hn0
        have h7 : x % n = n - (-x) % n := by
          have e : x = (n - (-x) % n) + n * (-((-x) / n) - 1) := by
            have := Int.mul_ediv_add_emod (-x) n
            have e3 : n * (-((-x) / n) - 1) = - (n * ((-x) / n)) - n := by rw [Int.mul_sub, Int.mul_one, Int.mul_neg]
            rw [e3]
            omega
          rw [e, Int.add_mul_emod_self_left, ← e]
          exact Int.emod_eq_of_lt (by omega) (by omega)
        omega
  have hr := Int.emod_lt_of_pos x hn0
  have hr0 := Int.emod_nonneg x (show n ≠ 0 by omega)
  unfold wi
  rw [← hn]
  rcases ht with ⟨h3, h4⟩ | ⟨h3, h4⟩
  · rw [← h3] at hr hr0 ⊢
    generalize ht : x.tmod n = t at *
    subst hn
    go_enter Try.func21, Try.ntmps21
    go_wp2_with fail
    go_returns
    exact ⟨ret_int (by omega), rfl⟩
  · subst hn
    generalize ht : x.tmod (hi - lo + 1) = t at *
    go_enter Try.func21, Try.ntmps21
    go_wp2_with fail
    go_returns
    exact ⟨ret_int (by omega), rfl⟩
theorem within_nat (x lo hi : Int) (h0 : 0 ≤ lo) (h1 : lo ≤ hi) (h2 : hi ≤ 1048576) (x0 : -9223372036854775808 ≤ x) (x1 : x ≤ 9223372036854775807) : ∃ s : Nat, lo ≤ (s : Int) ∧ (s : Int) ≤ hi ∧ ∀ w, Calls Try.prog 21 #[.int .i64 x, .int .i64 lo, .int .i64 hi] w fun e W' => e = .returned (.int .i64 (s : Int)) ∧ w = W' := by
  have hr := wi_range x lo (hi - lo + 1) (by omega)
  refine ⟨(wi x lo (hi - lo + 1)).toNat, by omega, by omega, fun w => ?_⟩
  rw [show (((wi x lo (hi - lo + 1)).toNat : Nat) : Int) = wi x lo (hi - lo + 1) by omega]
  exact (within_any w x lo hi h0 h1 h2 x0 x1).mono fun e W' h => ⟨h.1, h.2.symm⟩
end Go.Proofs.Ytajkhkaidjjioaa
