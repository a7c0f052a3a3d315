/- The law's sameWords 15; an Op; call 8. -/
import Derived.Test.YtajkhkaidjjioaaIe
namespace Go.Proofs.Ytajkhkaidjjioaa
open Go.RowKit
set_option maxHeartbeats 2000000
set_option maxRecDepth 100000
theorem WL.on {W W' : World} {ao : Option Addr} {n : Nat} {L : List Int} (h : WL W ao n L) (hb : Below W.heap.size W W') : WL W' ao n L :=
  ⟨h.len, h.rg, fun hn => by
    obtain ⟨g, off, h1, h2, h3⟩ := h.at_ hn
    refine ⟨g, off, h1, fun j v hv => ?_, by have := hb.size; omega⟩
    have := h2 j v hv
    unfold World.cell? at this ⊢
    rw [hb.block g h3]
    exact this⟩
theorem WL.at {W : World} {g off : Nat} {n : Nat} {L : List Int} (h : WL W (some ⟨g, off, none⟩) n L) {j : Nat} (hj : j < n) : W.cell? ⟨g, off + j, none⟩ = some (.int .u32 (wd L j)) := by
  obtain ⟨g', off', h1, h2, h3⟩ := h.at_ (by omega)
  cases h1
  exact h2 j _ (by rw [u32s, List.getElem?_map, wd_at (by rw [h.len]; exact hj)]; rfl)
theorem wd_ext {A B : List Int} (hl : A.length = B.length) (h : ∀ j, j < A.length → wd A j = wd B j) : A = B := by
  apply List.ext_getElem?
  intro j
  by_cases hj : j < A.length
  · rw [wd_at hj, wd_at (by omega), h j hj]
  · rw [List.getElem?_eq_none (by omega), List.getElem?_eq_none (by omega)]
theorem sameWords_any (W : World) (ao bo : Option Addr) (n m c c' : Nat) (A B : List Int) (hA : WL W ao n A) (hB : WL W bo m B) (hn : n ≤ 1000000) :
    Calls Try.prog 15 #[.slice ao n c, .slice bo m c'] W fun e W' => e = .returned (.bool (decide (A = B))) ∧ Below W.heap.size W W' := by
  by_cases hnm : n = m
  · subst hnm
    have HA := hid hA
    have HB := hid hB
    have HN : Hid (n ≤ 1000000) := hid hn
    have HF : Hid ((∀ j, j < n → wd A j = wd B j) → decide (A = B) = true) := hid (fun h => decide_eq_true (wd_ext (hA.len.trans hB.len.symm) (fun j hj => h j (by rw [hA.len] at hj; exact hj))))
    have HG : Hid (∀ j, wd A j ≠ wd B j → decide (A = B) = false) := hid (fun j h => decide_eq_false (fun e => h (by rw [e])))
    clear hA hB hn
    generalize decide (A = B) = R at *
    go_enter Try.func15, Try.ntmps15
    go_wp2_with fail
    go_loopw [5] (fun i wr => ∃ j : Nat, j ≤ n ∧ i = .int .i64 (j : Int) ∧ Hid (Below W.heap.size W wr ∧ ∀ k, k < j → wd A k = wd B k)) (fun i _ => n - (intOf i).toNat)
    case atStart => exact ⟨0, Nat.zero_le _, rfl, hid ⟨Below.refl _ _, by intro k hk; omega⟩⟩
    case round =>
      obtain ⟨j, hj, rfl, HQ⟩ := hrel
      by_cases hlt : j < n
      · have q1 : (j : Int) < (n : Int) := by omega
        have q2 : (j : Int) ≤ 1000000 := by have := HN.out; omega
        have q0 : (0 : Int) ≤ (j : Int) := by omega
        have qn : j < n := hlt
        have HJ : Hid (j < n) := hid hlt
        obtain ⟨ga, oa, rfl, _, _⟩ := HA.out.at_ (by omega)
        obtain ⟨gb, ob, rfl, _, _⟩ := HB.out.at_ (by omega)
        have HWA := hid (((HA.out.on HQ.out.1).on (Below.refl _ _).drew).at hlt)
        have HWB := hid (((HB.out.on HQ.out.1).on (Below.refl _ _).drew).at hlt)
        have HBB := hid (below_on HQ.out.1 (Below.refl _ _).drew)
        clear hlt hj
        generalize hva : wd A j = va at *
        generalize hvb : wd B j = vb at *
        have HV := hid (And.intro hva hvb)
        clear hva hvb
        by_cases hv : va = vb
        · subst hv
          go_upto_region 6 with fail
          refine wp_region_held_drew (S := fun w => w.cell? ⟨ga, oa + j, none⟩ = some (.int .u32 va) ∧ w.cell? ⟨gb, ob + j, none⟩ = some (.int .u32 va)) (by kernel_rfl) ⟨HWA.out, HWB.out⟩ (fun hHeld => ?_)
          refine wpAnyH_take (i := 0) (oi := { dst := some 17, op := Op.move (Operand.tmp 0), type := 32, pos := "law.go:69", after := #[], guard := none }) (v := .slice (some ⟨ga, oa, none⟩) n c) rfl (by kernel_rfl) (by kernel_rfl) (by kernel_rfl) (fun _ _ _ h => h) (Or.inl ⟨by rfl, by intro w hSw; go_simp⟩) (by assumption) ?_
          simp only [Act.put, List.setIfInBounds_toArray, List.set_cons_zero, List.set_cons_succ]
          refine wpAnyH_take (i := 1) (oi := { dst := some 18, op := Op.move (Operand.tmp 5), type := 3, pos := "law.go:69", after := #[], guard := none }) (v := .int .i64 (j : Int)) rfl (by kernel_rfl) (by kernel_rfl) (by kernel_rfl) (fun _ _ _ h => h) (Or.inl ⟨by rfl, by intro w hSw; go_simp⟩) (by assumption) ?_
          simp only [Act.put, List.setIfInBounds_toArray, List.set_cons_zero, List.set_cons_succ]
          refine wpAnyH_take (i := 2) (oi := { dst := some 19, op := Op.indexAddr 32 (Operand.tmp 17) (Operand.tmp 18), type := 0, pos := "law.go:69", after := #[{ on := 0, ground := Ground.data }, { on := 1, ground := Ground.data }], guard := none }) (v := .pointer (some ⟨ga, oa + j, none⟩)) rfl (by kernel_rfl) (by kernel_rfl) (by kernel_rfl) (fun _ _ _ h => h) (Or.inl ⟨by rfl, by intro w hSw; go_simp⟩) (by assumption) ?_
          simp only [Act.put, List.setIfInBounds_toArray, List.set_cons_zero, List.set_cons_succ]
          refine wpAnyH_take (i := 3) (oi := { dst := some 20, op := Op.load 27 (Operand.tmp 19), type := 27, pos := "law.go:69", after := #[{ on := 2, ground := Ground.data }], guard := none }) (v := .int .u32 va) rfl (by kernel_rfl) (by kernel_rfl) (by kernel_rfl) (fun _ _ _ h => h) (Or.inl ⟨by rfl, by intro w hSw; have hc := hSw.1; go_simp⟩) (by assumption) ?_
          simp only [Act.put, List.setIfInBounds_toArray, List.set_cons_zero, List.set_cons_succ]
          refine wpAnyH_take (i := 4) (oi := { dst := some 21, op := Op.move (Operand.tmp 1), type := 32, pos := "law.go:69", after := #[], guard := none }) (v := Value.slice (some ⟨gb, ob, none⟩) n c') rfl (by kernel_rfl) (by kernel_rfl) (by kernel_rfl) (fun _ _ _ h => h) (Or.inl ⟨by rfl, by intro w hSw; go_simp⟩) (by assumption) ?_
          simp only [Act.put, List.setIfInBounds_toArray, List.set_cons_zero, List.set_cons_succ]
          refine wpAnyH_take (i := 5) (oi := { dst := some 22, op := Op.move (Operand.tmp 5), type := 3, pos := "law.go:69", after := #[], guard := none }) (v := .int .i64 (j : Int)) rfl (by kernel_rfl) (by kernel_rfl) (by kernel_rfl) (fun _ _ _ h => h) (Or.inl ⟨by rfl, by intro w hSw; go_simp⟩) (by assumption) ?_
          simp only [Act.put, List.setIfInBounds_toArray, List.set_cons_zero, List.set_cons_succ]
          refine wpAnyH_take (i := 6) (oi := { dst := some 23, op := Op.indexAddr 32 (Operand.tmp 21) (Operand.tmp 22), type := 0, pos := "law.go:69", after := #[{ on := 4, ground := Ground.data }, { on := 5, ground := Ground.data }], guard := none }) (v := .pointer (some ⟨gb, ob + j, none⟩)) rfl (by kernel_rfl) (by kernel_rfl) (by kernel_rfl) (fun _ _ _ h => h) (Or.inl ⟨by rfl, by intro w hSw; go_simp⟩) (by assumption) ?_
          simp only [Act.put, List.setIfInBounds_toArray, List.set_cons_zero, List.set_cons_succ]
          refine wpAnyH_take (i := 7) (oi := { dst := some 24, op := Op.load 27 (Operand.tmp 23), type := 27, pos := "law.go:69", after := #[{ on := 6, ground := Ground.data }], guard := none }) (v := .int .u32 va) rfl (by kernel_rfl) (by kernel_rfl) (by kernel_rfl) (fun _ _ _ h => h) (Or.inl ⟨by rfl, by intro w hSw; have hc := hSw.2; go_simp⟩) (by assumption) ?_
          simp only [Act.put, List.setIfInBounds_toArray, List.set_cons_zero, List.set_cons_succ]
          refine wpAnyH_take (i := 8) (oi := { dst := some 25, op := Op.binOp BinOp.neq 27 (Operand.tmp 20) (Operand.tmp 24) 27, type := 4, pos := "law.go:69", after := #[{ on := 3, ground := Ground.data }, { on := 7, ground := Ground.data }], guard := none }) (v := .bool false) rfl (by kernel_rfl) (by kernel_rfl) (by kernel_rfl) (fun _ _ _ h => h) (Or.inl ⟨by rfl, by intro w hSw; go_simp⟩) (by assumption) ?_
          simp only [Act.put, List.setIfInBounds_toArray, List.set_cons_zero, List.set_cons_succ]
          refine wpAnyH_done (by kernel_rfl) ?_ _
          go_wp2_with fail
          go_roundw
          case measure => have := HJ.out; simp [intOf] <;> omega
          case rel => exact ⟨j + 1, HJ.out, by simp, hid ⟨HBB.out, fun k hk => by
            by_cases e : k = j
            · rw [e, HV.out.1, HV.out.2]
            · exact HQ.out.2 k (by omega)⟩⟩
        · have hv' : (va != vb) = true := by simpa using hv
          have HR : Hid (R = false) := hid (HG.out j (by rw [HV.out.1, HV.out.2]; exact hv))
          clear hv
          go_upto_region 6 with fail
          refine wp_region_held_drew (S := fun w => w.cell? ⟨ga, oa + j, none⟩ = some (.int .u32 va) ∧ w.cell? ⟨gb, ob + j, none⟩ = some (.int .u32 vb)) (by kernel_rfl) ⟨HWA.out, HWB.out⟩ (fun hHeld => ?_)
          refine wpAnyH_take (i := 0) (oi := { dst := some 17, op := Op.move (Operand.tmp 0), type := 32, pos := "law.go:69", after := #[], guard := none }) (v := .slice (some ⟨ga, oa, none⟩) n c) rfl (by kernel_rfl) (by kernel_rfl) (by kernel_rfl) (fun _ _ _ h => h) (Or.inl ⟨by rfl, by intro w hSw; go_simp⟩) (by assumption) ?_
          simp only [Act.put, List.setIfInBounds_toArray, List.set_cons_zero, List.set_cons_succ]
          refine wpAnyH_take (i := 1) (oi := { dst := some 18, op := Op.move (Operand.tmp 5), type := 3, pos := "law.go:69", after := #[], guard := none }) (v := .int .i64 (j : Int)) rfl (by kernel_rfl) (by kernel_rfl) (by kernel_rfl) (fun _ _ _ h => h) (Or.inl ⟨by rfl, by intro w hSw; go_simp⟩) (by assumption) ?_
          simp only [Act.put, List.setIfInBounds_toArray, List.set_cons_zero, List.set_cons_succ]
          refine wpAnyH_take (i := 2) (oi := { dst := some 19, op := Op.indexAddr 32 (Operand.tmp 17) (Operand.tmp 18), type := 0, pos := "law.go:69", after := #[{ on := 0, ground := Ground.data }, { on := 1, ground := Ground.data }], guard := none }) (v := .pointer (some ⟨ga, oa + j, none⟩)) rfl (by kernel_rfl) (by kernel_rfl) (by kernel_rfl) (fun _ _ _ h => h) (Or.inl ⟨by rfl, by intro w hSw; go_simp⟩) (by assumption) ?_
          simp only [Act.put, List.setIfInBounds_toArray, List.set_cons_zero, List.set_cons_succ]
          refine wpAnyH_take (i := 3) (oi := { dst := some 20, op := Op.load 27 (Operand.tmp 19), type := 27, pos := "law.go:69", after := #[{ on := 2, ground := Ground.data }], guard := none }) (v := .int .u32 va) rfl (by kernel_rfl) (by kernel_rfl) (by kernel_rfl) (fun _ _ _ h => h) (Or.inl ⟨by rfl, by intro w hSw; have hc := hSw.1; go_simp⟩) (by assumption) ?_
          simp only [Act.put, List.setIfInBounds_toArray, List.set_cons_zero, List.set_cons_succ]
          refine wpAnyH_take (i := 4) (oi := { dst := some 21, op := Op.move (Operand.tmp 1), type := 32, pos := "law.go:69", after := #[], guard := none }) (v := Value.slice (some ⟨gb, ob, none⟩) n c') rfl (by kernel_rfl) (by kernel_rfl) (by kernel_rfl) (fun _ _ _ h => h) (Or.inl ⟨by rfl, by intro w hSw; go_simp⟩) (by assumption) ?_
          simp only [Act.put, List.setIfInBounds_toArray, List.set_cons_zero, List.set_cons_succ]
          refine wpAnyH_take (i := 5) (oi := { dst := some 22, op := Op.move (Operand.tmp 5), type := 3, pos := "law.go:69", after := #[], guard := none }) (v := .int .i64 (j : Int)) rfl (by kernel_rfl) (by kernel_rfl) (by kernel_rfl) (fun _ _ _ h => h) (Or.inl ⟨by rfl, by intro w hSw; go_simp⟩) (by assumption) ?_
          simp only [Act.put, List.setIfInBounds_toArray, List.set_cons_zero, List.set_cons_succ]
          refine wpAnyH_take (i := 6) (oi := { dst := some 23, op := Op.indexAddr 32 (Operand.tmp 21) (Operand.tmp 22), type := 0, pos := "law.go:69", after := #[{ on := 4, ground := Ground.data }, { on := 5, ground := Ground.data }], guard := none }) (v := .pointer (some ⟨gb, ob + j, none⟩)) rfl (by kernel_rfl) (by kernel_rfl) (by kernel_rfl) (fun _ _ _ h => h) (Or.inl ⟨by rfl, by intro w hSw; go_simp⟩) (by assumption) ?_
          simp only [Act.put, List.setIfInBounds_toArray, List.set_cons_zero, List.set_cons_succ]
          refine wpAnyH_take (i := 7) (oi := { dst := some 24, op := Op.load 27 (Operand.tmp 23), type := 27, pos := "law.go:69", after := #[{ on := 6, ground := Ground.data }], guard := none }) (v := .int .u32 vb) rfl (by kernel_rfl) (by kernel_rfl) (by kernel_rfl) (fun _ _ _ h => h) (Or.inl ⟨by rfl, by intro w hSw; have hc := hSw.2; go_simp⟩) (by assumption) ?_
          simp only [Act.put, List.setIfInBounds_toArray, List.set_cons_zero, List.set_cons_succ]
          refine wpAnyH_take (i := 8) (oi := { dst := some 25, op := Op.binOp BinOp.neq 27 (Operand.tmp 20) (Operand.tmp 24) 27, type := 4, pos := "law.go:69", after := #[{ on := 3, ground := Ground.data }, { on := 7, ground := Ground.data }], guard := none }) (v := .bool true) rfl (by kernel_rfl) (by kernel_rfl) (by kernel_rfl) (fun _ _ _ h => h) (Or.inl ⟨by rfl, by intro w hSw; go_simp⟩) (by assumption) ?_
          simp only [Act.put, List.setIfInBounds_toArray, List.set_cons_zero, List.set_cons_succ]
          refine wpAnyH_done (by kernel_rfl) ?_ _
          go_wp2_with fail
          go_ret
          exact ⟨ret_bool HR.out.symm, HBB.out⟩
      · have hjn : j = n := by omega
        subst hjn
        have HR := hid (HF.out HQ.out.2)
        clear hlt hj
        go_wp2_with fail
        go_ret
        exact ⟨ret_bool HR.out.symm, HQ.out.1⟩
  · have hR : decide (A = B) = false := decide_eq_false (fun e => hnm (by rw [← hA.len, ← hB.len, e]))
    rw [hR]
    have h' : ((n : Int) != (m : Int)) = true := by rw [bne_iff_ne]; omega
    clear hA hB hn hnm hR
    go_enter Try.func15, Try.ntmps15
    go_wp2_with fail
    go_ret
    exact ⟨rfl, Below.refl _ _⟩
/-- One call, as it is handed in. -/
structure Oq where
  k : Int
  d : Int
  a : Int
  b : Int
  t : Int
  on : Bool
  off : Int
  v : Int
def Oq.cs (o : Oq) : List Value := [.int .i64 o.k, .int .i64 o.d, .int .i64 o.a, .int .i64 o.b, .int .i64 o.t, .bool o.on, .int .i64 o.off, .int .u32 o.v]
def Oq.val (o : Oq) : Value := .agg o.cs.toArray
def DS.callE (d : DS) (o : Oq) : Int := if o.k = 1 then d.bearE o.a o.b else if o.k = 2 then d.takeE o.a o.t o.b else if o.k = 3 then d.turnE o.a o.t else if o.k = 4 then d.giveE o.a else if o.k = 5 then d.stateE o.a o.t else d.enteredE o.a
def DS.call (d : DS) (o : Oq) : DS := if o.k = 1 then d.takeSpace o.a o.b else if o.k = 2 then d.take o.a o.t o.b else if o.k = 3 then d.turn o.a o.t else if o.k = 4 then d.give o.a else if o.k = 5 then d.state o.a o.t else d.entered o.a o.on
theorem call_any (W : World) (p : Dp) (d : DS) (h : DB W p d) (o : Oq) :
    Calls Try.prog 8 #[ptr p.g, o.val] W fun e W' => e = .returned (.int .i64 (d.callE o)) ∧ DB W' p (d.call o) ∧ ButL p.w W W' := by
  have hb := below_one W (.cells o.cs.toArray 29)
  have hX := h.on hb
  have HC := hid (Cel.new W 29 o.cs)
  have HB := hid hb
  have H1 := hid (takeSpace_any _ p d hX o.a o.b)
  have H2 := hid (take_any _ p d hX o.a o.t o.b)
  have H3 := hid (turn_any _ p d hX o.a o.t)
  have H4 := hid (give_any _ p d hX o.a)
  have H5 := hid (setState_any _ p d hX o.a o.t)
  have H6 := hid (setEntered_any _ p d hX o.a o.on)
  clear h hb hX
  unfold DS.callE DS.call
  obtain ⟨k, dd, a, b, t, on, off, v⟩ := o
  simp only [Oq.val, Oq.cs, ptr] at *
  by_cases h1 : k = 1
  · subst h1
    simp only [if_true]
    clear H2 H3 H4 H5 H6
    go_enter Try.func8, Try.ntmps8
    go_upto_region 1 with fail
    generalize W.alloc _ = X at *
    have c0 := HC.out.cell 0
    have c2 := HC.out.cell 2
    have c3 := HC.out.cell 3
    have c4 := HC.out.cell 4
    have c5 := HC.out.cell 5
    simp only [List.getElem?_cons_zero, List.getElem?_cons_succ] at c0 c2 c3 c4 c5
    go_wp2_with (go_at_call 18; refine H1.out.mono ?_; rintro e w1 ⟨rfl, hd, hb⟩; have HD := hid (And.intro hd ((ButL.of (G := p.w) HB.out).trans hb)); clear hd hb)
    go_ret
    exact ⟨rfl, HD.out.1, HD.out.2⟩
  by_cases h2 : k = 2
  · subst h2
    simp only [show ¬ ((2 : Int) = 1) by decide, if_false, if_true]
    clear H1 H3 H4 H5 H6 h1
    go_enter Try.func8, Try.ntmps8
    go_upto_region 1 with fail
    generalize W.alloc _ = X at *
    have c0 := HC.out.cell 0
    have c2 := HC.out.cell 2
    have c3 := HC.out.cell 3
    have c4 := HC.out.cell 4
    have c5 := HC.out.cell 5
    simp only [List.getElem?_cons_zero, List.getElem?_cons_succ] at c0 c2 c3 c4 c5
    go_wp2_with (go_at_call 19; refine H2.out.mono ?_; rintro e w1 ⟨rfl, hd, hb⟩; have HD := hid (And.intro hd ((ButL.of (G := p.w) HB.out).trans hb)); clear hd hb)
    go_ret
    exact ⟨rfl, HD.out.1, HD.out.2⟩
  by_cases h3 : k = 3
  · subst h3
    simp only [show ¬ ((3 : Int) = 1) by decide, show ¬ ((3 : Int) = 2) by decide, if_false, if_true]
    clear H1 H2 H4 H5 H6 h1 h2
    go_enter Try.func8, Try.ntmps8
    go_upto_region 1 with fail
    generalize W.alloc _ = X at *
    have c0 := HC.out.cell 0
    have c2 := HC.out.cell 2
    have c3 := HC.out.cell 3
    have c4 := HC.out.cell 4
    have c5 := HC.out.cell 5
    simp only [List.getElem?_cons_zero, List.getElem?_cons_succ] at c0 c2 c3 c4 c5
    go_wp2_with (go_at_call 42; refine H3.out.mono ?_; rintro e w1 ⟨rfl, hd, hb⟩; have HD := hid (And.intro hd ((ButL.of (G := p.w) HB.out).trans hb)); clear hd hb)
    go_ret
    exact ⟨rfl, HD.out.1, HD.out.2⟩
  by_cases h4 : k = 4
  · subst h4
    simp only [show ¬ ((4 : Int) = 1) by decide, show ¬ ((4 : Int) = 2) by decide, show ¬ ((4 : Int) = 3) by decide, if_false, if_true]
    clear H1 H2 H3 H5 H6 h1 h2 h3
    go_enter Try.func8, Try.ntmps8
    go_upto_region 1 with fail
    generalize W.alloc _ = X at *
    have c0 := HC.out.cell 0
    have c2 := HC.out.cell 2
    have c3 := HC.out.cell 3
    have c4 := HC.out.cell 4
    have c5 := HC.out.cell 5
    simp only [List.getElem?_cons_zero, List.getElem?_cons_succ] at c0 c2 c3 c4 c5
    go_wp2_with (go_at_call 41; refine H4.out.mono ?_; rintro e w1 ⟨rfl, hd, hb⟩; have HD := hid (And.intro hd ((ButL.of (G := p.w) HB.out).trans hb)); clear hd hb)
    go_ret
    exact ⟨rfl, HD.out.1, HD.out.2⟩
  by_cases h5 : k = 5
  · subst h5
    simp only [show ¬ ((5 : Int) = 1) by decide, show ¬ ((5 : Int) = 2) by decide, show ¬ ((5 : Int) = 3) by decide, show ¬ ((5 : Int) = 4) by decide, if_false, if_true]
    clear H1 H2 H3 H4 H6 h1 h2 h3 h4
    go_enter Try.func8, Try.ntmps8
    go_upto_region 1 with fail
    generalize W.alloc _ = X at *
    have c0 := HC.out.cell 0
    have c2 := HC.out.cell 2
    have c3 := HC.out.cell 3
    have c4 := HC.out.cell 4
    have c5 := HC.out.cell 5
    simp only [List.getElem?_cons_zero, List.getElem?_cons_succ] at c0 c2 c3 c4 c5
    go_wp2_with (go_at_call 43; refine H5.out.mono ?_; rintro e w1 ⟨rfl, hd, hb⟩; have HD := hid (And.intro hd ((ButL.of (G := p.w) HB.out).trans hb)); clear hd hb)
    go_ret
    exact ⟨rfl, HD.out.1, HD.out.2⟩
  rw [if_neg h1, if_neg h2, if_neg h3, if_neg h4, if_neg h5, if_neg h1, if_neg h2, if_neg h3, if_neg h4, if_neg h5]
  have h1' : (k == 1) = false := by simpa using h1
  have h2' : (k == 2) = false := by simpa using h2
  have h3' : (k == 3) = false := by simpa using h3
  have h4' : (k == 4) = false := by simpa using h4
  have h5' : (k == 5) = false := by simpa using h5
  clear h1 h2 h3 h4 h5 H1 H2 H3 H4 H5
  go_enter Try.func8, Try.ntmps8
  go_upto_region 1 with fail
  generalize W.alloc _ = X at *
  have c0 := HC.out.cell 0
  have c2 := HC.out.cell 2
  have c3 := HC.out.cell 3
  have c4 := HC.out.cell 4
  have c5 := HC.out.cell 5
  simp only [List.getElem?_cons_zero, List.getElem?_cons_succ] at c0 c2 c3 c4 c5
  go_wp2_with (go_at_call 44; refine H6.out.mono ?_; rintro e w1 ⟨rfl, hd, hb⟩; have HD := hid (And.intro hd ((ButL.of (G := p.w) HB.out).trans hb)); clear hd hb)
  go_ret
  exact ⟨rfl, HD.out.1, HD.out.2⟩
end Go.Proofs.Ytajkhkaidjjioaa
