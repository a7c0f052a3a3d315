import Derived.Test.YtncnogndopgknaaGreatDoorP46
import Derived.Test.YtncnogndopgknaaGreatDoorP01
namespace Go.Proofs.YtncnogndopgknaaGreatDoor
open Go.RowKit
set_option maxRecDepth 40000
set_option maxHeartbeats 4000000
theorem rp_get (n : Nat) (u : Value) (j : Nat) (h : j < n) : (rp n [u])[j]? = some u := by
  induction n generalizing j with
  | zero => omega
  | succ n ih =>
    rw [rp_succ]
    by_cases hj : j < n
    · rw [List.getElem?_append_left (by rw [rp1_len]; exact hj)]; exact ih j hj
    · rw [List.getElem?_append_right (by rw [rp1_len]; omega), rp1_len, show j - n = 0 by omega]; rfl
theorem stays_any (W : World) (B n m : Nat) (vl vm : Value) (hl : W.ownsRow B 22 1 vl n (rp n [.int .u32 (m : Int)])) (hm : W.ownsRow B 22 1 vm (n + 1) (rp (n + 1) [.int .u32 (m : Int)])) (hn : n ≤ 2048) :
    Calls Tryz.prog 18 #[.agg #[vl, vm, .int .u32 (m : Int)]] W fun e w' => e = .returned (.bool true) ∧ Below W.heap.size W w' := by
  obtain ⟨al, cl, rfl⟩ := own_frm hl (by decide)
  obtain ⟨am, cm, rfl⟩ := own_frm hm (by decide)
  obtain ⟨gm, rfl⟩ := own_some hm (by omega)
  have n1 : (n : Int) ≤ 2048 := by omega
  have HL : Hid (∀ j, j < n → ∃ gl, al = some ⟨gl, 0, none⟩ ∧ ∀ x, Below W.heap.size W x → x.cell? ⟨gl, j, none⟩ = some (.int .u32 (m : Int))) := hid (fun j hj => by
    obtain ⟨gl, rfl⟩ := own_some hl (by omega)
    refine ⟨gl, rfl, fun x hx => ?_⟩
    have := own_rng (own_on hl hx) j _ (rp_get n _ j hj)
    rwa [Nat.zero_add] at this)
  have HM : Hid (∀ j, j ≤ n → ∀ x, Below W.heap.size W x → x.cell? ⟨gm, j, none⟩ = some (.int .u32 (m : Int))) := hid (fun j hj x hx => by
    have := own_rng (own_on hm hx) j _ (rp_get (n + 1) _ j (by omega))
    rwa [Nat.zero_add] at this)
  have HC : Hid (Cel (W.alloc (.cells #[.slice al n cl, .slice (some ⟨gm, 0, none⟩) (n + 1) cm, .int .u32 (m : Int)] 55)) W.heap.size 55 [.slice al n cl, .slice (some ⟨gm, 0, none⟩) (n + 1) cm, .int .u32 (m : Int)] ∧ Below W.heap.size W (W.alloc (.cells #[.slice al n cl, .slice (some ⟨gm, 0, none⟩) (n + 1) cm, .int .u32 (m : Int)] 55))) := hid ⟨Cel.new _ _ _, below_one _ _⟩
  clear hl hm
  go_enter Tryz.func18, Tryz.ntmps18
  go_upto_region 1 with fail
  generalize W.alloc _ = X at *
  generalize hg : W.heap.size = g at HC ⊢
  have HG := hid hg
  clear hg
  go_wp2_with fail
  have HX : Hid (∀ x, Below X.heap.size X x → Cel x g 55 [.slice al n cl, .slice (some ⟨gm, 0, none⟩) (n + 1) cm, .int .u32 (m : Int)] ∧ Below W.heap.size W x) := hid (fun x hx => ⟨HC.out.1.on hx, by rw [HG.out]; have h1 := HC.out.2; rw [← HG.out] at h1 ⊢; exact below_on h1 hx⟩)
  clear HC
  go_loopw [3] (fun i wr => ∃ j : Nat, j ≤ n ∧ i = .int .i64 (j : Int) ∧ Hid (Below X.heap.size X wr)) (fun i _ => n - (intOf i).toNat)
  case atStart => exact ⟨0, Nat.zero_le _, rfl, hid (Below.refl _ _)⟩
  case round =>
    obtain ⟨j, hj, rfl, HB⟩ := hrel
    have y0 := (HX.out wr HB.out).1.cell 0
    by_cases hlt : j < n
    · have q1 : (j : Int) < (n : Int) := by omega
      have q2 : (j : Int) < (n : Int) + 1 := by omega
      obtain ⟨gl, rfl, hc⟩ := HL.out j hlt
      have HLj := hid hc
      have HMj := hid (HM.out j hj)
      clear hc
      go_upto_region 4 with fail
      clear y0
      have HBx : Hid (Below X.heap.size X wr.drew) := hid (below_on HB.out (Below.refl _ _).drew)
      have HS := hid (And.intro ((HX.out _ HBx.out).1.cell 0) (And.intro ((HX.out _ HBx.out).1.cell 1) (And.intro ((HX.out _ HBx.out).1.cell 2) (And.intro (HLj.out _ (HX.out _ HBx.out).2) (HMj.out _ (HX.out _ HBx.out).2)))))
      refine wp_region_held_drew (S := fun w => w.cell? ⟨g, 0, none⟩ = some (.slice (some ⟨gl, 0, none⟩) n cl) ∧ w.cell? ⟨g, 1, none⟩ = some (.slice (some ⟨gm, 0, none⟩) (n + 1) cm) ∧ w.cell? ⟨g, 2, none⟩ = some (.int .u32 (m : Int)) ∧ w.cell? ⟨gl, j, none⟩ = some (.int .u32 (m : Int)) ∧ w.cell? ⟨gm, j, none⟩ = some (.int .u32 (m : Int))) (by kernel_rfl) HS.out (fun hHeld => ?_)
      refine tk 0 ⟨some 11, .fieldAddr 55 (.tmp 1) 0, 0, "outright.go:244", #[], none⟩ (.pointer (some ⟨g, 0, none⟩)) ?_
      simp only [Act.put, List.setIfInBounds_toArray, List.set_cons_zero, List.set_cons_succ]
      refine tk 1 ⟨some 12, .load 24 (.tmp 11), 24, "outright.go:244", #[⟨0, .data⟩], none⟩ (.slice (some ⟨gl, 0, none⟩) n cl) ?_ (hy := Or.inl ⟨by rfl, by intro w hSw; have hc := hSw.1; go_simp⟩)
      simp only [Act.put, List.setIfInBounds_toArray, List.set_cons_zero, List.set_cons_succ]
      refine tk 2 ⟨some 13, .move (.tmp 3), 3, "outright.go:244", #[], none⟩ (.int .i64 (j : Int)) ?_
      simp only [Act.put, List.setIfInBounds_toArray, List.set_cons_zero, List.set_cons_succ]
      refine tk 3 ⟨some 14, .indexAddr 24 (.tmp 12) (.tmp 13), 0, "outright.go:244", #[⟨1, .data⟩, ⟨2, .data⟩], none⟩ (.pointer (some ⟨gl, j, none⟩)) ?_
      simp only [Act.put, List.setIfInBounds_toArray, List.set_cons_zero, List.set_cons_succ]
      refine tk 4 ⟨some 15, .load 22 (.tmp 14), 22, "outright.go:244", #[⟨3, .data⟩], none⟩ (.int .u32 (m : Int)) ?_ (hy := Or.inl ⟨by rfl, by intro w hSw; have hc := hSw.2.2.2.1; go_simp⟩)
      simp only [Act.put, List.setIfInBounds_toArray, List.set_cons_zero, List.set_cons_succ]
      refine tk 5 ⟨some 16, .fieldAddr 55 (.tmp 1) 2, 0, "outright.go:244", #[], none⟩ (.pointer (some ⟨g, 2, none⟩)) ?_
      simp only [Act.put, List.setIfInBounds_toArray, List.set_cons_zero, List.set_cons_succ]
      refine tk 6 ⟨some 17, .load 22 (.tmp 16), 22, "outright.go:244", #[⟨5, .data⟩], none⟩ (.int .u32 (m : Int)) ?_ (hy := Or.inl ⟨by rfl, by intro w hSw; have hc := hSw.2.2.1; go_simp⟩)
      simp only [Act.put, List.setIfInBounds_toArray, List.set_cons_zero, List.set_cons_succ]
      refine tk 7 ⟨some 18, .binOp .neq 22 (.tmp 15) (.tmp 17) 22, 4, "outright.go:244", #[⟨4, .data⟩, ⟨6, .data⟩], none⟩ (.bool false) ?_
      simp only [Act.put, List.setIfInBounds_toArray, List.set_cons_zero, List.set_cons_succ]
      refine tk 8 ⟨some 19, .move (.tmp 18), 4, "outright.go:244", #[⟨7, .data⟩], none⟩ (.bool false) ?_
      simp only [Act.put, List.setIfInBounds_toArray, List.set_cons_zero, List.set_cons_succ]
      refine tk 9 ⟨some 20, .fieldAddr 55 (.tmp 1) 1, 0, "outright.go:244", #[⟨8, .guard⟩], some (8, false)⟩ (.pointer (some ⟨g, 1, none⟩)) ?_
      simp only [Act.put, List.setIfInBounds_toArray, List.set_cons_zero, List.set_cons_succ]
      refine tk 10 ⟨some 21, .load 24 (.tmp 20), 24, "outright.go:244", #[⟨9, .data⟩, ⟨8, .guard⟩], some (8, false)⟩ (.slice (some ⟨gm, 0, none⟩) (n + 1) cm) ?_ (hy := Or.inl ⟨by rfl, by intro w hSw; have hc := hSw.2.1; go_simp⟩)
      simp only [Act.put, List.setIfInBounds_toArray, List.set_cons_zero, List.set_cons_succ]
      refine tk 11 ⟨some 22, .move (.tmp 3), 3, "outright.go:244", #[⟨8, .guard⟩], some (8, false)⟩ (.int .i64 (j : Int)) ?_
      simp only [Act.put, List.setIfInBounds_toArray, List.set_cons_zero, List.set_cons_succ]
      refine tk 12 ⟨some 23, .indexAddr 24 (.tmp 21) (.tmp 22), 0, "outright.go:244", #[⟨10, .data⟩, ⟨11, .data⟩, ⟨8, .guard⟩], some (8, false)⟩ (.pointer (some ⟨gm, j, none⟩)) ?_
      simp only [Act.put, List.setIfInBounds_toArray, List.set_cons_zero, List.set_cons_succ]
      refine tk 13 ⟨some 24, .load 22 (.tmp 23), 22, "outright.go:244", #[⟨12, .data⟩, ⟨8, .guard⟩], some (8, false)⟩ (.int .u32 (m : Int)) ?_ (hy := Or.inl ⟨by rfl, by intro w hSw; have hc := hSw.2.2.2.2; go_simp⟩)
      simp only [Act.put, List.setIfInBounds_toArray, List.set_cons_zero, List.set_cons_succ]
      refine tk 14 ⟨some 25, .fieldAddr 55 (.tmp 1) 2, 0, "outright.go:244", #[⟨8, .guard⟩], some (8, false)⟩ (.pointer (some ⟨g, 2, none⟩)) ?_
      simp only [Act.put, List.setIfInBounds_toArray, List.set_cons_zero, List.set_cons_succ]
      refine tk 15 ⟨some 26, .load 22 (.tmp 25), 22, "outright.go:244", #[⟨14, .data⟩, ⟨8, .guard⟩], some (8, false)⟩ (.int .u32 (m : Int)) ?_ (hy := Or.inl ⟨by rfl, by intro w hSw; have hc := hSw.2.2.1; go_simp⟩)
      simp only [Act.put, List.setIfInBounds_toArray, List.set_cons_zero, List.set_cons_succ]
      refine tk 16 ⟨some 27, .binOp .neq 22 (.tmp 24) (.tmp 26) 22, 4, "outright.go:244", #[⟨13, .data⟩, ⟨15, .data⟩, ⟨8, .guard⟩], some (8, false)⟩ (.bool false) ?_
      simp only [Act.put, List.setIfInBounds_toArray, List.set_cons_zero, List.set_cons_succ]
      refine tk 17 ⟨some 28, .pick (.tmp 19) (.const (.bool true)) (.tmp 27), 4, "outright.go:244", #[⟨8, .data⟩, ⟨16, .data⟩], none⟩ (.bool false) ?_
      simp only [Act.put, List.setIfInBounds_toArray, List.set_cons_zero, List.set_cons_succ]
      refine wpAnyH_done (by kernel_rfl) ?_ _
      go_wp2_with fail
      go_roundw
      case measure => simp [intOf] <;> omega
      case rel => exact ⟨j + 1, by omega, by simp, HBx⟩
    · have hjn : n = j := by omega
      subst hjn
      have HMj := hid (HM.out n (Nat.le_refl _))
      have ew : IntKind.i64.wrap ((n : Int) + 1) = (n : Int) + 1 := by simp [IntKind.wrap, IntKind.signed, IntKind.bits]; omega
      have q4 : ¬ (n : Int) + 1 ≤ (n : Int) := by omega
      clear hlt hj
      go_upto_region 6 with fail
      clear y0
      have HBx : Hid (Below X.heap.size X wr.drew) := hid (below_on HB.out (Below.refl _ _).drew)
      have HBy := hid (HX.out _ HBx.out).2
      have HS := hid (And.intro ((HX.out _ HBx.out).1.cell 0) (And.intro ((HX.out _ HBx.out).1.cell 1) (And.intro ((HX.out _ HBx.out).1.cell 2) (HMj.out _ (HX.out _ HBx.out).2))))
      refine wp_region_held_drew (S := fun w => w.cell? ⟨g, 0, none⟩ = some (.slice al n cl) ∧ w.cell? ⟨g, 1, none⟩ = some (.slice (some ⟨gm, 0, none⟩) (n + 1) cm) ∧ w.cell? ⟨g, 2, none⟩ = some (.int .u32 (m : Int)) ∧ w.cell? ⟨gm, n, none⟩ = some (.int .u32 (m : Int))) (by kernel_rfl) HS.out (fun hHeld => ?_)
      refine tk 0 ⟨some 29, .fieldAddr 55 (.tmp 1) 1, 0, "outright.go:248", #[], none⟩ (.pointer (some ⟨g, 1, none⟩)) ?_
      simp only [Act.put, List.setIfInBounds_toArray, List.set_cons_zero, List.set_cons_succ]
      refine tk 1 ⟨some 30, .load 24 (.tmp 29), 24, "outright.go:248", #[⟨0, .data⟩], none⟩ (.slice (some ⟨gm, 0, none⟩) (n + 1) cm) ?_ (hy := Or.inl ⟨by rfl, by intro w hSw; have hc := hSw.2.1; go_simp⟩)
      simp only [Act.put, List.setIfInBounds_toArray, List.set_cons_zero, List.set_cons_succ]
      refine tk 2 ⟨some 31, .call { callee := .builtin .len, args := #[.tmp 30], argTypes := #[24] }, 3, "outright.go:248", #[⟨1, .data⟩], none⟩ (.int .i64 ((n : Int) + 1)) ?_
      simp only [Act.put, List.setIfInBounds_toArray, List.set_cons_zero, List.set_cons_succ]
      refine tk 3 ⟨some 32, .fieldAddr 55 (.tmp 1) 0, 0, "outright.go:248", #[], none⟩ (.pointer (some ⟨g, 0, none⟩)) ?_
      simp only [Act.put, List.setIfInBounds_toArray, List.set_cons_zero, List.set_cons_succ]
      refine tk 4 ⟨some 33, .load 24 (.tmp 32), 24, "outright.go:248", #[⟨3, .data⟩], none⟩ (.slice al n cl) ?_ (hy := Or.inl ⟨by rfl, by intro w hSw; have hc := hSw.1; go_simp⟩)
      simp only [Act.put, List.setIfInBounds_toArray, List.set_cons_zero, List.set_cons_succ]
      refine tk 5 ⟨some 34, .call { callee := .builtin .len, args := #[.tmp 33], argTypes := #[24] }, 3, "outright.go:248", #[⟨4, .data⟩], none⟩ (.int .i64 (n : Int)) ?_
      simp only [Act.put, List.setIfInBounds_toArray, List.set_cons_zero, List.set_cons_succ]
      refine tk 6 ⟨some 35, .binOp .add 3 (.tmp 34) (.const (.int .i64 1)) 3, 3, "outright.go:248", #[⟨5, .data⟩], none⟩ (.int .i64 ((n : Int) + 1)) ?_
      simp only [Act.put, List.setIfInBounds_toArray, List.set_cons_zero, List.set_cons_succ]
      refine tk 7 ⟨some 36, .binOp .eql 3 (.tmp 31) (.tmp 35) 3, 4, "outright.go:248", #[⟨2, .data⟩, ⟨6, .data⟩], none⟩ (.bool true) ?_
      simp only [Act.put, List.setIfInBounds_toArray, List.set_cons_zero, List.set_cons_succ]
      refine tk 8 ⟨some 37, .move (.tmp 36), 4, "outright.go:248", #[⟨7, .data⟩], none⟩ (.bool true) ?_
      simp only [Act.put, List.setIfInBounds_toArray, List.set_cons_zero, List.set_cons_succ]
      refine tk 9 ⟨some 38, .fieldAddr 55 (.tmp 1) 1, 0, "outright.go:248", #[⟨8, .guard⟩], some (8, true)⟩ (.pointer (some ⟨g, 1, none⟩)) ?_
      simp only [Act.put, List.setIfInBounds_toArray, List.set_cons_zero, List.set_cons_succ]
      refine tk 10 ⟨some 39, .load 24 (.tmp 38), 24, "outright.go:248", #[⟨9, .data⟩, ⟨8, .guard⟩], some (8, true)⟩ (.slice (some ⟨gm, 0, none⟩) (n + 1) cm) ?_ (hy := Or.inl ⟨by rfl, by intro w hSw; have hc := hSw.2.1; go_simp⟩)
      simp only [Act.put, List.setIfInBounds_toArray, List.set_cons_zero, List.set_cons_succ]
      refine tk 11 ⟨some 40, .fieldAddr 55 (.tmp 1) 0, 0, "outright.go:248", #[⟨8, .guard⟩], some (8, true)⟩ (.pointer (some ⟨g, 0, none⟩)) ?_
      simp only [Act.put, List.setIfInBounds_toArray, List.set_cons_zero, List.set_cons_succ]
      refine tk 12 ⟨some 41, .load 24 (.tmp 40), 24, "outright.go:248", #[⟨11, .data⟩, ⟨8, .guard⟩], some (8, true)⟩ (.slice al n cl) ?_ (hy := Or.inl ⟨by rfl, by intro w hSw; have hc := hSw.1; go_simp⟩)
      simp only [Act.put, List.setIfInBounds_toArray, List.set_cons_zero, List.set_cons_succ]
      refine tk 13 ⟨some 42, .call { callee := .builtin .len, args := #[.tmp 41], argTypes := #[24] }, 3, "outright.go:248", #[⟨12, .data⟩, ⟨8, .guard⟩], some (8, true)⟩ (.int .i64 (n : Int)) ?_
      simp only [Act.put, List.setIfInBounds_toArray, List.set_cons_zero, List.set_cons_succ]
      refine tk 14 ⟨some 43, .indexAddr 24 (.tmp 39) (.tmp 42), 0, "outright.go:248", #[⟨10, .data⟩, ⟨13, .data⟩, ⟨8, .guard⟩], some (8, true)⟩ (.pointer (some ⟨gm, n, none⟩)) ?_
      simp only [Act.put, List.setIfInBounds_toArray, List.set_cons_zero, List.set_cons_succ]
      refine tk 15 ⟨some 44, .load 22 (.tmp 43), 22, "outright.go:248", #[⟨14, .data⟩, ⟨8, .guard⟩], some (8, true)⟩ (.int .u32 (m : Int)) ?_ (hy := Or.inl ⟨by rfl, by intro w hSw; have hc := hSw.2.2.2; go_simp⟩)
      simp only [Act.put, List.setIfInBounds_toArray, List.set_cons_zero, List.set_cons_succ]
      refine tk 16 ⟨some 45, .fieldAddr 55 (.tmp 1) 2, 0, "outright.go:248", #[⟨8, .guard⟩], some (8, true)⟩ (.pointer (some ⟨g, 2, none⟩)) ?_
      simp only [Act.put, List.setIfInBounds_toArray, List.set_cons_zero, List.set_cons_succ]
      refine tk 17 ⟨some 46, .load 22 (.tmp 45), 22, "outright.go:248", #[⟨16, .data⟩, ⟨8, .guard⟩], some (8, true)⟩ (.int .u32 (m : Int)) ?_ (hy := Or.inl ⟨by rfl, by intro w hSw; have hc := hSw.2.2.1; go_simp⟩)
      simp only [Act.put, List.setIfInBounds_toArray, List.set_cons_zero, List.set_cons_succ]
      refine tk 18 ⟨some 47, .binOp .eql 22 (.tmp 44) (.tmp 46) 22, 4, "outright.go:248", #[⟨15, .data⟩, ⟨17, .data⟩, ⟨8, .guard⟩], some (8, true)⟩ (.bool true) ?_
      simp only [Act.put, List.setIfInBounds_toArray, List.set_cons_zero, List.set_cons_succ]
      refine tk 19 ⟨some 48, .pick (.tmp 37) (.tmp 47) (.const (.bool false)), 4, "outright.go:248", #[⟨8, .data⟩, ⟨18, .data⟩], none⟩ (.bool true) ?_
      simp only [Act.put, List.setIfInBounds_toArray, List.set_cons_zero, List.set_cons_succ]
      refine wpAnyH_ready (rs := [20]) (by kernel_rfl) (by simp) (AllReadyH.cons (o := ⟨some 2, .assign (.tmp 48), 4, "outright.go:248", #[⟨19, .data⟩, ⟨8, .chain⟩, ⟨0, .phase⟩, ⟨1, .phase⟩, ⟨2, .phase⟩, ⟨3, .phase⟩, ⟨4, .phase⟩, ⟨5, .phase⟩, ⟨6, .phase⟩, ⟨7, .phase⟩, ⟨8, .phase⟩, ⟨9, .phase⟩, ⟨10, .phase⟩, ⟨11, .phase⟩, ⟨12, .phase⟩, ⟨13, .phase⟩, ⟨14, .phase⟩, ⟨15, .phase⟩, ⟨16, .phase⟩, ⟨17, .phase⟩, ⟨18, .phase⟩, ⟨19, .phase⟩], none⟩) rfl (fun KQ hK => ?_) AllReadyH.nil)
      go_simp
      refine hK.out _ _ HS.out (fun hHeld => ?_)
      clear hK KQ
      try simp only [Act.put, List.setIfInBounds_toArray, List.set_cons_zero, List.set_cons_succ]
      refine wpAnyH_done (by kernel_rfl) ?_ _
      go_wp2_with fail
      go_ret
      exact ⟨rfl, HBy.out⟩
end Go.Proofs.YtncnogndopgknaaGreatDoor
namespace Go.Proofs.YtncnogndopgknaaGreatDoor
open Go.RowKit
set_option maxRecDepth 40000
set_option maxHeartbeats 4000000
structure Kp where
  l : Value
  m : Value
  a : Value
  b : Value
  i : Nat
def Kp.cs (k : Kp) : List Value := [k.l, k.m, .int .u32 ((k.i + 7 : Nat) : Int)]
def hash : List UInt8 := [35]
def Kp.h1 (n : Nat) (k : Kp) : Hk := ⟨22, 1, k.l, k.m, n, n + 1, [.int .u32 ((k.i + 7 : Nat) : Int)]⟩
def Kp.h2 (k : Kp) : Hk := ⟨43, 2, k.a, k.b, 4, 44, [.string ⟨#[35]⟩, .int .i64 (k.i : Int)]⟩
def Kp.hs (n : Nat) (k : Kp) : List Hk := [k.h1 n, k.h2]
theorem rp_plus (n m : Nat) (cs : List Value) : rp (n + m) cs = rp n cs ++ rp m cs := by
  induction m with
  | zero => simp [rp]
  | succ m ih => rw [← Nat.add_assoc, rp_succ, ih, rp_succ, List.append_assoc]
theorem keep0 {W w : World} {R : List Rr} {H : List Hk} {e : TypeId} {st g n m c : Nat} {cs : List Value} (h : KS W w (⟨e, st, .slice (some ⟨g, 0, none⟩) (n + m) c, n + m, rp (n + m) cs⟩ :: R) H) (hcs : cs.length = st) :
    KS W w R (⟨e, st, .slice (some ⟨g, 0, none⟩) n c, .slice (some ⟨g, 0, none⟩) (n + m) c, n, n + m, cs⟩ :: H) := by
  have hown := h.own0
  have hrp := rp_plus n m cs
  have hpre := own_prefix (x := w) (B := W.heap.size) (xs := rp n cs) (ys := rp m cs) (by rw [← hrp]; exact hown) (by rw [rp_len, hcs])
  refine ⟨h.below, fun i r hr => h.own (i + 1) r (by simpa using hr), fun i j r s hij hr hs => h.ap (i + 1) (j + 1) r s (by omega) (by simpa using hr) (by simpa using hs), fun k hk => ?_, fun i r hr g' hg' k hk => ?_⟩
  · rcases List.mem_cons.1 hk with rfl | hk
    · exact ⟨hpre, hown⟩
    · exact h.each k hk
  · rcases List.mem_cons.1 hk with rfl | hk
    · have := h.ap (i + 1) 0 r _ (by omega) (by simpa using hr) rfl g' hg'
      exact ⟨this, this⟩
    · exact h.off (i + 1) r (by simpa using hr) g' hg' k hk
theorem keep2 {W w : World} {R : List Rr} {H : List Hk} {e : TypeId} {st n m : Nat} {v u : Value} {cs : List Value} (h : KS W w (⟨e, st, v, m, rp m cs⟩ :: ⟨e, st, u, n, rp n cs⟩ :: R) H) :
    KS W w R (⟨e, st, u, v, n, m, cs⟩ :: H) := by
  refine ⟨h.below, fun i r hr => h.own (i + 2) r (by simpa using hr), fun i j r s hij hr hs => h.ap (i + 2) (j + 2) r s (by omega) (by simpa using hr) (by simpa using hs), fun k hk => ?_, fun i r hr g' hg' k hk => ?_⟩
  · rcases List.mem_cons.1 hk with rfl | hk
    · exact ⟨h.own 1 _ rfl, h.own 0 _ rfl⟩
    · exact h.each k hk
  · rcases List.mem_cons.1 hk with rfl | hk
    · exact ⟨h.ap (i + 2) 1 r _ (by omega) (by simpa using hr) rfl g' hg', h.ap (i + 2) 0 r _ (by omega) (by simpa using hr) rfl g' hg'⟩
    · exact h.off (i + 2) r (by simpa using hr) g' hg' k hk
def Grow (W w : World) (R : List Rr) (H : List Hk) (e : TypeId) (st : Nat) (a v : Value) (n m : Nat) (cs : List Value) : Prop :=
  (∃ g c, a = .slice (some ⟨g, 0, none⟩) n c ∧ v = .slice (some ⟨g, 0, none⟩) (n + m) c ∧ KS W w (⟨e, st, v, n + m, rp (n + m) cs⟩ :: R) H) ∨
  KS W w (⟨e, st, v, n + m, rp (n + m) cs⟩ :: ⟨e, st, a, n, rp n cs⟩ :: R) H
theorem Grow.keep {W w : World} {R : List Rr} {H : List Hk} {e : TypeId} {st n m : Nat} {a v : Value} {cs : List Value} (h : Grow W w R H e st a v n m cs) (hcs : cs.length = st) : KS W w R (⟨e, st, a, v, n, n + m, cs⟩ :: H) := by
  rcases h with ⟨g, c, rfl, rfl, h⟩ | h
  · exact keep0 h hcs
  · exact keep2 h
theorem Grow.own {W w : World} {R : List Rr} {H : List Hk} {e : TypeId} {st n m : Nat} {a v : Value} {cs : List Value} (h : Grow W w R H e st a v n m cs) : w.ownsRow W.heap.size e st v (n + m) (rp (n + m) cs) := by
  rcases h with ⟨_, _, _, _, h⟩ | h
  · exact h.own0
  · exact h.own0
theorem Grow.below {W w : World} {R : List Rr} {H : List Hk} {e : TypeId} {st n m : Nat} {a v : Value} {cs : List Value} (h : Grow W w R H e st a v n m cs) : Below W.heap.size W w := by
  rcases h with ⟨_, _, _, _, h⟩ | h
  · exact h.below
  · exact h.below
theorem Grow.on {W w w' : World} {R : List Rr} {H : List Hk} {e : TypeId} {st n m : Nat} {a v : Value} {cs : List Value} (h : Grow W w R H e st a v n m cs) (hb : Below w.heap.size w w') : Grow W w' R H e st a v n m cs := by
  rcases h with ⟨g, c, h1, h2, h⟩ | h
  · exact .inl ⟨g, c, h1, h2, h.on hb⟩
  · exact .inr (h.on hb)
theorem Grow.step {W w w' : World} {R : List Rr} {H : List Hk} {e : TypeId} {st n m : Nat} {a v v' : Value} {cs : List Value} (h : Grow W w R H e st a v n m cs) (hcs : cs.length = st) (ha : Two2 w w' W.heap.size e st v v' (n + m) 1 (rp (n + m) cs ++ cs)) : Grow W w' R H e st a v' n (m + 1) cs := by
  have hrs : rp (n + (m + 1)) cs = rp (n + m) cs ++ cs := by rw [← Nat.add_assoc, rp_succ]
  rcases h with ⟨g, c, rfl, rfl, h⟩ | h
  · have hown := h.own0
    rcases ha with ⟨g', c', hv, rfl, ho, hb⟩ | ⟨ho, hb⟩
    · injection hv with h1 h2 h3
      injection h1 with h1
      injection h1 with h1
      subst h1 h3
      refine .inl ⟨g, c, rfl, rfl, ?_⟩
      have := h.wr 0 rfl (⟨e, st, .slice (some ⟨g, 0, none⟩) (n + m + 1) c, n + m + 1, rp (n + m) cs ++ cs⟩ : Rr) rfl rfl hb ho
      rw [← hrs] at this
      exact this
    · have hpre := own_prefix (x := w) (B := W.heap.size) (xs := rp n cs) (ys := rp m cs) (by rw [← rp_plus]; exact hown) (by rw [rp_len, hcs])
      have h1 := h.wr 0 rfl (⟨e, st, .slice (some ⟨g, 0, none⟩) n c, n, rp n cs⟩ : Rr) rfl rfl ⟨rfl, rfl, rfl, Nat.le_refl _, fun _ _ _ => rfl⟩ hpre
      have h2 := h1.add ⟨e, st, v', n + m + 1, rp (n + m) cs ++ cs⟩ hb ho
      rw [← hrs] at h2
      exact .inr h2
  · have := h.app 0 rfl ha
    rw [← hrs] at this
    exact .inr this
end Go.Proofs.YtncnogndopgknaaGreatDoor
