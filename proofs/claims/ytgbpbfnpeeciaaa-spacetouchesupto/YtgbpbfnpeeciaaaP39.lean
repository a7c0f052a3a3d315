import Derived.Test.YtgbpbfnpeeciaaaP38
import Derived.Test.YtgbpbfnpeeciaaaP01
import Derived.Deep.MidRow
namespace Go.Proofs.Ytgbpbfnpeeciaaa
open Go.RowKit
set_option maxRecDepth 100000
set_option maxHeartbeats 4000000
theorem u32s_at {w : World} {g : Nat} {t : TypeId} {L : List Int} (h : Cel w g t (u32s L)) (j : Nat) (hj : j < L.length) : w.cell? ⟨g, j, none⟩ = some (.int .u32 (L.getD j 0)) := by
  rw [h.cell, u32s, List.getElem?_map, List.getD_eq_getElem?_getD, List.getElem?_eq_getElem hj]
  rfl
theorem likewise_yes (W : World) (p p' : Dp) (d d' : DS) (h : DB W p d) (h' : DB W p' d') (hs : d'.ws = d.ws) (hn' : d'.m.ns = d.m.ns) :
    Calls Try.prog 27 #[ptr p.g, ptr p'.g] W fun e W' => e = .returned (.bool true) ∧ Below W.heap.size W W' := by
  have HW1 := hid (fun w (hb : Below W.heap.size W w) => words_any w p d (h.on hb))
  have HW2 := hid (fun w (hb : Below W.heap.size W w) => (by have := words_any w p' d' (h'.on hb); rw [hs, hn'] at this; exact this : Calls Try.prog 56 #[ptr p'.g] w fun e W' => ∃ gn, e = .returned (.slice (some ⟨gn, 0, none⟩) (1 + 2 * d.m.ns) (1 + 2 * d.m.ns)) ∧ Cel W' gn 22 (u32s d.ws) ∧ w.heap.size ≤ gn ∧ Below w.heap.size w W'))
  have hl : d.ws.length = 1 + 2 * d.m.ns := DS.ws_len h.ok
  have hn : d.m.ns ≤ 64 := h.ok.n64
  have HB0 := hid (Below.refl W.heap.size W)
  clear h h' hs hn'
  generalize d.ws = L at *
  generalize hN : 1 + 2 * d.m.ns = N at *
  have hN1 : N ≤ 129 := by omega
  have hN2 : (N : Int) ≤ 129 := by omega
  clear hN hn
  simp only [ptr] at *
  have T0 : Hid True := hid trivial
  go_enter Try.func27, Try.ntmps27
  go_upto_region 2 with (first | (go_at_call 56; revert T0; intro T0; refine (HW1.out _ HB0.out).mono ?_; rintro e w1 ⟨g5, rfl, hc, _, hb⟩; have B1 := hid (And.intro (below_on HB0.out hb) hc); clear hb hc T0 HW1; have T1 : Hid True := hid trivial) | (go_at_call 56; revert T1; intro T1; refine (HW2.out _ B1.out.1).mono ?_; rintro e w2 ⟨g6, rfl, hc, _, hb⟩; have B2 : Hid (Below W.heap.size W w2 ∧ Cel w2 g5 22 (u32s L) ∧ Cel w2 g6 22 (u32s L)) := hid ⟨below_on B1.out.1 hb, B1.out.2.on hb, hc⟩; clear hb hc T1 HW2))
  clear B1 HB0
  go_wp2_with fail
  go_loopw [7] (fun i wr => ∃ j : Nat, j ≤ N ∧ i = .int .i64 (j : Int) ∧ Hid (Below W.heap.size W wr ∧ Cel wr g5 22 (u32s L) ∧ Cel wr g6 22 (u32s L))) (fun i _ => N - (intOf i).toNat)
  case atStart => exact ⟨0, Nat.zero_le _, rfl, hid B2.out⟩
  case round =>
    obtain ⟨j, hj, rfl, HQ⟩ := hrel
    clear B2
    by_cases hlt : j < N
    · have q1 : (j : Int) < (N : Int) := by omega
      have HJ := hid hlt
      have HC1 := hid (fun w (hc : Cel w g5 22 (u32s L)) => u32s_at hc j (by omega))
      have HC2 := hid (fun w (hc : Cel w g6 22 (u32s L)) => u32s_at hc j (by omega))
      clear hlt hj
      generalize L.getD j 0 = v at *
      go_upto_region 7 with fail
      have E1 : Hid (Below W.heap.size W wr.drew ∧ Cel wr.drew g5 22 (u32s L) ∧ Cel wr.drew g6 22 (u32s L)) := hid ⟨HQ.out.1.drew, HQ.out.2.1.on (Below.refl _ _).drew, HQ.out.2.2.on (Below.refl _ _).drew⟩
      clear HQ
      refine wp_region_held_drew (S := fun w => Cel w g5 22 (u32s L) ∧ Cel w g6 22 (u32s L)) (by kernel_rfl) E1.out.2 (fun hHeld => ?_)
      refine tk 0 ⟨some 23, .move (.tmp 5), 113, "outright.go:211", #[], none⟩ (.slice (some ⟨g5, 0, none⟩) N N) ?_
      simp only [Act.put, List.setIfInBounds_toArray, List.set_cons_zero, List.set_cons_succ]
      refine tk 1 ⟨some 24, .move (.tmp 7), 3, "outright.go:211", #[], none⟩ (.int .i64 (j : Int)) ?_
      simp only [Act.put, List.setIfInBounds_toArray, List.set_cons_zero, List.set_cons_succ]
      refine tk 2 ⟨some 25, .indexAddr 113 (.tmp 23) (.tmp 24), 0, "outright.go:211", #[⟨0, .data⟩, ⟨1, .data⟩], none⟩ (.pointer (some ⟨g5, j, none⟩)) ?_
      simp only [Act.put, List.setIfInBounds_toArray, List.set_cons_zero, List.set_cons_succ]
      refine tk 3 ⟨some 26, .load 22 (.tmp 25), 22, "outright.go:211", #[⟨2, .data⟩], none⟩ (.int .u32 v) ?_ (hy := Or.inl ⟨by rfl, by intro w hSw; have hc := HC1.out w hSw.1; go_simp⟩)
      simp only [Act.put, List.setIfInBounds_toArray, List.set_cons_zero, List.set_cons_succ]
      refine tk 4 ⟨some 27, .move (.tmp 6), 113, "outright.go:211", #[], none⟩ (.slice (some ⟨g6, 0, none⟩) N N) ?_
      simp only [Act.put, List.setIfInBounds_toArray, List.set_cons_zero, List.set_cons_succ]
      refine tk 5 ⟨some 28, .move (.tmp 7), 3, "outright.go:211", #[], none⟩ (.int .i64 (j : Int)) ?_
      simp only [Act.put, List.setIfInBounds_toArray, List.set_cons_zero, List.set_cons_succ]
      refine tk 6 ⟨some 29, .indexAddr 113 (.tmp 27) (.tmp 28), 0, "outright.go:211", #[⟨4, .data⟩, ⟨5, .data⟩], none⟩ (.pointer (some ⟨g6, j, none⟩)) ?_
      simp only [Act.put, List.setIfInBounds_toArray, List.set_cons_zero, List.set_cons_succ]
      refine tk 7 ⟨some 30, .load 22 (.tmp 29), 22, "outright.go:211", #[⟨6, .data⟩], none⟩ (.int .u32 v) ?_ (hy := Or.inl ⟨by rfl, by intro w hSw; have hc := HC2.out w hSw.2; go_simp⟩)
      simp only [Act.put, List.setIfInBounds_toArray, List.set_cons_zero, List.set_cons_succ]
      refine tk 8 ⟨some 31, .binOp .neq 22 (.tmp 26) (.tmp 30) 22, 4, "outright.go:211", #[⟨3, .data⟩, ⟨7, .data⟩], none⟩ (.bool false) ?_
      simp only [Act.put, List.setIfInBounds_toArray, List.set_cons_zero, List.set_cons_succ]
      refine wpAnyH_done (by kernel_rfl) ?_ _
      clear hHeld
      go_wp2_with fail
      go_roundw
      case measure => have := HJ.out; simp [intOf] <;> omega
      case rel => exact ⟨j + 1, HJ.out, by simp, E1⟩
    · have hjn : j = N := by omega
      subst hjn
      go_wp2_with fail
      go_ret
      exact ⟨rfl, HQ.out.1⟩
theorem msecure_any (w : World) (f : Fp) (m : MS) (h : Mem w f m) :
    Calls Try.prog 58 #[ptr f.gm] w fun x w' => x = .returned (.int .i64 (m.ns : Int)) ∧ w = w' := by
  have c1 : w.cell? ⟨f.gm, 0, none⟩ = some (.slice (some ⟨f.gs, 0, none⟩) m.ns m.ns) := h.cel.cell 0
  clear h
  generalize m.ns = k at *
  simp only [ptr] at *
  go_enter Try.func58, Try.ntmps58
  go_wp2_with fail
  go_ret
  exact ⟨rfl, rfl⟩
theorem minsecure_any (w : World) (f : Fp) (m : MS) (h : Mem w f m) :
    Calls Try.prog 59 #[ptr f.gm] w fun x w' => x = .returned (.int .i64 ((m.P.length - m.ns : Nat) : Int)) ∧ w = w' := by
  have c1 : w.cell? ⟨f.gm, 1, none⟩ = some (.slice (some ⟨f.gi, 0, none⟩) (m.P.length - m.ns) (m.P.length - m.ns)) := h.cel.cell 1
  clear h
  generalize m.P.length - m.ns = k at *
  simp only [ptr] at *
  go_enter Try.func59, Try.ntmps59
  go_wp2_with fail
  go_ret
  exact ⟨rfl, rfl⟩
def fsec (k : Nat) : Bool := decide (k < 8)
def fpg (k : Nat) : Int := if k < 8 then (k : Int) else (k : Int) - 8
theorem framed_any (w : World) (k : Nat) (hk : k ≤ 1000) :
    Calls Try.prog 60 #[.int .i64 (k : Int), .int .i64 8] w fun x w' => x = .returned (fr (fsec k) (fpg k)) ∧ Below w.heap.size w w' := by
  have k1 : (k : Int) ≤ 1000 := by omega
  unfold fsec fpg fr
  by_cases h8 : k < 8
  · have h8' : (k : Int) < 8 := by omega
    rw [if_pos h8, decide_eq_true h8]
    go_enter Try.func60, Try.ntmps60
    go_wp2_with fail
    exact bodyPost_ret (v := .agg #[.bool true, .int .i64 (k : Int)]) (by simp [results, Try.results60, go_sem]) rfl ⟨rfl, below_one _ _⟩
  · have h8' : 8 ≤ (k : Int) := by omega
    rw [if_neg h8, decide_eq_false h8]
    go_enter Try.func60, Try.ntmps60
    go_wp2_with fail
    exact bodyPost_ret (v := .agg #[.bool false, .int .i64 ((k : Int) - 8)]) (by simp [results, Try.results60, go_sem]) rfl ⟨rfl, below_one _ _⟩
def wk (m : MS) (k j : Nat) : Int := m.word (fsec k) (fpg k) (j : Int)
def pas (B : Bool) (q o p j : Nat) : Bool := B && (decide (q < p) || (decide (q = p) && decide (o < j)))
def pI (B : Bool) (x y : Int) : Int := if B = true then x else y
theorem pas_no {B : Bool} {q o p j : Nat} (h : ¬ (B = true ∧ p = q ∧ j = o)) : pas B q o p (j + 1) = pas B q o p j := by
  unfold pas
  cases B
  · rfl
  · simp only [Bool.true_and]
    by_cases h1 : q = p
    · subst h1
      have : j ≠ o := fun e => h ⟨rfl, rfl, e⟩
      have e2 : decide (o < j + 1) = decide (o < j) := decide_eq_decide.2 (by omega)
      rw [e2]
    · simp [h1]
theorem pas_at (q o : Nat) : pas true q o q o = false ∧ pas true q o q (o + 1) = true := by simp [pas]
theorem pas_end (B : Bool) (q o p : Nat) (ho : o < 1024) : pas B q o p 1024 = pas B q o (p + 1) 0 := by
  unfold pas
  cases B
  · rfl
  · simp only [Bool.true_and]
    have : decide (o < 1024) = true := decide_eq_true ho
    rw [this, Bool.and_true, ← Bool.decide_or]
    have e2 : decide (o < 0) = false := rfl
    rw [e2, Bool.and_false, Bool.or_false]
    exact decide_eq_decide.2 (by omega)
theorem pas_all (B : Bool) (q o : Nat) (hq : q < 12) : pas B q o 12 0 = B := by
  unfold pas
  rw [decide_eq_true hq]
  simp
theorem part_any (W : World) (f f' : Fp) (m m' : MS) (h : Mem W f m) (h' : Mem W f' m') (hns : m.ns = 8) (hl : m.P.length = 12) (B : Bool) (q o : Nat) (hq : q < 12) (ho : o < 1024) (hd : ∀ k j, k < 12 → j < 1024 → (wk m k j = wk m' k j ↔ ¬ (B = true ∧ k = q ∧ j = o))) :
    Calls Try.prog 26 #[ptr f.gm, ptr f'.gm] W fun e W' => e = .returned (.tuple #[.int .i64 (pI B 1 0), .int .i64 (pI B (q : Int) (-1)), .int .i64 (pI B (o : Int) (-1))]) ∧ Below W.heap.size W W' := by
  have HSe := hid (fun w (hb : Below W.heap.size W w) => (by have := msecure_any w f m (h.on hb); rw [hns] at this; exact this : Calls Try.prog 58 #[ptr f.gm] w fun x w' => x = .returned (.int .i64 ((8 : Nat) : Int)) ∧ w = w'))
  have HIn := hid (fun w (hb : Below W.heap.size W w) => (by have := minsecure_any w f m (h.on hb); rw [hns, hl] at this; exact this : Calls Try.prog 59 #[ptr f.gm] w fun x w' => x = .returned (.int .i64 ((12 - 8 : Nat) : Int)) ∧ w = w'))
  have HPa := hid (fun w (hb : Below W.heap.size W w) (s : Bool) (p o : Int) => peek_any w f m (h.on hb) s p o)
  have HPb := hid (fun w (hb : Below W.heap.size W w) (s : Bool) (p o : Int) => peek_any w f' m' (h'.on hb) s p o)
  have HFr := hid (fun w (k : Nat) (hk : k ≤ 1000) => framed_any w k hk)
  have HD := hid hd
  have HB0 := hid (Below.refl W.heap.size W)
  clear h h' hns hl hd
  simp only [ptr, fr] at *
  go_enter Try.func26, Try.ntmps26
  go_wp2_with fail
  go_loopw [7, 8, 9, 10] (fun a b c i wr => ∃ p : Nat, p ≤ 12 ∧ i = .int .i64 (p : Int) ∧ a = .int .i64 (pI (pas B q o p 0) 1 0) ∧ b = .int .i64 (pI (pas B q o p 0) (q : Int) (-1)) ∧ c = .int .i64 (pI (pas B q o p 0) (o : Int) (-1)) ∧ Hid (Below W.heap.size W wr)) (fun _ _ _ i _ => 12 - (intOf i).toNat)
  case atStart =>
    have e0 : pas B q o 0 0 = false := by simp [pas]
    exact ⟨0, Nat.zero_le _, rfl, by rw [e0]; rfl, by rw [e0]; rfl, by rw [e0]; rfl, HB0⟩
  case round =>
    clear HB0
    obtain ⟨p, hp, rfl, rfl, rfl, rfl, HB⟩ := hrel
    by_cases hlt : p < 12
    · have q1 : (p : Int) < 12 := by omega
      have T0 : Hid True := hid trivial
      have HF1 := hid (fun w => HFr.out w p (by omega))
      have HPA := hid (fun w (hb : Below W.heap.size W w) (o : Int) => HPa.out w hb (fsec p) (fpg p) o)
      have HPB := hid (fun w (hb : Below W.heap.size W w) (o : Int) => HPb.out w hb (fsec p) (fpg p) o)
      have HDp := hid (fun j (hj : j < 1024) => HD.out p j hlt hj)
      have HLt := hid hlt
      unfold wk at HDp
      clear hlt HFr HPa HPb HD hp
      generalize fsec p = fs at *
      generalize fpg p = fp at *
      go_upto_region 6 with (first | (go_at_call 58; refine (HSe.out _ HB.out).mono ?_; rintro y w1 ⟨rfl, rfl⟩) | (go_at_call 59; refine (HIn.out _ HB.out).mono ?_; rintro y w1 ⟨rfl, rfl⟩) | (go_at_call 60; refine (HF1.out _).mono ?_; rintro y w2 ⟨rfl, hb2⟩; have HB2 := hid (below_on HB.out hb2); clear hb2) | (refine wpList_store_st rfl 47 _ _ rfl w2.heap.size [.bool fs, .int .i64 fp] rfl rfl (Cel.new w2 47 [.bool false, .int .i64 0]) size47 rfl rfl ?_; intro w3 hc hb hs; have E0 : Hid (Below W.heap.size W w3 ∧ Cel w3 w2.heap.size 47 [.bool fs, .int .i64 fp]) := hid ⟨below_on HB2.out ((below_one _ _).trans (hb.below (by simp) (by simp))), hc⟩; clear hc hb hs))
      generalize w2.heap.size = g11 at *
      simp only [Act.put]
      clear HB HB2 HF1
      go_wp2_with fail
      go_loopw [7, 8, 9, 12] (fun a b c i wr => ∃ j : Nat, j ≤ 1024 ∧ i = .int .i64 (j : Int) ∧ a = .int .i64 (pI (pas B q o p j) 1 0) ∧ b = .int .i64 (pI (pas B q o p j) (q : Int) (-1)) ∧ c = .int .i64 (pI (pas B q o p j) (o : Int) (-1)) ∧ Hid (Below W.heap.size W wr ∧ Cel wr g11 47 [.bool fs, .int .i64 fp])) (fun _ _ _ i _ => 1024 - (intOf i).toNat)
      case atStart => exact ⟨0, Nat.zero_le _, rfl, rfl, rfl, rfl, E0⟩
      case round =>
        clear E0
        obtain ⟨j, hj, rfl, rfl, rfl, rfl, HQ⟩ := hrel
        by_cases hj1 : j < 1024
        · have q2 : (j : Int) < 1024 := by omega
          have HP1 := hid (fun w (hb : Below W.heap.size W w) => HPA.out w hb (j : Int))
          have HP2 := hid (fun w (hb : Below W.heap.size W w) => HPB.out w hb (j : Int))
          have HN := hid (HDp.out j hj1)
          have HJ := hid hj1
          clear hj1 hj
          generalize m.word fs fp (j : Int) = va at *
          generalize m'.word fs fp (j : Int) = vb at *
          by_cases hit : B = true ∧ p = q ∧ j = o
          · have HNE : Hid ((va != vb) = true) := hid (by simp only [bne_iff_ne, ne_eq]; exact fun e => (HN.out.1 e) hit)
            obtain ⟨rfl, rfl, rfl⟩ := hit
            rw [(pas_at p j).1, show pI false 1 0 = 0 from rfl, show pI false (p : Int) (-1) = -1 from rfl, show pI false (j : Int) (-1) = -1 from rfl]
            go_upto_region 9 with fail
            have E1 : Hid (Below W.heap.size W wr.drew ∧ Cel wr.drew g11 47 [.bool fs, .int .i64 fp]) := hid ⟨HQ.out.1.drew, HQ.out.2.on (Below.refl _ _).drew⟩
            clear HQ
            refine wp_region_held_drew (S := fun w => Cel w g11 47 [.bool fs, .int .i64 fp]) (by kernel_rfl) E1.out.2 (fun hHeld => ?_)
            refine tk 0 ⟨some 30, .move (.tmp 0), 65, "outright.go:196", #[], none⟩ (.pointer (some ⟨f.gm, 0, none⟩)) ?_
            simp only [Act.put, List.setIfInBounds_toArray, List.set_cons_zero, List.set_cons_succ]
            refine tk 1 ⟨some 31, .load 47 (.tmp 11), 47, "outright.go:196", #[], none⟩ (.agg #[.bool fs, .int .i64 fp]) ?_ (hy := Or.inl ⟨by rfl, by intro w hSw; have h0 := Cel.cell hSw 0; have h1 := Cel.cell hSw 1; simp only [List.getElem?_cons_zero, List.getElem?_cons_succ] at h0 h1; go_simp⟩)
            simp only [Act.put, List.setIfInBounds_toArray, List.set_cons_zero, List.set_cons_succ]
            refine tk 2 ⟨some 32, .move (.tmp 12), 3, "outright.go:196", #[], none⟩ (.int .i64 (j : Int)) ?_
            simp only [Act.put, List.setIfInBounds_toArray, List.set_cons_zero, List.set_cons_succ]
            refine tk 4 ⟨some 34, .move (.tmp 1), 65, "outright.go:196", #[], none⟩ (.pointer (some ⟨f'.gm, 0, none⟩)) ?_
            simp only [Act.put, List.setIfInBounds_toArray, List.set_cons_zero, List.set_cons_succ]
            refine tk 5 ⟨some 35, .load 47 (.tmp 11), 47, "outright.go:196", #[], none⟩ (.agg #[.bool fs, .int .i64 fp]) ?_ (hy := Or.inl ⟨by rfl, by intro w hSw; have h0 := Cel.cell hSw 0; have h1 := Cel.cell hSw 1; simp only [List.getElem?_cons_zero, List.getElem?_cons_succ] at h0 h1; go_simp⟩)
            simp only [Act.put, List.setIfInBounds_toArray, List.set_cons_zero, List.set_cons_succ]
            refine tk 6 ⟨some 36, .move (.tmp 12), 3, "outright.go:196", #[], none⟩ (.int .i64 (j : Int)) ?_
            simp only [Act.put, List.setIfInBounds_toArray, List.set_cons_zero, List.set_cons_succ]
            refine wpAnyH_ready (rs := [3]) (by kernel_rfl) (by simp) (AllReadyH.cons (o := ⟨some 33, .call { callee := .value (.func 61), args := #[.tmp 30, .tmp 31, .tmp 32], argTypes := #[65, 47, 3] }, 22, "outright.go:196", #[⟨0, .data⟩, ⟨1, .data⟩, ⟨2, .data⟩], none⟩) rfl (fun KQ hK => ?_) AllReadyH.nil)
            go_simp
            refine (HP1.out _ E1.out.1).mono ?_
            rintro y w5 ⟨rfl, hb⟩
            have E2 := hid (And.intro (below_on E1.out.1 hb) (E1.out.2.on hb))
            clear hb
            go_wp2_with fail
            refine hK.out _ _ E2.out.2 (fun hHeld => ?_)
            clear hK KQ
            try simp only [Act.put, List.setIfInBounds_toArray, List.set_cons_zero, List.set_cons_succ]
            refine wpAnyH_ready (rs := [7]) (by kernel_rfl) (by simp) (AllReadyH.cons (o := ⟨some 37, .call { callee := .value (.func 61), args := #[.tmp 34, .tmp 35, .tmp 36], argTypes := #[65, 47, 3] }, 22, "outright.go:196", #[⟨4, .data⟩, ⟨5, .data⟩, ⟨6, .data⟩, ⟨3, .chain⟩], none⟩) rfl (fun KQ hK => ?_) AllReadyH.nil)
            go_simp
            refine (HP2.out _ E2.out.1).mono ?_
            rintro y w6 ⟨rfl, hb⟩
            have E3 := hid (And.intro (below_on E2.out.1 hb) (E2.out.2.on hb))
            clear hb
            go_wp2_with fail
            refine hK.out _ _ E3.out.2 (fun hHeld => ?_)
            clear hK KQ
            try simp only [Act.put, List.setIfInBounds_toArray, List.set_cons_zero, List.set_cons_succ]
            refine tk 8 ⟨some 38, .binOp .neq 22 (.tmp 33) (.tmp 37) 22, 4, "outright.go:196", #[⟨3, .data⟩, ⟨7, .data⟩], none⟩ (.bool true) ?_ (hy := Or.inl ⟨by rfl, by intro w hSw; have hne := HNE.out; go_simp⟩)
            simp only [Act.put, List.setIfInBounds_toArray, List.set_cons_zero, List.set_cons_succ]
            refine wpAnyH_done (by kernel_rfl) ?_ _
            clear hHeld
            go_wp2_with fail
            go_roundw
            case measure => have := HJ.out; simp [intOf] <;> omega
            case rel => exact ⟨j + 1, HJ.out, by simp, by rw [(pas_at p j).2]; rfl, by rw [(pas_at p j).2]; rfl, by rw [(pas_at p j).2]; rfl, E3⟩
          · have HNE : Hid ((va != vb) = false) := hid (by have := HN.out.2 hit; simp [this])
            have HPn := hid (pas_no hit)
            clear hit HN HDp
            generalize pas B q o p j = pb at *
            go_upto_region 9 with fail
            have E1 : Hid (Below W.heap.size W wr.drew ∧ Cel wr.drew g11 47 [.bool fs, .int .i64 fp]) := hid ⟨HQ.out.1.drew, HQ.out.2.on (Below.refl _ _).drew⟩
            clear HQ
            refine wp_region_held_drew (S := fun w => Cel w g11 47 [.bool fs, .int .i64 fp]) (by kernel_rfl) E1.out.2 (fun hHeld => ?_)
            refine tk 0 ⟨some 30, .move (.tmp 0), 65, "outright.go:196", #[], none⟩ (.pointer (some ⟨f.gm, 0, none⟩)) ?_
            simp only [Act.put, List.setIfInBounds_toArray, List.set_cons_zero, List.set_cons_succ]
            refine tk 1 ⟨some 31, .load 47 (.tmp 11), 47, "outright.go:196", #[], none⟩ (.agg #[.bool fs, .int .i64 fp]) ?_ (hy := Or.inl ⟨by rfl, by intro w hSw; have h0 := Cel.cell hSw 0; have h1 := Cel.cell hSw 1; simp only [List.getElem?_cons_zero, List.getElem?_cons_succ] at h0 h1; go_simp⟩)
            simp only [Act.put, List.setIfInBounds_toArray, List.set_cons_zero, List.set_cons_succ]
            refine tk 2 ⟨some 32, .move (.tmp 12), 3, "outright.go:196", #[], none⟩ (.int .i64 (j : Int)) ?_
            simp only [Act.put, List.setIfInBounds_toArray, List.set_cons_zero, List.set_cons_succ]
            refine tk 4 ⟨some 34, .move (.tmp 1), 65, "outright.go:196", #[], none⟩ (.pointer (some ⟨f'.gm, 0, none⟩)) ?_
            simp only [Act.put, List.setIfInBounds_toArray, List.set_cons_zero, List.set_cons_succ]
            refine tk 5 ⟨some 35, .load 47 (.tmp 11), 47, "outright.go:196", #[], none⟩ (.agg #[.bool fs, .int .i64 fp]) ?_ (hy := Or.inl ⟨by rfl, by intro w hSw; have h0 := Cel.cell hSw 0; have h1 := Cel.cell hSw 1; simp only [List.getElem?_cons_zero, List.getElem?_cons_succ] at h0 h1; go_simp⟩)
            simp only [Act.put, List.setIfInBounds_toArray, List.set_cons_zero, List.set_cons_succ]
            refine tk 6 ⟨some 36, .move (.tmp 12), 3, "outright.go:196", #[], none⟩ (.int .i64 (j : Int)) ?_
            simp only [Act.put, List.setIfInBounds_toArray, List.set_cons_zero, List.set_cons_succ]
            refine wpAnyH_ready (rs := [3]) (by kernel_rfl) (by simp) (AllReadyH.cons (o := ⟨some 33, .call { callee := .value (.func 61), args := #[.tmp 30, .tmp 31, .tmp 32], argTypes := #[65, 47, 3] }, 22, "outright.go:196", #[⟨0, .data⟩, ⟨1, .data⟩, ⟨2, .data⟩], none⟩) rfl (fun KQ hK => ?_) AllReadyH.nil)
            go_simp
            refine (HP1.out _ E1.out.1).mono ?_
            rintro y w5 ⟨rfl, hb⟩
            have E2 := hid (And.intro (below_on E1.out.1 hb) (E1.out.2.on hb))
            clear hb
            go_wp2_with fail
            refine hK.out _ _ E2.out.2 (fun hHeld => ?_)
            clear hK KQ
            try simp only [Act.put, List.setIfInBounds_toArray, List.set_cons_zero, List.set_cons_succ]
            refine wpAnyH_ready (rs := [7]) (by kernel_rfl) (by simp) (AllReadyH.cons (o := ⟨some 37, .call { callee := .value (.func 61), args := #[.tmp 34, .tmp 35, .tmp 36], argTypes := #[65, 47, 3] }, 22, "outright.go:196", #[⟨4, .data⟩, ⟨5, .data⟩, ⟨6, .data⟩, ⟨3, .chain⟩], none⟩) rfl (fun KQ hK => ?_) AllReadyH.nil)
            go_simp
            refine (HP2.out _ E2.out.1).mono ?_
            rintro y w6 ⟨rfl, hb⟩
            have E3 := hid (And.intro (below_on E2.out.1 hb) (E2.out.2.on hb))
            clear hb
            go_wp2_with fail
            refine hK.out _ _ E3.out.2 (fun hHeld => ?_)
            clear hK KQ
            try simp only [Act.put, List.setIfInBounds_toArray, List.set_cons_zero, List.set_cons_succ]
            refine tk 8 ⟨some 38, .binOp .neq 22 (.tmp 33) (.tmp 37) 22, 4, "outright.go:196", #[⟨3, .data⟩, ⟨7, .data⟩], none⟩ (.bool false) ?_ (hy := Or.inl ⟨by rfl, by intro w hSw; have hne := HNE.out; go_simp⟩)
            simp only [Act.put, List.setIfInBounds_toArray, List.set_cons_zero, List.set_cons_succ]
            refine wpAnyH_done (by kernel_rfl) ?_ _
            clear hHeld
            go_wp2_with fail
            go_roundw
            case measure => have := HJ.out; simp [intOf] <;> omega
            case rel => exact ⟨j + 1, HJ.out, by simp, by rw [HPn.out], by rw [HPn.out], by rw [HPn.out], E3⟩
        · have hjn : j = 1024 := by omega
          subst hjn
          have HPe := hid (pas_end B q o p ho)
          generalize pas B q o p 1024 = pb at *
          go_wp2_with fail
          go_roundw
          case measure => have := HLt.out; simp [intOf] <;> omega
          case rel => exact ⟨p + 1, HLt.out, by simp, by rw [HPe.out], by rw [HPe.out], by rw [HPe.out], hid HQ.out.1⟩
    · have hpn : p = 12 := by omega
      subst hpn
      have T0 : Hid True := hid trivial
      go_wp2_with (first | (go_at_call 58; refine (HSe.out _ HB.out).mono ?_; rintro y w1 ⟨rfl, rfl⟩) | (go_at_call 59; refine (HIn.out _ HB.out).mono ?_; rintro y w1 ⟨rfl, rfl⟩))
      exact bodyPost_ret (v := .tuple #[.int .i64 (pI (pas B q o 12 0) 1 0), .int .i64 (pI (pas B q o 12 0) (q : Int) (-1)), .int .i64 (pI (pas B q o 12 0) (o : Int) (-1))]) (by simp [results, Try.results26, go_sem]) rfl ⟨by rw [pas_all B q o hq], HB.out⟩
end Go.Proofs.Ytgbpbfnpeeciaaa
