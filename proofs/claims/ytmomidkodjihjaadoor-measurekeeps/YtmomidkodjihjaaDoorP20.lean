import Derived.Test.YtmomidkodjihjaaDoorP19
import Derived.Test.YtmomidkodjihjaaDoorP01
namespace Go.Proofs.YtmomidkodjihjaaDoor
open Go.RowKit
open H
set_option maxHeartbeats 4000000
set_option maxRecDepth 100000
theorem equal_any (W : World) (ao bo : Option Addr) (n m c d : Nat) (xs ys : List Int) (hx : xs.length = n) (hy : ys.length = m) (ha : At W .u32 ao xs) (hb : At W .u32 bo ys) (hn : n ≤ 4611686018427387904) :
    Calls Tryd.prog 63 #[.slice ao n c, .slice bo m d] W fun e W' => e = .returned (.bool (decide (xs = ys))) ∧ Below W.heap.size W W' := by
  by_cases hnm : n = m
  · subst hnm
    have HF : Hid ((∀ k, k < n → xs.getD k 0 = ys.getD k 0) → xs = ys) := hid (fun h => List.ext_getElem (hx.trans hy.symm) (fun i h1 h2 => by
      have := h i (by omega)
      simpa [List.getD_eq_getElem?_getD, h1, h2] using this))
    have HX := hid hx
    have HY := hid hy
    have HA := hid ha
    have HB := hid hb
    have q0 : (n : Int) ≤ 4611686018427387904 := by omega
    obtain ⟨r, hr⟩ : ∃ r, r = decide (xs = ys) := ⟨_, rfl⟩
    have HR := hid hr
    rw [← hr]
    clear hx hy ha hb hn hr
    go_enter Tryd.func63, Tryd.ntmps63
    go_wp2_with fail
    go_loopw [13] (fun i wr => ∃ k : Nat, k ≤ n ∧ i = .int .i64 (k : Int) ∧ Hid (Below W.heap.size W wr ∧ ∀ j, j < k → xs.getD j 0 = ys.getD j 0)) (fun i _ => n - (intOf i).toNat)
    case atStart => exact ⟨0, Nat.zero_le _, rfl, hid ⟨Below.refl _ _, by intro j hj; omega⟩⟩
    case round =>
      obtain ⟨k, hk, rfl, HQ⟩ := hrel
      by_cases hlt : k < n
      · obtain ⟨b1, o1, rfl, g1, r1⟩ : ∃ b off, ao = some ⟨b, off, none⟩ ∧ b < W.heap.size ∧ Row W .u32 b off xs := HA.out.resolve_left (by intro e; have := HX.out; rw [e] at this; simp at this; omega)
        obtain ⟨b2, o2, rfl, g2, r2⟩ : ∃ b off, bo = some ⟨b, off, none⟩ ∧ b < W.heap.size ∧ Row W .u32 b off ys := HB.out.resolve_left (by intro e; have := HY.out; rw [e] at this; simp at this; omega)
        have HC : Hid (∀ w, Below W.heap.size W w → w.cell? ⟨b1, o1 + k, none⟩ = some (.int .u32 (xs.getD k 0)) ∧ w.cell? ⟨b2, o2 + k, none⟩ = some (.int .u32 (ys.getD k 0))) := hid (fun w hw => ⟨(r1.below hw g1) k (by rw [HX.out]; exact hlt), (r2.below hw g2) k (by rw [HY.out]; exact hlt)⟩)
        have q1 : (k : Int) < (n : Int) := by omega
        have q2 : (0 : Int) ≤ (k : Int) := by omega
        have HK := hid hlt
        obtain ⟨x, hx⟩ : ∃ x, xs.getD k 0 = x := ⟨_, rfl⟩
        obtain ⟨y, hy⟩ : ∃ y, ys.getD k 0 = y := ⟨_, rfl⟩
        rw [hx, hy] at HC
        have HE : Hid (xs.getD k 0 = x ∧ ys.getD k 0 = y) := hid ⟨hx, hy⟩
        clear hx hy g1 r1 g2 r2 hlt hk
        go_upto_region 6 with fail
        have X0 := hid HQ.out.1.drew
        by_cases he : x = y
        · subst he
          refine wp_region_held_drew (S := fun w => Below W.heap.size W w) (by kernel_rfl) X0.out (fun hHeld => ?_)
          generalize World.drew _ = w0 at *
          refine tk 0 ⟨some 16, .move (.tmp 0), 22, "slices.go:25", #[], none⟩ (.slice (some ⟨b1, o1, none⟩) n c) ?_
          simp only [Act.put, List.setIfInBounds_toArray, List.set_cons_zero, List.set_cons_succ]
          refine tk 1 ⟨some 17, .move (.tmp 5), 3, "slices.go:25", #[], none⟩ (.int .i64 (k : Int)) ?_
          simp only [Act.put, List.setIfInBounds_toArray, List.set_cons_zero, List.set_cons_succ]
          refine tk 2 ⟨some 18, .indexAddr 22 (.tmp 16) (.tmp 17), 0, "slices.go:25", #[⟨0, .data⟩, ⟨1, .data⟩], none⟩ (.pointer (some ⟨b1, o1 + k, none⟩)) ?_
          simp only [Act.put, List.setIfInBounds_toArray, List.set_cons_zero, List.set_cons_succ]
          refine tk 3 ⟨some 19, .load 24 (.tmp 18), 24, "slices.go:25", #[⟨2, .data⟩], none⟩ (.int .u32 x) ?_ (hy := Or.inl ⟨by rfl, by intro w hSw; have hc := (HC.out w hSw).1; go_simp⟩)
          simp only [Act.put, List.setIfInBounds_toArray, List.set_cons_zero, List.set_cons_succ]
          refine tk 4 ⟨some 20, .move (.tmp 1), 22, "slices.go:25", #[], none⟩ (.slice (some ⟨b2, o2, none⟩) n d) ?_
          simp only [Act.put, List.setIfInBounds_toArray, List.set_cons_zero, List.set_cons_succ]
          refine tk 5 ⟨some 21, .move (.tmp 5), 3, "slices.go:25", #[], none⟩ (.int .i64 (k : Int)) ?_
          simp only [Act.put, List.setIfInBounds_toArray, List.set_cons_zero, List.set_cons_succ]
          refine tk 6 ⟨some 22, .indexAddr 22 (.tmp 20) (.tmp 21), 0, "slices.go:25", #[⟨4, .data⟩, ⟨5, .data⟩], none⟩ (.pointer (some ⟨b2, o2 + k, none⟩)) ?_
          simp only [Act.put, List.setIfInBounds_toArray, List.set_cons_zero, List.set_cons_succ]
          refine tk 7 ⟨some 23, .load 24 (.tmp 22), 24, "slices.go:25", #[⟨6, .data⟩], none⟩ (.int .u32 x) ?_ (hy := Or.inl ⟨by rfl, by intro w hSw; have hc := (HC.out w hSw).2; go_simp⟩)
          simp only [Act.put, List.setIfInBounds_toArray, List.set_cons_zero, List.set_cons_succ]
          refine tk 8 ⟨some 24, .binOp .neq 24 (.tmp 19) (.tmp 23) 24, 4, "slices.go:25", #[⟨3, .data⟩, ⟨7, .data⟩], none⟩ (.bool false) ?_
          simp only [Act.put, List.setIfInBounds_toArray, List.set_cons_zero, List.set_cons_succ]
          refine wpAnyH_done (by kernel_rfl) ?_ _
          go_wp2_with fail
          go_roundw
          case measure => have := HK.out; simp [intOf] <;> omega
          case rel => exact ⟨k + 1, HK.out, by simp, hid ⟨X0.out, fun j hj => by
            by_cases e : j = k
            · rw [e, HE.out.1, HE.out.2]
            · exact HQ.out.2 j (by omega)⟩⟩
        · have hne : (x != y) = true := by simpa using he
          have HN : Hid (r = false) := hid (by rw [HR.out]; exact decide_eq_false (fun e => he (by rw [← HE.out.1, ← HE.out.2, e])))
          clear he
          refine wp_region_held_drew (S := fun w => Below W.heap.size W w) (by kernel_rfl) X0.out (fun hHeld => ?_)
          generalize World.drew _ = w0 at *
          refine tk 0 ⟨some 16, .move (.tmp 0), 22, "slices.go:25", #[], none⟩ (.slice (some ⟨b1, o1, none⟩) n c) ?_
          simp only [Act.put, List.setIfInBounds_toArray, List.set_cons_zero, List.set_cons_succ]
          refine tk 1 ⟨some 17, .move (.tmp 5), 3, "slices.go:25", #[], none⟩ (.int .i64 (k : Int)) ?_
          simp only [Act.put, List.setIfInBounds_toArray, List.set_cons_zero, List.set_cons_succ]
          refine tk 2 ⟨some 18, .indexAddr 22 (.tmp 16) (.tmp 17), 0, "slices.go:25", #[⟨0, .data⟩, ⟨1, .data⟩], none⟩ (.pointer (some ⟨b1, o1 + k, none⟩)) ?_
          simp only [Act.put, List.setIfInBounds_toArray, List.set_cons_zero, List.set_cons_succ]
          refine tk 3 ⟨some 19, .load 24 (.tmp 18), 24, "slices.go:25", #[⟨2, .data⟩], none⟩ (.int .u32 x) ?_ (hy := Or.inl ⟨by rfl, by intro w hSw; have hc := (HC.out w hSw).1; go_simp⟩)
          simp only [Act.put, List.setIfInBounds_toArray, List.set_cons_zero, List.set_cons_succ]
          refine tk 4 ⟨some 20, .move (.tmp 1), 22, "slices.go:25", #[], none⟩ (.slice (some ⟨b2, o2, none⟩) n d) ?_
          simp only [Act.put, List.setIfInBounds_toArray, List.set_cons_zero, List.set_cons_succ]
          refine tk 5 ⟨some 21, .move (.tmp 5), 3, "slices.go:25", #[], none⟩ (.int .i64 (k : Int)) ?_
          simp only [Act.put, List.setIfInBounds_toArray, List.set_cons_zero, List.set_cons_succ]
          refine tk 6 ⟨some 22, .indexAddr 22 (.tmp 20) (.tmp 21), 0, "slices.go:25", #[⟨4, .data⟩, ⟨5, .data⟩], none⟩ (.pointer (some ⟨b2, o2 + k, none⟩)) ?_
          simp only [Act.put, List.setIfInBounds_toArray, List.set_cons_zero, List.set_cons_succ]
          refine tk 7 ⟨some 23, .load 24 (.tmp 22), 24, "slices.go:25", #[⟨6, .data⟩], none⟩ (.int .u32 y) ?_ (hy := Or.inl ⟨by rfl, by intro w hSw; have hc := (HC.out w hSw).2; go_simp⟩)
          simp only [Act.put, List.setIfInBounds_toArray, List.set_cons_zero, List.set_cons_succ]
          refine tk 8 ⟨some 24, .binOp .neq 24 (.tmp 19) (.tmp 23) 24, 4, "slices.go:25", #[⟨3, .data⟩, ⟨7, .data⟩], none⟩ (.bool true) ?_
          simp only [Act.put, List.setIfInBounds_toArray, List.set_cons_zero, List.set_cons_succ]
          refine wpAnyH_done (by kernel_rfl) ?_ _
          go_wp2_with fail
          go_ret
          exact ⟨by rw [HN.out]; rfl, X0.out⟩
      · obtain rfl : k = n := by omega
        have HN : Hid (r = true) := hid (by rw [HR.out]; exact decide_eq_true (HF.out HQ.out.2))
        clear hlt hk
        go_wp2_with fail
        go_ret
        exact ⟨by rw [HN.out]; rfl, HQ.out.1⟩
  · have hne : ((n : Int) != (m : Int)) = true := by rw [bne_iff_ne]; omega
    have hF : decide (xs = ys) = false := decide_eq_false (fun e => hnm (by rw [← hx, ← hy, e]))
    rw [hF]
    clear hF hnm ha hb hx hy hn
    go_enter Tryd.func63, Tryd.ntmps63
    go_wp2_with fail
    go_ret
    exact ⟨rfl, Below.refl _ _⟩
theorem alike_any (W : World) (ao bo : Option Addr) (n m c d : Nat) (l l' : List Ov) (hx : l.length = n) (hy : l'.length = m) (ha : OL W ao l) (hb : OL W bo l') (hn : n ≤ 4611686018427387904) (hws : ∀ x ∈ l, x.o.ws.length ≤ 4611686018427387904) (r : Bool) (hr : r = true ↔ l.map Ov.o = l'.map Ov.o) :
    Calls Tryd.prog 19 #[.slice ao n c, .slice bo m d] W fun e W' => e = .returned (.bool r) ∧ Below W.heap.size W W' := by
  by_cases hnm : n = m
  · subst hnm
    have HF : Hid ((∀ (k : Nat) (x y : Ov), k < n → l[k]? = some x → l'[k]? = some y → x.o = y.o) → r = true) := hid (fun h => hr.2 (List.ext_getElem (by rw [List.length_map, List.length_map, hx, hy]) (fun i h1 h2 => by
      rw [List.length_map] at h1 h2
      rw [List.getElem_map, List.getElem_map]
      exact h i _ _ (by omega) (List.getElem?_eq_getElem h1) (List.getElem?_eq_getElem h2))))
    have HNo : Hid (∀ (k : Nat) (x y : Ov), l[k]? = some x → l'[k]? = some y → x.o ≠ y.o → r = false) := hid (fun k x y h1 h2 h3 => by
      cases r with
      | false => rfl
      | true =>
        have h4 := congrArg (fun q => q[k]?) (hr.1 rfl)
        simp only [List.getElem?_map, h1, h2, Option.map_some, Option.some.injEq] at h4
        exact absurd h4 h3)
    have HX := hid (And.intro hx hy)
    have HA := hid ha
    have HB := hid hb
    have HWS := hid hws
    have q0 : (n : Int) ≤ 4611686018427387904 := by omega
    clear hx hy ha hb hn hr hws
    go_enter Tryd.func19, Tryd.ntmps19
    go_wp2_with fail
    go_loopw [5] (fun i wr => ∃ k : Nat, k ≤ n ∧ i = .int .i64 (k : Int) ∧ Hid (Below W.heap.size W wr ∧ ∀ (j : Nat) (x y : Ov), j < k → l[j]? = some x → l'[j]? = some y → x.o = y.o)) (fun i _ => n - (intOf i).toNat)
    case atStart => exact ⟨0, Nat.zero_le _, rfl, hid ⟨Below.refl _ _, by intro j x y hj; omega⟩⟩
    case round =>
      obtain ⟨k, hk, rfl, HQ⟩ := hrel
      by_cases hlt : k < n
      · obtain ⟨x, ex⟩ : ∃ x, l[k]? = some x := ⟨l[k]'(by rw [HX.out.1]; exact hlt), List.getElem?_eq_getElem _⟩
        obtain ⟨y, ey⟩ : ∃ y, l'[k]? = some y := ⟨l'[k]'(by rw [HX.out.2]; exact hlt), List.getElem?_eq_getElem _⟩
        obtain ⟨b1, o1, rfl, g1⟩ := HA.out.at ex
        obtain ⟨b2, o2, rfl, g2⟩ := HB.out.at ey
        have G1 := hid g1
        have G2 := hid g2
        have HE := hid (And.intro ex ey)
        have HWx : Hid (At W .u32 x.p x.o.ws ∧ At W .u32 y.p y.o.ws ∧ x.o.ws.length ≤ 4611686018427387904) := hid ⟨HA.out.ws x (List.mem_of_getElem? ex), HB.out.ws y (List.mem_of_getElem? ey), HWS.out x (List.mem_of_getElem? ex)⟩
        have q1 : (k : Int) < (n : Int) := by omega
        have q2 : (0 : Int) ≤ (k : Int) := by omega
        have HK := hid hlt
        have HS := hid (fun w (hw : Below W.heap.size W w) => same_any w x.p y.p x.o.ws.length y.o.ws.length x.c y.c x.o.ws y.o.ws rfl rfl (HWx.out.1.below hw) (HWx.out.2.1.below hw) HWx.out.2.2)
        have HNk := hid (HNo.out k x y ex ey)
        clear ex ey g1 g2 hlt hk
        obtain ⟨⟨xk, xa, xw⟩, xp, xc⟩ := x
        obtain ⟨⟨yk, ya, yw⟩, yp, yc⟩ := y
        simp only at G1 G2 HS HNk
        go_upto_region 6 with fail
        have X0 := hid HQ.out.1.drew
        by_cases hkk : xk = yk
        · subst hkk
          by_cases haa : xa = ya
          · subst haa
            by_cases hww : xw = yw
            · rw [decide_eq_true hww] at HS
              have HEQ := hid hww
              clear hww
              refine wp_region_held_drew (S := fun w => Below W.heap.size W w) (by kernel_rfl) X0.out (fun hHeld => ?_)
              generalize World.drew _ = w0 at *
              refine tk 0 ⟨some 17, .move (.tmp 0), 25, "outright.go:37", #[], none⟩ (.slice (some ⟨b1, o1, none⟩) n c) ?_
              simp only [Act.put, List.setIfInBounds_toArray, List.set_cons_zero, List.set_cons_succ]
              refine tk 1 ⟨some 18, .move (.tmp 5), 3, "outright.go:37", #[], none⟩ (.int .i64 (k : Int)) ?_
              simp only [Act.put, List.setIfInBounds_toArray, List.set_cons_zero, List.set_cons_succ]
              refine tk 2 ⟨some 19, .indexAddr 25 (.tmp 17) (.tmp 18), 0, "outright.go:37", #[⟨0, .data⟩, ⟨1, .data⟩], none⟩ (.pointer (some ⟨b1, o1 + k * 3, none⟩)) ?_
              simp only [Act.put, List.setIfInBounds_toArray, List.set_cons_zero, List.set_cons_succ]
              refine tk 3 ⟨some 20, .fieldAddr 43 (.tmp 19) 0, 0, "outright.go:37", #[⟨2, .data⟩], none⟩ (.pointer (some ⟨b1, o1 + k * 3, none⟩)) ?_
              simp only [Act.put, List.setIfInBounds_toArray, List.set_cons_zero, List.set_cons_succ]
              refine tk 4 ⟨some 21, .load 41 (.tmp 20), 41, "outright.go:37", #[⟨3, .data⟩], none⟩ (.int .i64 xk) ?_ (hy := Or.inl ⟨by rfl, by intro w hSw; have hc := (G1.out w hSw).1; go_simp⟩)
              simp only [Act.put, List.setIfInBounds_toArray, List.set_cons_zero, List.set_cons_succ]
              refine tk 5 ⟨some 22, .move (.tmp 1), 25, "outright.go:37", #[], none⟩ (.slice (some ⟨b2, o2, none⟩) n d) ?_
              simp only [Act.put, List.setIfInBounds_toArray, List.set_cons_zero, List.set_cons_succ]
              refine tk 6 ⟨some 23, .move (.tmp 5), 3, "outright.go:37", #[], none⟩ (.int .i64 (k : Int)) ?_
              simp only [Act.put, List.setIfInBounds_toArray, List.set_cons_zero, List.set_cons_succ]
              refine tk 7 ⟨some 24, .indexAddr 25 (.tmp 22) (.tmp 23), 0, "outright.go:37", #[⟨5, .data⟩, ⟨6, .data⟩], none⟩ (.pointer (some ⟨b2, o2 + k * 3, none⟩)) ?_
              simp only [Act.put, List.setIfInBounds_toArray, List.set_cons_zero, List.set_cons_succ]
              refine tk 8 ⟨some 25, .fieldAddr 43 (.tmp 24) 0, 0, "outright.go:37", #[⟨7, .data⟩], none⟩ (.pointer (some ⟨b2, o2 + k * 3, none⟩)) ?_
              simp only [Act.put, List.setIfInBounds_toArray, List.set_cons_zero, List.set_cons_succ]
              refine tk 9 ⟨some 26, .load 41 (.tmp 25), 41, "outright.go:37", #[⟨8, .data⟩], none⟩ (.int .i64 xk) ?_ (hy := Or.inl ⟨by rfl, by intro w hSw; have hc := (G2.out w hSw).1; go_simp⟩)
              simp only [Act.put, List.setIfInBounds_toArray, List.set_cons_zero, List.set_cons_succ]
              refine tk 10 ⟨some 27, .binOp .neq 41 (.tmp 21) (.tmp 26) 41, 4, "outright.go:37", #[⟨4, .data⟩, ⟨9, .data⟩], none⟩ (.bool false) ?_
              simp only [Act.put, List.setIfInBounds_toArray, List.set_cons_zero, List.set_cons_succ]
              refine tk 11 ⟨some 28, .move (.tmp 27), 4, "outright.go:37", #[⟨10, .data⟩], none⟩ (.bool false) ?_
              simp only [Act.put, List.setIfInBounds_toArray, List.set_cons_zero, List.set_cons_succ]
              refine tk 12 ⟨some 29, .move (.tmp 0), 25, "outright.go:37", #[⟨11, .guard⟩], some (11, false)⟩ (.slice (some ⟨b1, o1, none⟩) n c) ?_
              simp only [Act.put, List.setIfInBounds_toArray, List.set_cons_zero, List.set_cons_succ]
              refine tk 13 ⟨some 30, .move (.tmp 5), 3, "outright.go:37", #[⟨11, .guard⟩], some (11, false)⟩ (.int .i64 (k : Int)) ?_
              simp only [Act.put, List.setIfInBounds_toArray, List.set_cons_zero, List.set_cons_succ]
              refine tk 14 ⟨some 31, .indexAddr 25 (.tmp 29) (.tmp 30), 0, "outright.go:37", #[⟨12, .data⟩, ⟨13, .data⟩, ⟨11, .guard⟩], some (11, false)⟩ (.pointer (some ⟨b1, o1 + k * 3, none⟩)) ?_
              simp only [Act.put, List.setIfInBounds_toArray, List.set_cons_zero, List.set_cons_succ]
              refine tk 15 ⟨some 32, .fieldAddr 43 (.tmp 31) 1, 0, "outright.go:37", #[⟨14, .data⟩, ⟨11, .guard⟩], some (11, false)⟩ (.pointer (some ⟨b1, o1 + k * 3 + 1, none⟩)) ?_
              simp only [Act.put, List.setIfInBounds_toArray, List.set_cons_zero, List.set_cons_succ]
              refine tk 16 ⟨some 33, .load 24 (.tmp 32), 24, "outright.go:37", #[⟨15, .data⟩, ⟨11, .guard⟩], some (11, false)⟩ (.int .u32 xa) ?_ (hy := Or.inl ⟨by rfl, by intro w hSw; have hc := (G1.out w hSw).2.1; go_simp⟩)
              simp only [Act.put, List.setIfInBounds_toArray, List.set_cons_zero, List.set_cons_succ]
              refine tk 17 ⟨some 34, .move (.tmp 1), 25, "outright.go:37", #[⟨11, .guard⟩], some (11, false)⟩ (.slice (some ⟨b2, o2, none⟩) n d) ?_
              simp only [Act.put, List.setIfInBounds_toArray, List.set_cons_zero, List.set_cons_succ]
              refine tk 18 ⟨some 35, .move (.tmp 5), 3, "outright.go:37", #[⟨11, .guard⟩], some (11, false)⟩ (.int .i64 (k : Int)) ?_
              simp only [Act.put, List.setIfInBounds_toArray, List.set_cons_zero, List.set_cons_succ]
              refine tk 19 ⟨some 36, .indexAddr 25 (.tmp 34) (.tmp 35), 0, "outright.go:37", #[⟨17, .data⟩, ⟨18, .data⟩, ⟨11, .guard⟩], some (11, false)⟩ (.pointer (some ⟨b2, o2 + k * 3, none⟩)) ?_
              simp only [Act.put, List.setIfInBounds_toArray, List.set_cons_zero, List.set_cons_succ]
              refine tk 20 ⟨some 37, .fieldAddr 43 (.tmp 36) 1, 0, "outright.go:37", #[⟨19, .data⟩, ⟨11, .guard⟩], some (11, false)⟩ (.pointer (some ⟨b2, o2 + k * 3 + 1, none⟩)) ?_
              simp only [Act.put, List.setIfInBounds_toArray, List.set_cons_zero, List.set_cons_succ]
              refine tk 21 ⟨some 38, .load 24 (.tmp 37), 24, "outright.go:37", #[⟨20, .data⟩, ⟨11, .guard⟩], some (11, false)⟩ (.int .u32 xa) ?_ (hy := Or.inl ⟨by rfl, by intro w hSw; have hc := (G2.out w hSw).2.1; go_simp⟩)
              simp only [Act.put, List.setIfInBounds_toArray, List.set_cons_zero, List.set_cons_succ]
              refine tk 22 ⟨some 39, .binOp .neq 24 (.tmp 33) (.tmp 38) 24, 4, "outright.go:37", #[⟨16, .data⟩, ⟨21, .data⟩, ⟨11, .guard⟩], some (11, false)⟩ (.bool false) ?_
              simp only [Act.put, List.setIfInBounds_toArray, List.set_cons_zero, List.set_cons_succ]
              refine tk 23 ⟨some 40, .pick (.tmp 28) (.const (.bool true)) (.tmp 39), 4, "outright.go:37", #[⟨11, .data⟩, ⟨22, .data⟩], none⟩ (.bool false) ?_
              simp only [Act.put, List.setIfInBounds_toArray, List.set_cons_zero, List.set_cons_succ]
              refine tk 24 ⟨some 41, .move (.tmp 40), 4, "outright.go:37", #[⟨23, .data⟩, ⟨11, .chain⟩], none⟩ (.bool false) ?_
              simp only [Act.put, List.setIfInBounds_toArray, List.set_cons_zero, List.set_cons_succ]
              refine tk 25 ⟨some 42, .move (.tmp 0), 25, "outright.go:37", #[⟨24, .guard⟩], some (24, false)⟩ (.slice (some ⟨b1, o1, none⟩) n c) ?_
              simp only [Act.put, List.setIfInBounds_toArray, List.set_cons_zero, List.set_cons_succ]
              refine tk 26 ⟨some 43, .move (.tmp 5), 3, "outright.go:37", #[⟨24, .guard⟩], some (24, false)⟩ (.int .i64 (k : Int)) ?_
              simp only [Act.put, List.setIfInBounds_toArray, List.set_cons_zero, List.set_cons_succ]
              refine tk 27 ⟨some 44, .indexAddr 25 (.tmp 42) (.tmp 43), 0, "outright.go:37", #[⟨25, .data⟩, ⟨26, .data⟩, ⟨24, .guard⟩], some (24, false)⟩ (.pointer (some ⟨b1, o1 + k * 3, none⟩)) ?_
              simp only [Act.put, List.setIfInBounds_toArray, List.set_cons_zero, List.set_cons_succ]
              refine tk 28 ⟨some 45, .fieldAddr 43 (.tmp 44) 2, 0, "outright.go:37", #[⟨27, .data⟩, ⟨24, .guard⟩], some (24, false)⟩ (.pointer (some ⟨b1, o1 + k * 3 + 2, none⟩)) ?_
              simp only [Act.put, List.setIfInBounds_toArray, List.set_cons_zero, List.set_cons_succ]
              refine tk 29 ⟨some 46, .load 22 (.tmp 45), 22, "outright.go:37", #[⟨28, .data⟩, ⟨24, .guard⟩], some (24, false)⟩ (.slice xp xw.length xc) ?_ (hy := Or.inl ⟨by rfl, by intro w hSw; have hc := (G1.out w hSw).2.2; go_simp⟩)
              simp only [Act.put, List.setIfInBounds_toArray, List.set_cons_zero, List.set_cons_succ]
              refine tk 30 ⟨some 47, .move (.tmp 1), 25, "outright.go:37", #[⟨24, .guard⟩], some (24, false)⟩ (.slice (some ⟨b2, o2, none⟩) n d) ?_
              simp only [Act.put, List.setIfInBounds_toArray, List.set_cons_zero, List.set_cons_succ]
              refine tk 31 ⟨some 48, .move (.tmp 5), 3, "outright.go:37", #[⟨24, .guard⟩], some (24, false)⟩ (.int .i64 (k : Int)) ?_
              simp only [Act.put, List.setIfInBounds_toArray, List.set_cons_zero, List.set_cons_succ]
              refine tk 32 ⟨some 49, .indexAddr 25 (.tmp 47) (.tmp 48), 0, "outright.go:37", #[⟨30, .data⟩, ⟨31, .data⟩, ⟨24, .guard⟩], some (24, false)⟩ (.pointer (some ⟨b2, o2 + k * 3, none⟩)) ?_
              simp only [Act.put, List.setIfInBounds_toArray, List.set_cons_zero, List.set_cons_succ]
              refine tk 33 ⟨some 50, .fieldAddr 43 (.tmp 49) 2, 0, "outright.go:37", #[⟨32, .data⟩, ⟨24, .guard⟩], some (24, false)⟩ (.pointer (some ⟨b2, o2 + k * 3 + 2, none⟩)) ?_
              simp only [Act.put, List.setIfInBounds_toArray, List.set_cons_zero, List.set_cons_succ]
              refine tk 34 ⟨some 51, .load 22 (.tmp 50), 22, "outright.go:37", #[⟨33, .data⟩, ⟨24, .guard⟩], some (24, false)⟩ (.slice yp yw.length yc) ?_ (hy := Or.inl ⟨by rfl, by intro w hSw; have hc := (G2.out w hSw).2.2; go_simp⟩)
              simp only [Act.put, List.setIfInBounds_toArray, List.set_cons_zero, List.set_cons_succ]
              refine wpAnyH_ready (rs := [35]) (by kernel_rfl) (by simp) (AllReadyH.cons (o := ⟨some 52, .call { callee := .value (.func 11), args := #[.tmp 46, .tmp 51], argTypes := #[22, 22] }, 4, "outright.go:37", #[⟨29, .data⟩, ⟨34, .data⟩, ⟨24, .chain⟩, ⟨24, .guard⟩], some (24, false)⟩) rfl (fun KQ hK => ?_) AllReadyH.nil)
              go_simp
              refine (HS.out _ X0.out).mono ?_
              rintro e w1 ⟨rfl, hb1⟩
              have X1 := hid (below_on X0.out hb1)
              clear hb1
              go_wp2_with fail
              refine hK.out _ _ X1.out (fun hHeld => ?_)
              clear hK KQ
              try simp only [Act.put, List.setIfInBounds_toArray, List.set_cons_zero, List.set_cons_succ]
              refine tk 36 ⟨some 53, .unOp .not 4 (.tmp 52), 4, "outright.go:37", #[⟨35, .data⟩, ⟨24, .guard⟩], some (24, false)⟩ (.bool false) ?_
              simp only [Act.put, List.setIfInBounds_toArray, List.set_cons_zero, List.set_cons_succ]
              refine tk 37 ⟨some 54, .pick (.tmp 41) (.const (.bool true)) (.tmp 53), 4, "outright.go:37", #[⟨24, .data⟩, ⟨36, .data⟩], none⟩ (.bool false) ?_
              simp only [Act.put, List.setIfInBounds_toArray, List.set_cons_zero, List.set_cons_succ]
              refine wpAnyH_done (by kernel_rfl) ?_ _
              go_wp2_with fail
              go_roundw
              case measure => have := HK.out; simp [intOf] <;> omega
              case rel => exact ⟨k + 1, HK.out, by simp, hid ⟨X1.out, fun j u v hj hu hv => by
                by_cases e : j = k
                · subst e
                  rw [HE.out.1] at hu
                  rw [HE.out.2] at hv
                  cases hu
                  cases hv
                  exact MOp.ext' rfl rfl HEQ.out
                · exact HQ.out.2 j u v (by omega) hu hv⟩⟩
            · rw [decide_eq_false hww] at HS
              have HN : Hid (r = false) := hid (HNk.out (fun e => hww (congrArg MOp.ws e)))
              clear hww
              refine wp_region_held_drew (S := fun w => Below W.heap.size W w) (by kernel_rfl) X0.out (fun hHeld => ?_)
              generalize World.drew _ = w0 at *
              refine tk 0 ⟨some 17, .move (.tmp 0), 25, "outright.go:37", #[], none⟩ (.slice (some ⟨b1, o1, none⟩) n c) ?_
              simp only [Act.put, List.setIfInBounds_toArray, List.set_cons_zero, List.set_cons_succ]
              refine tk 1 ⟨some 18, .move (.tmp 5), 3, "outright.go:37", #[], none⟩ (.int .i64 (k : Int)) ?_
              simp only [Act.put, List.setIfInBounds_toArray, List.set_cons_zero, List.set_cons_succ]
              refine tk 2 ⟨some 19, .indexAddr 25 (.tmp 17) (.tmp 18), 0, "outright.go:37", #[⟨0, .data⟩, ⟨1, .data⟩], none⟩ (.pointer (some ⟨b1, o1 + k * 3, none⟩)) ?_
              simp only [Act.put, List.setIfInBounds_toArray, List.set_cons_zero, List.set_cons_succ]
              refine tk 3 ⟨some 20, .fieldAddr 43 (.tmp 19) 0, 0, "outright.go:37", #[⟨2, .data⟩], none⟩ (.pointer (some ⟨b1, o1 + k * 3, none⟩)) ?_
              simp only [Act.put, List.setIfInBounds_toArray, List.set_cons_zero, List.set_cons_succ]
              refine tk 4 ⟨some 21, .load 41 (.tmp 20), 41, "outright.go:37", #[⟨3, .data⟩], none⟩ (.int .i64 xk) ?_ (hy := Or.inl ⟨by rfl, by intro w hSw; have hc := (G1.out w hSw).1; go_simp⟩)
              simp only [Act.put, List.setIfInBounds_toArray, List.set_cons_zero, List.set_cons_succ]
              refine tk 5 ⟨some 22, .move (.tmp 1), 25, "outright.go:37", #[], none⟩ (.slice (some ⟨b2, o2, none⟩) n d) ?_
              simp only [Act.put, List.setIfInBounds_toArray, List.set_cons_zero, List.set_cons_succ]
              refine tk 6 ⟨some 23, .move (.tmp 5), 3, "outright.go:37", #[], none⟩ (.int .i64 (k : Int)) ?_
              simp only [Act.put, List.setIfInBounds_toArray, List.set_cons_zero, List.set_cons_succ]
              refine tk 7 ⟨some 24, .indexAddr 25 (.tmp 22) (.tmp 23), 0, "outright.go:37", #[⟨5, .data⟩, ⟨6, .data⟩], none⟩ (.pointer (some ⟨b2, o2 + k * 3, none⟩)) ?_
              simp only [Act.put, List.setIfInBounds_toArray, List.set_cons_zero, List.set_cons_succ]
              refine tk 8 ⟨some 25, .fieldAddr 43 (.tmp 24) 0, 0, "outright.go:37", #[⟨7, .data⟩], none⟩ (.pointer (some ⟨b2, o2 + k * 3, none⟩)) ?_
              simp only [Act.put, List.setIfInBounds_toArray, List.set_cons_zero, List.set_cons_succ]
              refine tk 9 ⟨some 26, .load 41 (.tmp 25), 41, "outright.go:37", #[⟨8, .data⟩], none⟩ (.int .i64 xk) ?_ (hy := Or.inl ⟨by rfl, by intro w hSw; have hc := (G2.out w hSw).1; go_simp⟩)
              simp only [Act.put, List.setIfInBounds_toArray, List.set_cons_zero, List.set_cons_succ]
              refine tk 10 ⟨some 27, .binOp .neq 41 (.tmp 21) (.tmp 26) 41, 4, "outright.go:37", #[⟨4, .data⟩, ⟨9, .data⟩], none⟩ (.bool false) ?_
              simp only [Act.put, List.setIfInBounds_toArray, List.set_cons_zero, List.set_cons_succ]
              refine tk 11 ⟨some 28, .move (.tmp 27), 4, "outright.go:37", #[⟨10, .data⟩], none⟩ (.bool false) ?_
              simp only [Act.put, List.setIfInBounds_toArray, List.set_cons_zero, List.set_cons_succ]
              refine tk 12 ⟨some 29, .move (.tmp 0), 25, "outright.go:37", #[⟨11, .guard⟩], some (11, false)⟩ (.slice (some ⟨b1, o1, none⟩) n c) ?_
              simp only [Act.put, List.setIfInBounds_toArray, List.set_cons_zero, List.set_cons_succ]
              refine tk 13 ⟨some 30, .move (.tmp 5), 3, "outright.go:37", #[⟨11, .guard⟩], some (11, false)⟩ (.int .i64 (k : Int)) ?_
              simp only [Act.put, List.setIfInBounds_toArray, List.set_cons_zero, List.set_cons_succ]
              refine tk 14 ⟨some 31, .indexAddr 25 (.tmp 29) (.tmp 30), 0, "outright.go:37", #[⟨12, .data⟩, ⟨13, .data⟩, ⟨11, .guard⟩], some (11, false)⟩ (.pointer (some ⟨b1, o1 + k * 3, none⟩)) ?_
              simp only [Act.put, List.setIfInBounds_toArray, List.set_cons_zero, List.set_cons_succ]
              refine tk 15 ⟨some 32, .fieldAddr 43 (.tmp 31) 1, 0, "outright.go:37", #[⟨14, .data⟩, ⟨11, .guard⟩], some (11, false)⟩ (.pointer (some ⟨b1, o1 + k * 3 + 1, none⟩)) ?_
              simp only [Act.put, List.setIfInBounds_toArray, List.set_cons_zero, List.set_cons_succ]
              refine tk 16 ⟨some 33, .load 24 (.tmp 32), 24, "outright.go:37", #[⟨15, .data⟩, ⟨11, .guard⟩], some (11, false)⟩ (.int .u32 xa) ?_ (hy := Or.inl ⟨by rfl, by intro w hSw; have hc := (G1.out w hSw).2.1; go_simp⟩)
              simp only [Act.put, List.setIfInBounds_toArray, List.set_cons_zero, List.set_cons_succ]
              refine tk 17 ⟨some 34, .move (.tmp 1), 25, "outright.go:37", #[⟨11, .guard⟩], some (11, false)⟩ (.slice (some ⟨b2, o2, none⟩) n d) ?_
              simp only [Act.put, List.setIfInBounds_toArray, List.set_cons_zero, List.set_cons_succ]
              refine tk 18 ⟨some 35, .move (.tmp 5), 3, "outright.go:37", #[⟨11, .guard⟩], some (11, false)⟩ (.int .i64 (k : Int)) ?_
              simp only [Act.put, List.setIfInBounds_toArray, List.set_cons_zero, List.set_cons_succ]
              refine tk 19 ⟨some 36, .indexAddr 25 (.tmp 34) (.tmp 35), 0, "outright.go:37", #[⟨17, .data⟩, ⟨18, .data⟩, ⟨11, .guard⟩], some (11, false)⟩ (.pointer (some ⟨b2, o2 + k * 3, none⟩)) ?_
              simp only [Act.put, List.setIfInBounds_toArray, List.set_cons_zero, List.set_cons_succ]
              refine tk 20 ⟨some 37, .fieldAddr 43 (.tmp 36) 1, 0, "outright.go:37", #[⟨19, .data⟩, ⟨11, .guard⟩], some (11, false)⟩ (.pointer (some ⟨b2, o2 + k * 3 + 1, none⟩)) ?_
              simp only [Act.put, List.setIfInBounds_toArray, List.set_cons_zero, List.set_cons_succ]
              refine tk 21 ⟨some 38, .load 24 (.tmp 37), 24, "outright.go:37", #[⟨20, .data⟩, ⟨11, .guard⟩], some (11, false)⟩ (.int .u32 xa) ?_ (hy := Or.inl ⟨by rfl, by intro w hSw; have hc := (G2.out w hSw).2.1; go_simp⟩)
              simp only [Act.put, List.setIfInBounds_toArray, List.set_cons_zero, List.set_cons_succ]
              refine tk 22 ⟨some 39, .binOp .neq 24 (.tmp 33) (.tmp 38) 24, 4, "outright.go:37", #[⟨16, .data⟩, ⟨21, .data⟩, ⟨11, .guard⟩], some (11, false)⟩ (.bool false) ?_
              simp only [Act.put, List.setIfInBounds_toArray, List.set_cons_zero, List.set_cons_succ]
              refine tk 23 ⟨some 40, .pick (.tmp 28) (.const (.bool true)) (.tmp 39), 4, "outright.go:37", #[⟨11, .data⟩, ⟨22, .data⟩], none⟩ (.bool false) ?_
              simp only [Act.put, List.setIfInBounds_toArray, List.set_cons_zero, List.set_cons_succ]
              refine tk 24 ⟨some 41, .move (.tmp 40), 4, "outright.go:37", #[⟨23, .data⟩, ⟨11, .chain⟩], none⟩ (.bool false) ?_
              simp only [Act.put, List.setIfInBounds_toArray, List.set_cons_zero, List.set_cons_succ]
              refine tk 25 ⟨some 42, .move (.tmp 0), 25, "outright.go:37", #[⟨24, .guard⟩], some (24, false)⟩ (.slice (some ⟨b1, o1, none⟩) n c) ?_
              simp only [Act.put, List.setIfInBounds_toArray, List.set_cons_zero, List.set_cons_succ]
              refine tk 26 ⟨some 43, .move (.tmp 5), 3, "outright.go:37", #[⟨24, .guard⟩], some (24, false)⟩ (.int .i64 (k : Int)) ?_
              simp only [Act.put, List.setIfInBounds_toArray, List.set_cons_zero, List.set_cons_succ]
              refine tk 27 ⟨some 44, .indexAddr 25 (.tmp 42) (.tmp 43), 0, "outright.go:37", #[⟨25, .data⟩, ⟨26, .data⟩, ⟨24, .guard⟩], some (24, false)⟩ (.pointer (some ⟨b1, o1 + k * 3, none⟩)) ?_
              simp only [Act.put, List.setIfInBounds_toArray, List.set_cons_zero, List.set_cons_succ]
              refine tk 28 ⟨some 45, .fieldAddr 43 (.tmp 44) 2, 0, "outright.go:37", #[⟨27, .data⟩, ⟨24, .guard⟩], some (24, false)⟩ (.pointer (some ⟨b1, o1 + k * 3 + 2, none⟩)) ?_
              simp only [Act.put, List.setIfInBounds_toArray, List.set_cons_zero, List.set_cons_succ]
              refine tk 29 ⟨some 46, .load 22 (.tmp 45), 22, "outright.go:37", #[⟨28, .data⟩, ⟨24, .guard⟩], some (24, false)⟩ (.slice xp xw.length xc) ?_ (hy := Or.inl ⟨by rfl, by intro w hSw; have hc := (G1.out w hSw).2.2; go_simp⟩)
              simp only [Act.put, List.setIfInBounds_toArray, List.set_cons_zero, List.set_cons_succ]
              refine tk 30 ⟨some 47, .move (.tmp 1), 25, "outright.go:37", #[⟨24, .guard⟩], some (24, false)⟩ (.slice (some ⟨b2, o2, none⟩) n d) ?_
              simp only [Act.put, List.setIfInBounds_toArray, List.set_cons_zero, List.set_cons_succ]
              refine tk 31 ⟨some 48, .move (.tmp 5), 3, "outright.go:37", #[⟨24, .guard⟩], some (24, false)⟩ (.int .i64 (k : Int)) ?_
              simp only [Act.put, List.setIfInBounds_toArray, List.set_cons_zero, List.set_cons_succ]
              refine tk 32 ⟨some 49, .indexAddr 25 (.tmp 47) (.tmp 48), 0, "outright.go:37", #[⟨30, .data⟩, ⟨31, .data⟩, ⟨24, .guard⟩], some (24, false)⟩ (.pointer (some ⟨b2, o2 + k * 3, none⟩)) ?_
              simp only [Act.put, List.setIfInBounds_toArray, List.set_cons_zero, List.set_cons_succ]
              refine tk 33 ⟨some 50, .fieldAddr 43 (.tmp 49) 2, 0, "outright.go:37", #[⟨32, .data⟩, ⟨24, .guard⟩], some (24, false)⟩ (.pointer (some ⟨b2, o2 + k * 3 + 2, none⟩)) ?_
              simp only [Act.put, List.setIfInBounds_toArray, List.set_cons_zero, List.set_cons_succ]
              refine tk 34 ⟨some 51, .load 22 (.tmp 50), 22, "outright.go:37", #[⟨33, .data⟩, ⟨24, .guard⟩], some (24, false)⟩ (.slice yp yw.length yc) ?_ (hy := Or.inl ⟨by rfl, by intro w hSw; have hc := (G2.out w hSw).2.2; go_simp⟩)
              simp only [Act.put, List.setIfInBounds_toArray, List.set_cons_zero, List.set_cons_succ]
              refine wpAnyH_ready (rs := [35]) (by kernel_rfl) (by simp) (AllReadyH.cons (o := ⟨some 52, .call { callee := .value (.func 11), args := #[.tmp 46, .tmp 51], argTypes := #[22, 22] }, 4, "outright.go:37", #[⟨29, .data⟩, ⟨34, .data⟩, ⟨24, .chain⟩, ⟨24, .guard⟩], some (24, false)⟩) rfl (fun KQ hK => ?_) AllReadyH.nil)
              go_simp
              refine (HS.out _ X0.out).mono ?_
              rintro e w1 ⟨rfl, hb1⟩
              have X1 := hid (below_on X0.out hb1)
              clear hb1
              go_wp2_with fail
              refine hK.out _ _ X1.out (fun hHeld => ?_)
              clear hK KQ
              try simp only [Act.put, List.setIfInBounds_toArray, List.set_cons_zero, List.set_cons_succ]
              refine tk 36 ⟨some 53, .unOp .not 4 (.tmp 52), 4, "outright.go:37", #[⟨35, .data⟩, ⟨24, .guard⟩], some (24, false)⟩ (.bool true) ?_
              simp only [Act.put, List.setIfInBounds_toArray, List.set_cons_zero, List.set_cons_succ]
              refine tk 37 ⟨some 54, .pick (.tmp 41) (.const (.bool true)) (.tmp 53), 4, "outright.go:37", #[⟨24, .data⟩, ⟨36, .data⟩], none⟩ (.bool true) ?_
              simp only [Act.put, List.setIfInBounds_toArray, List.set_cons_zero, List.set_cons_succ]
              refine wpAnyH_done (by kernel_rfl) ?_ _
              go_wp2_with fail
              go_ret
              exact ⟨by rw [HN.out]; rfl, X1.out⟩
          · have hne : (xa != ya) = true := by simpa using haa
            have HN : Hid (r = false) := hid (HNk.out (fun e => haa (congrArg MOp.a e)))
            clear haa
            refine wp_region_held_drew (S := fun w => Below W.heap.size W w) (by kernel_rfl) X0.out (fun hHeld => ?_)
            generalize World.drew _ = w0 at *
            refine tk 0 ⟨some 17, .move (.tmp 0), 25, "outright.go:37", #[], none⟩ (.slice (some ⟨b1, o1, none⟩) n c) ?_
            simp only [Act.put, List.setIfInBounds_toArray, List.set_cons_zero, List.set_cons_succ]
            refine tk 1 ⟨some 18, .move (.tmp 5), 3, "outright.go:37", #[], none⟩ (.int .i64 (k : Int)) ?_
            simp only [Act.put, List.setIfInBounds_toArray, List.set_cons_zero, List.set_cons_succ]
            refine tk 2 ⟨some 19, .indexAddr 25 (.tmp 17) (.tmp 18), 0, "outright.go:37", #[⟨0, .data⟩, ⟨1, .data⟩], none⟩ (.pointer (some ⟨b1, o1 + k * 3, none⟩)) ?_
            simp only [Act.put, List.setIfInBounds_toArray, List.set_cons_zero, List.set_cons_succ]
            refine tk 3 ⟨some 20, .fieldAddr 43 (.tmp 19) 0, 0, "outright.go:37", #[⟨2, .data⟩], none⟩ (.pointer (some ⟨b1, o1 + k * 3, none⟩)) ?_
            simp only [Act.put, List.setIfInBounds_toArray, List.set_cons_zero, List.set_cons_succ]
            refine tk 4 ⟨some 21, .load 41 (.tmp 20), 41, "outright.go:37", #[⟨3, .data⟩], none⟩ (.int .i64 xk) ?_ (hy := Or.inl ⟨by rfl, by intro w hSw; have hc := (G1.out w hSw).1; go_simp⟩)
            simp only [Act.put, List.setIfInBounds_toArray, List.set_cons_zero, List.set_cons_succ]
            refine tk 5 ⟨some 22, .move (.tmp 1), 25, "outright.go:37", #[], none⟩ (.slice (some ⟨b2, o2, none⟩) n d) ?_
            simp only [Act.put, List.setIfInBounds_toArray, List.set_cons_zero, List.set_cons_succ]
            refine tk 6 ⟨some 23, .move (.tmp 5), 3, "outright.go:37", #[], none⟩ (.int .i64 (k : Int)) ?_
            simp only [Act.put, List.setIfInBounds_toArray, List.set_cons_zero, List.set_cons_succ]
            refine tk 7 ⟨some 24, .indexAddr 25 (.tmp 22) (.tmp 23), 0, "outright.go:37", #[⟨5, .data⟩, ⟨6, .data⟩], none⟩ (.pointer (some ⟨b2, o2 + k * 3, none⟩)) ?_
            simp only [Act.put, List.setIfInBounds_toArray, List.set_cons_zero, List.set_cons_succ]
            refine tk 8 ⟨some 25, .fieldAddr 43 (.tmp 24) 0, 0, "outright.go:37", #[⟨7, .data⟩], none⟩ (.pointer (some ⟨b2, o2 + k * 3, none⟩)) ?_
            simp only [Act.put, List.setIfInBounds_toArray, List.set_cons_zero, List.set_cons_succ]
            refine tk 9 ⟨some 26, .load 41 (.tmp 25), 41, "outright.go:37", #[⟨8, .data⟩], none⟩ (.int .i64 xk) ?_ (hy := Or.inl ⟨by rfl, by intro w hSw; have hc := (G2.out w hSw).1; go_simp⟩)
            simp only [Act.put, List.setIfInBounds_toArray, List.set_cons_zero, List.set_cons_succ]
            refine tk 10 ⟨some 27, .binOp .neq 41 (.tmp 21) (.tmp 26) 41, 4, "outright.go:37", #[⟨4, .data⟩, ⟨9, .data⟩], none⟩ (.bool false) ?_
            simp only [Act.put, List.setIfInBounds_toArray, List.set_cons_zero, List.set_cons_succ]
            refine tk 11 ⟨some 28, .move (.tmp 27), 4, "outright.go:37", #[⟨10, .data⟩], none⟩ (.bool false) ?_
            simp only [Act.put, List.setIfInBounds_toArray, List.set_cons_zero, List.set_cons_succ]
            refine tk 12 ⟨some 29, .move (.tmp 0), 25, "outright.go:37", #[⟨11, .guard⟩], some (11, false)⟩ (.slice (some ⟨b1, o1, none⟩) n c) ?_
            simp only [Act.put, List.setIfInBounds_toArray, List.set_cons_zero, List.set_cons_succ]
            refine tk 13 ⟨some 30, .move (.tmp 5), 3, "outright.go:37", #[⟨11, .guard⟩], some (11, false)⟩ (.int .i64 (k : Int)) ?_
            simp only [Act.put, List.setIfInBounds_toArray, List.set_cons_zero, List.set_cons_succ]
            refine tk 14 ⟨some 31, .indexAddr 25 (.tmp 29) (.tmp 30), 0, "outright.go:37", #[⟨12, .data⟩, ⟨13, .data⟩, ⟨11, .guard⟩], some (11, false)⟩ (.pointer (some ⟨b1, o1 + k * 3, none⟩)) ?_
            simp only [Act.put, List.setIfInBounds_toArray, List.set_cons_zero, List.set_cons_succ]
            refine tk 15 ⟨some 32, .fieldAddr 43 (.tmp 31) 1, 0, "outright.go:37", #[⟨14, .data⟩, ⟨11, .guard⟩], some (11, false)⟩ (.pointer (some ⟨b1, o1 + k * 3 + 1, none⟩)) ?_
            simp only [Act.put, List.setIfInBounds_toArray, List.set_cons_zero, List.set_cons_succ]
            refine tk 16 ⟨some 33, .load 24 (.tmp 32), 24, "outright.go:37", #[⟨15, .data⟩, ⟨11, .guard⟩], some (11, false)⟩ (.int .u32 xa) ?_ (hy := Or.inl ⟨by rfl, by intro w hSw; have hc := (G1.out w hSw).2.1; go_simp⟩)
            simp only [Act.put, List.setIfInBounds_toArray, List.set_cons_zero, List.set_cons_succ]
            refine tk 17 ⟨some 34, .move (.tmp 1), 25, "outright.go:37", #[⟨11, .guard⟩], some (11, false)⟩ (.slice (some ⟨b2, o2, none⟩) n d) ?_
            simp only [Act.put, List.setIfInBounds_toArray, List.set_cons_zero, List.set_cons_succ]
            refine tk 18 ⟨some 35, .move (.tmp 5), 3, "outright.go:37", #[⟨11, .guard⟩], some (11, false)⟩ (.int .i64 (k : Int)) ?_
            simp only [Act.put, List.setIfInBounds_toArray, List.set_cons_zero, List.set_cons_succ]
            refine tk 19 ⟨some 36, .indexAddr 25 (.tmp 34) (.tmp 35), 0, "outright.go:37", #[⟨17, .data⟩, ⟨18, .data⟩, ⟨11, .guard⟩], some (11, false)⟩ (.pointer (some ⟨b2, o2 + k * 3, none⟩)) ?_
            simp only [Act.put, List.setIfInBounds_toArray, List.set_cons_zero, List.set_cons_succ]
            refine tk 20 ⟨some 37, .fieldAddr 43 (.tmp 36) 1, 0, "outright.go:37", #[⟨19, .data⟩, ⟨11, .guard⟩], some (11, false)⟩ (.pointer (some ⟨b2, o2 + k * 3 + 1, none⟩)) ?_
            simp only [Act.put, List.setIfInBounds_toArray, List.set_cons_zero, List.set_cons_succ]
            refine tk 21 ⟨some 38, .load 24 (.tmp 37), 24, "outright.go:37", #[⟨20, .data⟩, ⟨11, .guard⟩], some (11, false)⟩ (.int .u32 ya) ?_ (hy := Or.inl ⟨by rfl, by intro w hSw; have hc := (G2.out w hSw).2.1; go_simp⟩)
            simp only [Act.put, List.setIfInBounds_toArray, List.set_cons_zero, List.set_cons_succ]
            refine tk 22 ⟨some 39, .binOp .neq 24 (.tmp 33) (.tmp 38) 24, 4, "outright.go:37", #[⟨16, .data⟩, ⟨21, .data⟩, ⟨11, .guard⟩], some (11, false)⟩ (.bool true) ?_
            simp only [Act.put, List.setIfInBounds_toArray, List.set_cons_zero, List.set_cons_succ]
            refine tk 23 ⟨some 40, .pick (.tmp 28) (.const (.bool true)) (.tmp 39), 4, "outright.go:37", #[⟨11, .data⟩, ⟨22, .data⟩], none⟩ (.bool true) ?_
            simp only [Act.put, List.setIfInBounds_toArray, List.set_cons_zero, List.set_cons_succ]
            refine tk 24 ⟨some 41, .move (.tmp 40), 4, "outright.go:37", #[⟨23, .data⟩, ⟨11, .chain⟩], none⟩ (.bool true) ?_
            simp only [Act.put, List.setIfInBounds_toArray, List.set_cons_zero, List.set_cons_succ]
            refine tk 25 ⟨some 42, .move (.tmp 0), 25, "outright.go:37", #[⟨24, .guard⟩], some (24, false)⟩ undef ?_ (hy := Or.inr ⟨by rfl, rfl⟩)
            simp only [Act.put, List.setIfInBounds_toArray, List.set_cons_zero, List.set_cons_succ]
            refine tk 26 ⟨some 43, .move (.tmp 5), 3, "outright.go:37", #[⟨24, .guard⟩], some (24, false)⟩ undef ?_ (hy := Or.inr ⟨by rfl, rfl⟩)
            simp only [Act.put, List.setIfInBounds_toArray, List.set_cons_zero, List.set_cons_succ]
            refine tk 27 ⟨some 44, .indexAddr 25 (.tmp 42) (.tmp 43), 0, "outright.go:37", #[⟨25, .data⟩, ⟨26, .data⟩, ⟨24, .guard⟩], some (24, false)⟩ undef ?_ (hy := Or.inr ⟨by rfl, rfl⟩)
            simp only [Act.put, List.setIfInBounds_toArray, List.set_cons_zero, List.set_cons_succ]
            refine tk 28 ⟨some 45, .fieldAddr 43 (.tmp 44) 2, 0, "outright.go:37", #[⟨27, .data⟩, ⟨24, .guard⟩], some (24, false)⟩ undef ?_ (hy := Or.inr ⟨by rfl, rfl⟩)
            simp only [Act.put, List.setIfInBounds_toArray, List.set_cons_zero, List.set_cons_succ]
            refine tk 29 ⟨some 46, .load 22 (.tmp 45), 22, "outright.go:37", #[⟨28, .data⟩, ⟨24, .guard⟩], some (24, false)⟩ undef ?_ (hy := Or.inr ⟨by rfl, rfl⟩)
            simp only [Act.put, List.setIfInBounds_toArray, List.set_cons_zero, List.set_cons_succ]
            refine tk 30 ⟨some 47, .move (.tmp 1), 25, "outright.go:37", #[⟨24, .guard⟩], some (24, false)⟩ undef ?_ (hy := Or.inr ⟨by rfl, rfl⟩)
            simp only [Act.put, List.setIfInBounds_toArray, List.set_cons_zero, List.set_cons_succ]
            refine tk 31 ⟨some 48, .move (.tmp 5), 3, "outright.go:37", #[⟨24, .guard⟩], some (24, false)⟩ undef ?_ (hy := Or.inr ⟨by rfl, rfl⟩)
            simp only [Act.put, List.setIfInBounds_toArray, List.set_cons_zero, List.set_cons_succ]
            refine tk 32 ⟨some 49, .indexAddr 25 (.tmp 47) (.tmp 48), 0, "outright.go:37", #[⟨30, .data⟩, ⟨31, .data⟩, ⟨24, .guard⟩], some (24, false)⟩ undef ?_ (hy := Or.inr ⟨by rfl, rfl⟩)
            simp only [Act.put, List.setIfInBounds_toArray, List.set_cons_zero, List.set_cons_succ]
            refine tk 33 ⟨some 50, .fieldAddr 43 (.tmp 49) 2, 0, "outright.go:37", #[⟨32, .data⟩, ⟨24, .guard⟩], some (24, false)⟩ undef ?_ (hy := Or.inr ⟨by rfl, rfl⟩)
            simp only [Act.put, List.setIfInBounds_toArray, List.set_cons_zero, List.set_cons_succ]
            refine tk 34 ⟨some 51, .load 22 (.tmp 50), 22, "outright.go:37", #[⟨33, .data⟩, ⟨24, .guard⟩], some (24, false)⟩ undef ?_ (hy := Or.inr ⟨by rfl, rfl⟩)
            simp only [Act.put, List.setIfInBounds_toArray, List.set_cons_zero, List.set_cons_succ]
            refine tk 35 ⟨some 52, .call { callee := .value (.func 11), args := #[.tmp 46, .tmp 51], argTypes := #[22, 22] }, 4, "outright.go:37", #[⟨29, .data⟩, ⟨34, .data⟩, ⟨24, .chain⟩, ⟨24, .guard⟩], some (24, false)⟩ undef ?_ (hy := Or.inr ⟨by rfl, rfl⟩)
            simp only [Act.put, List.setIfInBounds_toArray, List.set_cons_zero, List.set_cons_succ]
            refine tk 36 ⟨some 53, .unOp .not 4 (.tmp 52), 4, "outright.go:37", #[⟨35, .data⟩, ⟨24, .guard⟩], some (24, false)⟩ undef ?_ (hy := Or.inr ⟨by rfl, rfl⟩)
            simp only [Act.put, List.setIfInBounds_toArray, List.set_cons_zero, List.set_cons_succ]
            refine tk 37 ⟨some 54, .pick (.tmp 41) (.const (.bool true)) (.tmp 53), 4, "outright.go:37", #[⟨24, .data⟩, ⟨36, .data⟩], none⟩ (.bool true) ?_
            simp only [Act.put, List.setIfInBounds_toArray, List.set_cons_zero, List.set_cons_succ]
            refine wpAnyH_done (by kernel_rfl) ?_ _
            go_wp2_with fail
            go_ret
            exact ⟨by rw [HN.out]; rfl, X0.out⟩
        · have hne : (xk != yk) = true := by simpa using hkk
          have HN : Hid (r = false) := hid (HNk.out (fun e => hkk (congrArg MOp.k e)))
          clear hkk
          refine wp_region_held_drew (S := fun w => Below W.heap.size W w) (by kernel_rfl) X0.out (fun hHeld => ?_)
          generalize World.drew _ = w0 at *
          refine tk 0 ⟨some 17, .move (.tmp 0), 25, "outright.go:37", #[], none⟩ (.slice (some ⟨b1, o1, none⟩) n c) ?_
          simp only [Act.put, List.setIfInBounds_toArray, List.set_cons_zero, List.set_cons_succ]
          refine tk 1 ⟨some 18, .move (.tmp 5), 3, "outright.go:37", #[], none⟩ (.int .i64 (k : Int)) ?_
          simp only [Act.put, List.setIfInBounds_toArray, List.set_cons_zero, List.set_cons_succ]
          refine tk 2 ⟨some 19, .indexAddr 25 (.tmp 17) (.tmp 18), 0, "outright.go:37", #[⟨0, .data⟩, ⟨1, .data⟩], none⟩ (.pointer (some ⟨b1, o1 + k * 3, none⟩)) ?_
          simp only [Act.put, List.setIfInBounds_toArray, List.set_cons_zero, List.set_cons_succ]
          refine tk 3 ⟨some 20, .fieldAddr 43 (.tmp 19) 0, 0, "outright.go:37", #[⟨2, .data⟩], none⟩ (.pointer (some ⟨b1, o1 + k * 3, none⟩)) ?_
          simp only [Act.put, List.setIfInBounds_toArray, List.set_cons_zero, List.set_cons_succ]
          refine tk 4 ⟨some 21, .load 41 (.tmp 20), 41, "outright.go:37", #[⟨3, .data⟩], none⟩ (.int .i64 xk) ?_ (hy := Or.inl ⟨by rfl, by intro w hSw; have hc := (G1.out w hSw).1; go_simp⟩)
          simp only [Act.put, List.setIfInBounds_toArray, List.set_cons_zero, List.set_cons_succ]
          refine tk 5 ⟨some 22, .move (.tmp 1), 25, "outright.go:37", #[], none⟩ (.slice (some ⟨b2, o2, none⟩) n d) ?_
          simp only [Act.put, List.setIfInBounds_toArray, List.set_cons_zero, List.set_cons_succ]
          refine tk 6 ⟨some 23, .move (.tmp 5), 3, "outright.go:37", #[], none⟩ (.int .i64 (k : Int)) ?_
          simp only [Act.put, List.setIfInBounds_toArray, List.set_cons_zero, List.set_cons_succ]
          refine tk 7 ⟨some 24, .indexAddr 25 (.tmp 22) (.tmp 23), 0, "outright.go:37", #[⟨5, .data⟩, ⟨6, .data⟩], none⟩ (.pointer (some ⟨b2, o2 + k * 3, none⟩)) ?_
          simp only [Act.put, List.setIfInBounds_toArray, List.set_cons_zero, List.set_cons_succ]
          refine tk 8 ⟨some 25, .fieldAddr 43 (.tmp 24) 0, 0, "outright.go:37", #[⟨7, .data⟩], none⟩ (.pointer (some ⟨b2, o2 + k * 3, none⟩)) ?_
          simp only [Act.put, List.setIfInBounds_toArray, List.set_cons_zero, List.set_cons_succ]
          refine tk 9 ⟨some 26, .load 41 (.tmp 25), 41, "outright.go:37", #[⟨8, .data⟩], none⟩ (.int .i64 yk) ?_ (hy := Or.inl ⟨by rfl, by intro w hSw; have hc := (G2.out w hSw).1; go_simp⟩)
          simp only [Act.put, List.setIfInBounds_toArray, List.set_cons_zero, List.set_cons_succ]
          refine tk 10 ⟨some 27, .binOp .neq 41 (.tmp 21) (.tmp 26) 41, 4, "outright.go:37", #[⟨4, .data⟩, ⟨9, .data⟩], none⟩ (.bool true) ?_
          simp only [Act.put, List.setIfInBounds_toArray, List.set_cons_zero, List.set_cons_succ]
          refine tk 11 ⟨some 28, .move (.tmp 27), 4, "outright.go:37", #[⟨10, .data⟩], none⟩ (.bool true) ?_
          simp only [Act.put, List.setIfInBounds_toArray, List.set_cons_zero, List.set_cons_succ]
          refine tk 12 ⟨some 29, .move (.tmp 0), 25, "outright.go:37", #[⟨11, .guard⟩], some (11, false)⟩ undef ?_ (hy := Or.inr ⟨by rfl, rfl⟩)
          simp only [Act.put, List.setIfInBounds_toArray, List.set_cons_zero, List.set_cons_succ]
          refine tk 13 ⟨some 30, .move (.tmp 5), 3, "outright.go:37", #[⟨11, .guard⟩], some (11, false)⟩ undef ?_ (hy := Or.inr ⟨by rfl, rfl⟩)
          simp only [Act.put, List.setIfInBounds_toArray, List.set_cons_zero, List.set_cons_succ]
          refine tk 14 ⟨some 31, .indexAddr 25 (.tmp 29) (.tmp 30), 0, "outright.go:37", #[⟨12, .data⟩, ⟨13, .data⟩, ⟨11, .guard⟩], some (11, false)⟩ undef ?_ (hy := Or.inr ⟨by rfl, rfl⟩)
          simp only [Act.put, List.setIfInBounds_toArray, List.set_cons_zero, List.set_cons_succ]
          refine tk 15 ⟨some 32, .fieldAddr 43 (.tmp 31) 1, 0, "outright.go:37", #[⟨14, .data⟩, ⟨11, .guard⟩], some (11, false)⟩ undef ?_ (hy := Or.inr ⟨by rfl, rfl⟩)
          simp only [Act.put, List.setIfInBounds_toArray, List.set_cons_zero, List.set_cons_succ]
          refine tk 16 ⟨some 33, .load 24 (.tmp 32), 24, "outright.go:37", #[⟨15, .data⟩, ⟨11, .guard⟩], some (11, false)⟩ undef ?_ (hy := Or.inr ⟨by rfl, rfl⟩)
          simp only [Act.put, List.setIfInBounds_toArray, List.set_cons_zero, List.set_cons_succ]
          refine tk 17 ⟨some 34, .move (.tmp 1), 25, "outright.go:37", #[⟨11, .guard⟩], some (11, false)⟩ undef ?_ (hy := Or.inr ⟨by rfl, rfl⟩)
          simp only [Act.put, List.setIfInBounds_toArray, List.set_cons_zero, List.set_cons_succ]
          refine tk 18 ⟨some 35, .move (.tmp 5), 3, "outright.go:37", #[⟨11, .guard⟩], some (11, false)⟩ undef ?_ (hy := Or.inr ⟨by rfl, rfl⟩)
          simp only [Act.put, List.setIfInBounds_toArray, List.set_cons_zero, List.set_cons_succ]
          refine tk 19 ⟨some 36, .indexAddr 25 (.tmp 34) (.tmp 35), 0, "outright.go:37", #[⟨17, .data⟩, ⟨18, .data⟩, ⟨11, .guard⟩], some (11, false)⟩ undef ?_ (hy := Or.inr ⟨by rfl, rfl⟩)
          simp only [Act.put, List.setIfInBounds_toArray, List.set_cons_zero, List.set_cons_succ]
          refine tk 20 ⟨some 37, .fieldAddr 43 (.tmp 36) 1, 0, "outright.go:37", #[⟨19, .data⟩, ⟨11, .guard⟩], some (11, false)⟩ undef ?_ (hy := Or.inr ⟨by rfl, rfl⟩)
          simp only [Act.put, List.setIfInBounds_toArray, List.set_cons_zero, List.set_cons_succ]
          refine tk 21 ⟨some 38, .load 24 (.tmp 37), 24, "outright.go:37", #[⟨20, .data⟩, ⟨11, .guard⟩], some (11, false)⟩ undef ?_ (hy := Or.inr ⟨by rfl, rfl⟩)
          simp only [Act.put, List.setIfInBounds_toArray, List.set_cons_zero, List.set_cons_succ]
          refine tk 22 ⟨some 39, .binOp .neq 24 (.tmp 33) (.tmp 38) 24, 4, "outright.go:37", #[⟨16, .data⟩, ⟨21, .data⟩, ⟨11, .guard⟩], some (11, false)⟩ undef ?_ (hy := Or.inr ⟨by rfl, rfl⟩)
          simp only [Act.put, List.setIfInBounds_toArray, List.set_cons_zero, List.set_cons_succ]
          refine tk 23 ⟨some 40, .pick (.tmp 28) (.const (.bool true)) (.tmp 39), 4, "outright.go:37", #[⟨11, .data⟩, ⟨22, .data⟩], none⟩ (.bool true) ?_
          simp only [Act.put, List.setIfInBounds_toArray, List.set_cons_zero, List.set_cons_succ]
          refine tk 24 ⟨some 41, .move (.tmp 40), 4, "outright.go:37", #[⟨23, .data⟩, ⟨11, .chain⟩], none⟩ (.bool true) ?_
          simp only [Act.put, List.setIfInBounds_toArray, List.set_cons_zero, List.set_cons_succ]
          refine tk 25 ⟨some 42, .move (.tmp 0), 25, "outright.go:37", #[⟨24, .guard⟩], some (24, false)⟩ undef ?_ (hy := Or.inr ⟨by rfl, rfl⟩)
          simp only [Act.put, List.setIfInBounds_toArray, List.set_cons_zero, List.set_cons_succ]
          refine tk 26 ⟨some 43, .move (.tmp 5), 3, "outright.go:37", #[⟨24, .guard⟩], some (24, false)⟩ undef ?_ (hy := Or.inr ⟨by rfl, rfl⟩)
          simp only [Act.put, List.setIfInBounds_toArray, List.set_cons_zero, List.set_cons_succ]
          refine tk 27 ⟨some 44, .indexAddr 25 (.tmp 42) (.tmp 43), 0, "outright.go:37", #[⟨25, .data⟩, ⟨26, .data⟩, ⟨24, .guard⟩], some (24, false)⟩ undef ?_ (hy := Or.inr ⟨by rfl, rfl⟩)
          simp only [Act.put, List.setIfInBounds_toArray, List.set_cons_zero, List.set_cons_succ]
          refine tk 28 ⟨some 45, .fieldAddr 43 (.tmp 44) 2, 0, "outright.go:37", #[⟨27, .data⟩, ⟨24, .guard⟩], some (24, false)⟩ undef ?_ (hy := Or.inr ⟨by rfl, rfl⟩)
          simp only [Act.put, List.setIfInBounds_toArray, List.set_cons_zero, List.set_cons_succ]
          refine tk 29 ⟨some 46, .load 22 (.tmp 45), 22, "outright.go:37", #[⟨28, .data⟩, ⟨24, .guard⟩], some (24, false)⟩ undef ?_ (hy := Or.inr ⟨by rfl, rfl⟩)
          simp only [Act.put, List.setIfInBounds_toArray, List.set_cons_zero, List.set_cons_succ]
          refine tk 30 ⟨some 47, .move (.tmp 1), 25, "outright.go:37", #[⟨24, .guard⟩], some (24, false)⟩ undef ?_ (hy := Or.inr ⟨by rfl, rfl⟩)
          simp only [Act.put, List.setIfInBounds_toArray, List.set_cons_zero, List.set_cons_succ]
          refine tk 31 ⟨some 48, .move (.tmp 5), 3, "outright.go:37", #[⟨24, .guard⟩], some (24, false)⟩ undef ?_ (hy := Or.inr ⟨by rfl, rfl⟩)
          simp only [Act.put, List.setIfInBounds_toArray, List.set_cons_zero, List.set_cons_succ]
          refine tk 32 ⟨some 49, .indexAddr 25 (.tmp 47) (.tmp 48), 0, "outright.go:37", #[⟨30, .data⟩, ⟨31, .data⟩, ⟨24, .guard⟩], some (24, false)⟩ undef ?_ (hy := Or.inr ⟨by rfl, rfl⟩)
          simp only [Act.put, List.setIfInBounds_toArray, List.set_cons_zero, List.set_cons_succ]
          refine tk 33 ⟨some 50, .fieldAddr 43 (.tmp 49) 2, 0, "outright.go:37", #[⟨32, .data⟩, ⟨24, .guard⟩], some (24, false)⟩ undef ?_ (hy := Or.inr ⟨by rfl, rfl⟩)
          simp only [Act.put, List.setIfInBounds_toArray, List.set_cons_zero, List.set_cons_succ]
          refine tk 34 ⟨some 51, .load 22 (.tmp 50), 22, "outright.go:37", #[⟨33, .data⟩, ⟨24, .guard⟩], some (24, false)⟩ undef ?_ (hy := Or.inr ⟨by rfl, rfl⟩)
          simp only [Act.put, List.setIfInBounds_toArray, List.set_cons_zero, List.set_cons_succ]
          refine tk 35 ⟨some 52, .call { callee := .value (.func 11), args := #[.tmp 46, .tmp 51], argTypes := #[22, 22] }, 4, "outright.go:37", #[⟨29, .data⟩, ⟨34, .data⟩, ⟨24, .chain⟩, ⟨24, .guard⟩], some (24, false)⟩ undef ?_ (hy := Or.inr ⟨by rfl, rfl⟩)
          simp only [Act.put, List.setIfInBounds_toArray, List.set_cons_zero, List.set_cons_succ]
          refine tk 36 ⟨some 53, .unOp .not 4 (.tmp 52), 4, "outright.go:37", #[⟨35, .data⟩, ⟨24, .guard⟩], some (24, false)⟩ undef ?_ (hy := Or.inr ⟨by rfl, rfl⟩)
          simp only [Act.put, List.setIfInBounds_toArray, List.set_cons_zero, List.set_cons_succ]
          refine tk 37 ⟨some 54, .pick (.tmp 41) (.const (.bool true)) (.tmp 53), 4, "outright.go:37", #[⟨24, .data⟩, ⟨36, .data⟩], none⟩ (.bool true) ?_
          simp only [Act.put, List.setIfInBounds_toArray, List.set_cons_zero, List.set_cons_succ]
          refine wpAnyH_done (by kernel_rfl) ?_ _
          go_wp2_with fail
          go_ret
          exact ⟨by rw [HN.out]; rfl, X0.out⟩
      · obtain rfl : k = n := by omega
        have HN : Hid (r = true) := hid (HF.out (fun j x y hj h1 h2 => HQ.out.2 j x y hj h1 h2))
        clear hlt hk
        go_wp2_with fail
        go_ret
        exact ⟨by rw [HN.out]; rfl, HQ.out.1⟩
  · have hne : ((n : Int) != (m : Int)) = true := by rw [bne_iff_ne]; omega
    have hF : r = false := by
      cases r with
      | false => rfl
      | true =>
        have h4 := congrArg List.length (hr.1 rfl)
        rw [List.length_map, List.length_map] at h4
        omega
    subst hF
    clear hr hnm ha hb hx hy hn hws
    go_enter Tryd.func19, Tryd.ntmps19
    go_wp2_with fail
    go_ret
    exact ⟨rfl, Below.refl _ _⟩
end Go.Proofs.YtmomidkodjihjaaDoor
