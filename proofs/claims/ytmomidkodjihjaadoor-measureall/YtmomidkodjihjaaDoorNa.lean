/- The document's Check, Words, Encode. -/
import Derived.Test.YtmomidkodjihjaaDoorMmMn
namespace Go.Proofs.YtmomidkodjihjaaDoor
open Go.RowKit
open H
set_option maxHeartbeats 4000000
set_option maxRecDepth 100000
theorem rck_3 (W : World) (k a : Int) (p : Option Addr) (n c : Nat) (h : k = 3) (hn : n = 1024) :
    Calls Tryd.prog 47 #[.agg #[.int .i64 k, .int .u32 a, .slice p n c]] W fun e W' => e = .returned (.int .i64 0) ∧ Below W.heap.size W W' := by
  have HB := hid (below_one W (.cells #[.int .i64 k, .int .u32 a, .slice p n c] 80))
  subst h hn
  go_enter Tryd.func47, Tryd.ntmps47
  go_wp2_with fail
  go_ret
  exact ⟨rfl, HB.out⟩
theorem rck_3n (W : World) (k a : Int) (p : Option Addr) (n c : Nat) (h : k = 3) (hn : ((n : Int) != 1024) = true) :
    Calls Tryd.prog 47 #[.agg #[.int .i64 k, .int .u32 a, .slice p n c]] W fun e W' => e = .returned (.int .i64 150) ∧ Below W.heap.size W W' := by
  have HB := hid (below_one W (.cells #[.int .i64 k, .int .u32 a, .slice p n c] 80))
  subst h
  go_enter Tryd.func47, Tryd.ntmps47
  go_wp2_with fail
  go_ret
  exact ⟨rfl, HB.out⟩
theorem rck_lo (W : World) (k a : Int) (p : Option Addr) (n c : Nat) (h : (k == 3) = false) (hk : k < 1) :
    Calls Tryd.prog 47 #[.agg #[.int .i64 k, .int .u32 a, .slice p n c]] W fun e W' => e = .returned (.int .i64 150) ∧ Below W.heap.size W W' := by
  have HB := hid (below_one W (.cells #[.int .i64 k, .int .u32 a, .slice p n c] 80))
  go_enter Tryd.func47, Tryd.ntmps47
  go_wp2_with fail
  go_ret
  exact ⟨rfl, HB.out⟩
theorem rck_hi (W : World) (k a : Int) (p : Option Addr) (n c : Nat) (h : (k == 3) = false) (hk : 4 < k) :
    Calls Tryd.prog 47 #[.agg #[.int .i64 k, .int .u32 a, .slice p n c]] W fun e W' => e = .returned (.int .i64 150) ∧ Below W.heap.size W W' := by
  have HB := hid (below_one W (.cells #[.int .i64 k, .int .u32 a, .slice p n c] 80))
  have h1 : ¬ (k < 1) := by omega
  go_enter Tryd.func47, Tryd.ntmps47
  go_wp2_with fail
  go_ret
  exact ⟨rfl, HB.out⟩
theorem rck_n (W : World) (k a : Int) (p : Option Addr) (n c : Nat) (h : (k == 3) = false) (h1 : 1 ≤ k) (h4 : k ≤ 4) (hn : ((n : Int) != 0) = true) :
    Calls Tryd.prog 47 #[.agg #[.int .i64 k, .int .u32 a, .slice p n c]] W fun e W' => e = .returned (.int .i64 150) ∧ Below W.heap.size W W' := by
  have HB := hid (below_one W (.cells #[.int .i64 k, .int .u32 a, .slice p n c] 80))
  go_enter Tryd.func47, Tryd.ntmps47
  go_wp2_with fail
  go_ret
  exact ⟨rfl, HB.out⟩
theorem rck_ok (W : World) (k a : Int) (p : Option Addr) (n c : Nat) (h : (k == 3) = false) (h1 : 1 ≤ k) (h4 : k ≤ 4) (hn : n = 0) :
    Calls Tryd.prog 47 #[.agg #[.int .i64 k, .int .u32 a, .slice p n c]] W fun e W' => e = .returned (.int .i64 0) ∧ Below W.heap.size W W' := by
  have HB := hid (below_one W (.cells #[.int .i64 k, .int .u32 a, .slice p n c] 80))
  subst hn
  go_enter Tryd.func47, Tryd.ntmps47
  go_wp2_with fail
  go_ret
  exact ⟨rfl, HB.out⟩
theorem rcheck_any (W : World) (k a : Int) (p : Option Addr) (n c : Nat) :
    Calls Tryd.prog 47 #[.agg #[.int .i64 k, .int .u32 a, .slice p n c]] W fun e W' => e = .returned (.int .i64 (if okk k n = true then 0 else 150)) ∧ Below W.heap.size W W' := by
  by_cases h3 : k = 3
  · by_cases hn : n = 1024
    · rw [if_pos (by unfold okk; rw [decide_eq_true_iff, h3]; exact ⟨by decide, by decide, by rw [hn]; rfl⟩)]
      exact rck_3 W k a p n c h3 hn
    · rw [if_neg (by unfold okk; rw [decide_eq_true_iff, h3]; exact fun h => hn h.2.2)]
      exact rck_3n W k a p n c h3 (by rw [bne_iff_ne]; omega)
  · have h3' : (k == 3) = false := by simpa using h3
    have hpg : pgN k = 0 := if_neg h3
    by_cases h1 : k < 1
    · rw [if_neg (by unfold okk; rw [decide_eq_true_iff]; omega)]
      exact rck_lo W k a p n c h3' h1
    · by_cases h4 : 4 < k
      · rw [if_neg (by unfold okk; rw [decide_eq_true_iff]; omega)]
        exact rck_hi W k a p n c h3' h4
      · by_cases hn : n = 0
        · rw [if_pos (by unfold okk; rw [decide_eq_true_iff]; omega)]
          exact rck_ok W k a p n c h3' (by omega) (by omega) hn
        · rw [if_neg (by unfold okk; rw [decide_eq_true_iff]; omega)]
          exact rck_n W k a p n c h3' (by omega) (by omega) (by rw [bne_iff_ne]; omega)
/-- Two words, of the call's own. -/
theorem holds_two {W w : World} (hb : Below W.heap.size W w) (x y : Int) : Holds W (w.alloc (.cells #[.int .u32 x, .int .u32 y] 24)) .u32 24 (.slice (some ⟨w.heap.size, 0, none⟩) 2 2) [x, y] :=
  ⟨⟨rfl, .inr ⟨w.heap.size, 2, #[.int .u32 x, .int .u32 y], rfl, hb.size, heap_alloc_new _ _, Nat.le_refl _, by unfold maxLen; decide, rfl, rfl⟩⟩, below_on hb (below_one _ _)⟩
theorem run_append_n {w : World} (ty : TypeId) (av : Option Addr) (q cv c : Nat) (hq : q ≤ cv) : (Builtin.append_ #[22, 22] ty #[.slice av q cv, .slice none 0 c]).run Tryd.prog w = .ok (.slice av q cv) w := by
  obtain ⟨i, hi, hz, hsize, hby⟩ := info_parts Tryd.info24
  cases av <;> simp [Builtin.append_, run_underlying Tryd.underlying22, sizeOf, typeInfo, hi, Builtin.lenOf, Builtin.firstCells, hq, storeCells]
/-- append of a list that may be nil. -/
theorem run_append_m {V w : World} (ty : TypeId) {av : Option Addr} {q cv : Nat} {L : List Int} (H : Holds V w .u32 24 (.slice av q cv) L) (p : Option Addr) (m c : Nat) (xs : List Int) (hl : xs.length = m) (hat : At w .u32 p xs) (hb : (L.length + m) * 4 ≤ 140737488355328) :
    ∃ v' w', (Builtin.append_ #[22, 22] ty #[.slice av q cv, .slice p m c]).run Tryd.prog w = .ok v' w' ∧ Holds V w' .u32 24 v' (L ++ xs) := by
  cases p with
  | some ad => exact run_append_h ty H ad m c xs hl hat hb
  | none =>
    have hx0 : xs = [] := by
      rcases hat with h0 | ⟨b, off, h1, _⟩
      · exact h0
      · cases h1
    subst hx0
    simp at hl
    subst hl
    exact ⟨_, w, run_append_n ty av q cv c (holds_at' H).2.2, by rw [List.append_nil]; exact H⟩
theorem rwords_any (W : World) (o : MOp) (ho : o.Ok) (p : Option Addr) (c : Nat) (hat : At W .u32 p o.ws) :
    Calls Tryd.prog 69 #[.agg #[.int .i64 o.k, .int .u32 o.a, .slice p o.ws.length c]] W fun e W' => ∃ v, e = .returned v ∧ Holds W W' .u32 24 v o.wds := by
  obtain ⟨h1, h4, hw⟩ := ho
  have hwl : o.ws.length ≤ 1024 := by rw [hw]; unfold pgN; split <;> omega
  obtain ⟨k, a, ws⟩ := o
  simp only at h1 h4 hw hat hwl
  have wk : IntKind.wrap .u32 k = k := by rw [IntKind.wrap_u32]; omega
  have HB := hid (below_one W (.cells #[.int .i64 k, .int .u32 a, .slice p ws.length c] 80))
  have HC : Hid (Cel (W.alloc (.cells #[.int .i64 k, .int .u32 a, .slice p ws.length c] 80)) W.heap.size 80 [.int .i64 k, .int .u32 a, .slice p ws.length c]) := hid (heap_alloc_new _ _)
  have H2 := hid (holds_two HB.out k a)
  have HA := hid ((hat.below HB.out).below (below_one (W.alloc (.cells #[.int .i64 k, .int .u32 a, .slice p ws.length c] 80)) (.cells #[.int .u32 k, .int .u32 a] 24)))
  have HL := hid hwl
  have c2 := (HC.out.on (below_one _ (.cells #[.int .u32 k, .int .u32 a] 24))).cell 2
  simp only [List.getElem?_cons_zero, List.getElem?_cons_succ] at c2
  have e1 : (W.alloc (.cells #[.int .i64 k, .int .u32 a, .slice p ws.length c] 80)).heap.size = W.heap.size + 1 := by simp
  rw [e1] at H2
  clear h1 h4 hw hat hwl HB HC e1
  show Calls Tryd.prog 69 #[.agg #[.int .i64 k, .int .u32 a, .slice p ws.length c]] W fun e W' => ∃ v, e = .returned v ∧ Holds W W' .u32 24 v (k :: a :: ws)
  go_enter Tryd.func69, Tryd.ntmps69
  go_wp2_with (at_builtin; obtain ⟨v1, w1, hr, h1⟩ := run_append_m 22 H2.out p _ c ws rfl HA.out (by have := HL.out; simp only [List.length_cons, List.length_nil]; omega); refine wpList_append_q rfl _ _ rfl _ rfl _ rfl hr ?_; have H1 := hid h1; clear h1 hr)
  go_ret
  exact ⟨_, rfl, H1.out⟩
/-- What the document's Encode has laid behind j of them. -/
structure REncJ (W wr : World) (l : List Ov) (j : Nat) (v : Value) : Prop where
  hold : Holds W wr .u32 24 v (enc ((l.take j).map Ov.o))
  len : (enc ((l.take j).map Ov.o)).length ≤ 262144
theorem rencode_any (W : World) (ao : Option Addr) (n c : Nat) (l : List Ov) (hn : l.length = n) (h : OL W ao l) (hm : n ≤ 4611686018427387904) :
    Calls Tryd.prog 30 #[.slice ao n c] W fun e W' => Below W.heap.size W W' ∧ encR (l.map Ov.o) e W W' := by
  have HO := hid h
  have HN := hid hn
  have q0 : (n : Int) ≤ 4611686018427387904 := by omega
  clear h hm hn
  go_enter Tryd.func30, Tryd.ntmps30
  go_wp2_with fail
  go_loopw [4] (fun i wr => ∃ j : Nat, j ≤ n ∧ i = .int .i64 (j : Int) ∧ Hid (Below W.heap.size W wr ∧ ∀ i x, i < j → l[i]? = some x → x.o.Ok)) (fun i _ => n - (intOf i).toNat)
  case atStart => exact ⟨0, Nat.zero_le _, rfl, hid ⟨Below.refl _ _, by intro i x hi; omega⟩⟩
  case round =>
    obtain ⟨j, hj, rfl, HQ⟩ := hrel
    by_cases hlt : j < n
    · obtain ⟨x, hx⟩ : ∃ x, l[j]? = some x := ⟨l[j]'(by rw [HN.out]; exact hlt), List.getElem?_eq_getElem _⟩
      obtain ⟨b, off, rfl, hc⟩ := HO.out.at hx
      obtain ⟨c0, c1, c2⟩ := hc wr HQ.out.1
      have HX := hid hx
      have HJ := hid hlt
      have q1 : (j : Int) < (n : Int) := by omega
      have q2 : (0 : Int) ≤ (j : Int) := by omega
      have HOp := hid (fun w => rcheck_any w x.o.k x.o.a x.p x.o.ws.length x.c)
      have HI := hid (okk_iff x.o)
      have HMem : Hid (x ∈ l) := hid (List.mem_of_getElem? hx)
      clear hx hlt hc hj
      obtain ⟨⟨xk, xa, xw⟩, xp, xc⟩ := x
      simp only at HOp c0 c1 c2 HI
      cases ho : okk xk xw.length
      · rw [ho] at HOp HI
        simp only [Bool.false_eq_true, if_false] at HOp
        clear ho
        go_wp2_with (go_at_call 47; refine (HOp.out _).mono ?_; rintro e w1 ⟨rfl, hb⟩; have HC := hid (below_on HQ.out.1 hb); clear hb)
        go_ret2
        exact ⟨HC.out, .inl ⟨⟨_, List.mem_map_of_mem HMem.out, fun hk => absurd (HI.out.2 hk) (by decide)⟩, rfl⟩⟩
      · rw [ho] at HOp HI
        simp only [if_true] at HOp
        clear ho
        go_wp2_with (go_at_call 47; refine (HOp.out _).mono ?_; rintro e w1 ⟨rfl, hb⟩; have HC := hid (below_on HQ.out.1 hb); clear hb)
        go_roundw
        case measure => have := HJ.out; simp [intOf] <;> omega
        case rel => exact ⟨j + 1, HJ.out, by simp, hid ⟨HC.out, fun i y hi hy => by
          by_cases e : i = j
          · subst e; rw [HX.out] at hy; cases hy; exact HI.out.1 (by trivial)
          · exact HQ.out.2 i y (by omega) hy⟩⟩
    · obtain rfl : j = n := by omega
      have HOk : Hid (∀ o ∈ l.map Ov.o, o.Ok) := hid (fun o ho => by
        obtain ⟨x, hx, rfl⟩ := List.mem_map.1 ho
        obtain ⟨i, hi⟩ := List.mem_iff_getElem?.1 hx
        exact HQ.out.2 i x (by rw [← HN.out]; exact (List.getElem?_eq_some_iff.1 hi).1) hi)
      have HB0 := hid HQ.out.1
      clear hj hlt HQ
      go_wp2_with fail
      go_loopw [6, 7] (fun v i wr => ∃ q : Nat, q ≤ j ∧ i = .int .i64 (q : Int) ∧ Hid (REncJ W wr l q v)) (fun _ i _ => j - (intOf i).toNat)
      case atStart => exact ⟨0, Nat.zero_le _, rfl, hid ⟨by simpa [enc] using holds_on (Holds.start W .u32 24) HB0.out, by simp [enc]⟩⟩
      case round =>
        obtain ⟨q, hq, rfl, HR⟩ := hrel
        obtain ⟨av, cv, hv, _⟩ := HR.out.hold.at'
        obtain ⟨L, hL⟩ : ∃ L, L = enc ((l.take q).map Ov.o) := ⟨_, rfl⟩
        have HLl := hid HR.out.len
        have HH := hid HR.out.hold
        rw [← hL] at hv HLl HH
        subst hv
        have HLe := hid hL
        clear hL HR
        by_cases hlt : q < j
        · obtain ⟨x, hx⟩ : ∃ x, l[q]? = some x := ⟨l[q]'(by rw [HN.out]; exact hlt), List.getElem?_eq_getElem _⟩
          obtain ⟨b, off, rfl, hc⟩ := HO.out.at hx
          have HCe := hid hc
          have HS : Hid (enc ((l.take (q + 1)).map Ov.o) = L ++ x.o.wds) := hid (by rw [take_snoc_map l q x hx, enc_snoc, HLe.out])
          have HXo := hid (HOk.out x.o (List.mem_map_of_mem (List.mem_of_getElem? hx)))
          have HA := hid (HO.out.ws x (List.mem_of_getElem? hx))
          have q1 : (q : Int) < (j : Int) := by omega
          have q2 : (0 : Int) ≤ (q : Int) := by omega
          have wk : IntKind.wrap .u32 x.o.k = x.o.k := by rw [IntKind.wrap_u32]; have := HXo.out.1; have := HXo.out.2.1; omega
          have HW := hid (wds_len x.o HXo.out)
          have HJ := hid hlt
          have HLong : Hid (262144 < (L ++ x.o.wds).length → 262144 < (enc (l.map Ov.o)).length) := hid (fun hh => by
            have h5 := enc_take_le (l.map Ov.o) (q + 1)
            rw [← List.map_take, HS.out] at h5
            omega)
          clear hlt hq hx hc
          obtain ⟨⟨xk, xa, xw⟩, xp, xc⟩ := x
          simp only [MOp.wds] at HS HXo HA HW wk HLong
          simp only at HCe HA wk
          go_upto_region 11 with fail
          have X0 := hid (holds_drew HH.out)
          clear HH
          refine wp_region_held_drew (S := fun w => Below W.heap.size W w) (by kernel_rfl) X0.out.below (fun hHeld => ?_)
          generalize World.drew _ = w0 at *
          refine wpAnyH_take (i := 0) (oi := { dst := some 28, op := Op.move (Operand.tmp 6), type := 22, pos := "ref.go:63", after := #[], guard := none }) (v := .slice av L.length cv) rfl (by kernel_rfl) (by kernel_rfl) (by kernel_rfl) (fun _ _ _ h => h) (Or.inl ⟨by rfl, by intro w hSw; go_simp⟩) (by assumption) ?_
          simp only [Act.put, List.setIfInBounds_toArray, List.set_cons_zero, List.set_cons_succ]
          refine wpAnyH_take (i := 1) (oi := { dst := some 29, op := Op.move (Operand.tmp 0), type := 71, pos := "ref.go:63", after := #[], guard := none }) (v := .slice (some ⟨b, off, none⟩) j c) rfl (by kernel_rfl) (by kernel_rfl) (by kernel_rfl) (fun _ _ _ h => h) (Or.inl ⟨by rfl, by intro w hSw; go_simp⟩) (by assumption) ?_
          simp only [Act.put, List.setIfInBounds_toArray, List.set_cons_zero, List.set_cons_succ]
          refine wpAnyH_take (i := 2) (oi := { dst := some 30, op := Op.move (Operand.tmp 7), type := 3, pos := "ref.go:63", after := #[], guard := none }) (v := .int .i64 (q : Int)) rfl (by kernel_rfl) (by kernel_rfl) (by kernel_rfl) (fun _ _ _ h => h) (Or.inl ⟨by rfl, by intro w hSw; go_simp⟩) (by assumption) ?_
          simp only [Act.put, List.setIfInBounds_toArray, List.set_cons_zero, List.set_cons_succ]
          refine wpAnyH_take (i := 3) (oi := { dst := some 31, op := Op.indexAddr 71 (Operand.tmp 29) (Operand.tmp 30), type := 0, pos := "ref.go:63", after := #[{ on := 1, ground := Ground.data }, { on := 2, ground := Ground.data }], guard := none }) (v := .pointer (some ⟨b, off + q * 3, none⟩)) rfl (by kernel_rfl) (by kernel_rfl) (by kernel_rfl) (fun _ _ _ h => h) (Or.inl ⟨by rfl, by intro w hSw; go_simp⟩) (by assumption) ?_
          simp only [Act.put, List.setIfInBounds_toArray, List.set_cons_zero, List.set_cons_succ]
          refine wpAnyH_take (i := 4) (oi := { dst := some 32, op := Op.fieldAddr 80 (Operand.tmp 31) 0, type := 0, pos := "ref.go:63", after := #[{ on := 3, ground := Ground.data }], guard := none }) (v := .pointer (some ⟨b, off + q * 3, none⟩)) rfl (by kernel_rfl) (by kernel_rfl) (by kernel_rfl) (fun _ _ _ h => h) (Or.inl ⟨by rfl, by intro w hSw; go_simp⟩) (by assumption) ?_
          simp only [Act.put, List.setIfInBounds_toArray, List.set_cons_zero, List.set_cons_succ]
          refine wpAnyH_take (i := 5) (oi := { dst := some 33, op := Op.load 3 (Operand.tmp 32), type := 3, pos := "ref.go:63", after := #[{ on := 4, ground := Ground.data }], guard := none }) (v := .int .i64 xk) rfl (by kernel_rfl) (by kernel_rfl) (by kernel_rfl) (fun _ _ _ h => h) (Or.inl ⟨by rfl, by intro w hSw; have hc := (HCe.out w hSw).1; go_simp⟩) (by assumption) ?_
          simp only [Act.put, List.setIfInBounds_toArray, List.set_cons_zero, List.set_cons_succ]
          refine wpAnyH_take (i := 6) (oi := { dst := some 34, op := Op.convert 3 24 (Operand.tmp 33), type := 24, pos := "ref.go:63", after := #[{ on := 5, ground := Ground.data }], guard := none }) (v := .int .u32 xk) rfl (by kernel_rfl) (by kernel_rfl) (by kernel_rfl) (fun _ _ _ h => h) (Or.inl ⟨by rfl, by intro w hSw; go_simp⟩) (by assumption) ?_
          simp only [Act.put, List.setIfInBounds_toArray, List.set_cons_zero, List.set_cons_succ]
          refine wpAnyH_take (i := 7) (oi := { dst := some 35, op := Op.move (Operand.tmp 0), type := 71, pos := "ref.go:63", after := #[], guard := none }) (v := .slice (some ⟨b, off, none⟩) j c) rfl (by kernel_rfl) (by kernel_rfl) (by kernel_rfl) (fun _ _ _ h => h) (Or.inl ⟨by rfl, by intro w hSw; go_simp⟩) (by assumption) ?_
          simp only [Act.put, List.setIfInBounds_toArray, List.set_cons_zero, List.set_cons_succ]
          refine wpAnyH_take (i := 8) (oi := { dst := some 36, op := Op.move (Operand.tmp 7), type := 3, pos := "ref.go:63", after := #[], guard := none }) (v := .int .i64 (q : Int)) rfl (by kernel_rfl) (by kernel_rfl) (by kernel_rfl) (fun _ _ _ h => h) (Or.inl ⟨by rfl, by intro w hSw; go_simp⟩) (by assumption) ?_
          simp only [Act.put, List.setIfInBounds_toArray, List.set_cons_zero, List.set_cons_succ]
          refine wpAnyH_take (i := 9) (oi := { dst := some 37, op := Op.indexAddr 71 (Operand.tmp 35) (Operand.tmp 36), type := 0, pos := "ref.go:63", after := #[{ on := 7, ground := Ground.data }, { on := 8, ground := Ground.data }], guard := none }) (v := .pointer (some ⟨b, off + q * 3, none⟩)) rfl (by kernel_rfl) (by kernel_rfl) (by kernel_rfl) (fun _ _ _ h => h) (Or.inl ⟨by rfl, by intro w hSw; go_simp⟩) (by assumption) ?_
          simp only [Act.put, List.setIfInBounds_toArray, List.set_cons_zero, List.set_cons_succ]
          refine wpAnyH_take (i := 10) (oi := { dst := some 38, op := Op.fieldAddr 80 (Operand.tmp 37) 1, type := 0, pos := "ref.go:63", after := #[{ on := 9, ground := Ground.data }], guard := none }) (v := .pointer (some ⟨b, off + q * 3 + 1, none⟩)) rfl (by kernel_rfl) (by kernel_rfl) (by kernel_rfl) (fun _ _ _ h => h) (Or.inl ⟨by rfl, by intro w hSw; go_simp⟩) (by assumption) ?_
          simp only [Act.put, List.setIfInBounds_toArray, List.set_cons_zero, List.set_cons_succ]
          refine wpAnyH_take (i := 11) (oi := { dst := some 39, op := Op.load 24 (Operand.tmp 38), type := 24, pos := "ref.go:63", after := #[{ on := 10, ground := Ground.data }], guard := none }) (v := .int .u32 xa) rfl (by kernel_rfl) (by kernel_rfl) (by kernel_rfl) (fun _ _ _ h => h) (Or.inl ⟨by rfl, by intro w hSw; have hc := (HCe.out w hSw).2.1; go_simp⟩) (by assumption) ?_
          simp only [Act.put, List.setIfInBounds_toArray, List.set_cons_zero, List.set_cons_succ]
          refine wpAnyH_ready (rs := [12]) (by kernel_rfl) (by simp) (AllReadyH.cons (o := { dst := some 40, op := Op.buildSlice 22 2 #[(0, Operand.tmp 34), (1, Operand.tmp 39)], type := 22, pos := "ref.go:63", after := #[{ on := 6, ground := Ground.data }, { on := 11, ground := Ground.data }], guard := none }) rfl (fun KQ hK => ?_) AllReadyH.nil)
          go_simp
          have X1 : Hid (Holds W (w0.alloc (.cells #[.int .u32 xk, .int .u32 xa] 24)) .u32 24 (.slice av L.length cv) L) := hid (X0.out.alloc _)
          have HS1 : Hid (At (w0.alloc (.cells #[.int .u32 xk, .int .u32 xa] 24)) .u32 (some ⟨w0.heap.size, 0, none⟩) [xk, xa]) := hid (Blk.new w0 .u32 24 [xk, xa]).at
          clear X0
          generalize World.alloc _ _ = w1 at *
          generalize w0.heap.size = g1 at *
          refine hK.out _ _ X1.out.below (fun hHeld => ?_)
          clear hK KQ
          try simp only [Act.put, List.setIfInBounds_toArray, List.set_cons_zero, List.set_cons_succ]
          refine wpAnyH_ready (rs := [13]) (by kernel_rfl) (by simp) (AllReadyH.cons (o := { dst := some 41, op := Op.call { callee := Callee.builtin Builtin.append, args := #[Operand.tmp 28, Operand.tmp 40], argTypes := #[22, 22] }, type := 22, pos := "ref.go:63", after := #[{ on := 0, ground := Ground.data }, { on := 12, ground := Ground.data }], guard := none }) rfl (fun KQ hK => ?_) AllReadyH.nil)
          rw [if_pos (by rfl)]
          refine wp_append_h _ _ rfl _ L rfl X1.out _ 2 2 [xk, xa] rfl rfl HS1.out (by have := HLl.out; omega) ?_
          intro v2 w2 hh
          have X2 := hid hh
          clear hh X1 HS1
          refine hK.out _ _ X2.out.below (fun hHeld => ?_)
          clear hK KQ
          try simp only [Act.put, List.setIfInBounds_toArray, List.set_cons_zero, List.set_cons_succ]
          refine wpAnyH_ready (rs := [14]) (by kernel_rfl) (by simp) (AllReadyH.cons (o := { dst := some 6, op := Op.assign (Operand.tmp 41), type := 22, pos := "ref.go:63", after := #[{ on := 13, ground := Ground.data }, { on := 13, ground := Ground.chain }, { on := 0, ground := Ground.phase }, { on := 1, ground := Ground.phase }, { on := 2, ground := Ground.phase }, { on := 3, ground := Ground.phase }, { on := 4, ground := Ground.phase }, { on := 5, ground := Ground.phase }, { on := 6, ground := Ground.phase }, { on := 7, ground := Ground.phase }, { on := 8, ground := Ground.phase }, { on := 9, ground := Ground.phase }, { on := 10, ground := Ground.phase }, { on := 11, ground := Ground.phase }, { on := 12, ground := Ground.phase }, { on := 13, ground := Ground.phase }], guard := none }) rfl (fun KQ hK => ?_) AllReadyH.nil)
          go_simp
          refine hK.out _ _ X2.out.below (fun hHeld => ?_)
          clear hK KQ
          try simp only [Act.put, List.setIfInBounds_toArray, List.set_cons_zero, List.set_cons_succ]
          refine wpAnyH_done (by kernel_rfl) ?_ _
          clear wk
          obtain ⟨av2, cv2, hv2, _⟩ := X2.out.at'
          rw [List.length_append, show ([xk, xa] : List Int).length = 2 from rfl] at hv2
          subst hv2
          have c2 := (HCe.out _ X2.out.below).2.2
          go_upto_region 13 with (at_builtin; obtain ⟨v3, w3, hr3, h3⟩ := run_append_m 22 X2.out xp _ xc xw rfl (HA.out.below X2.out.below) (by have := HLl.out; have := HW.out; simp only [List.length_cons, List.length_append, List.length_nil] at *; omega); refine wpList_append_q rfl _ _ rfl _ rfl _ rfl hr3 ?_; have X3 := hid h3; clear h3 hr3)
          clear c2
          rw [List.append_assoc, show ([xk, xa] ++ xw : List Int) = xk :: xa :: xw from rfl] at X3
          obtain ⟨av3, cv3, hv3, _⟩ := X3.out.at'
          subst hv3
          generalize L ++ (xk :: xa :: xw) = L3 at *
          by_cases hlo : 262144 < L3.length
          · have hli : (262144 : Int) < (L3.length : Int) := by omega
            have HF := hid (HLong.out hlo)
            clear hlo
            go_wp2_with fail
            go_ret2
            exact ⟨X3.out.below, .inr (.inl ⟨HOk.out, HF.out, rfl⟩)⟩
          · have hli : (L3.length : Int) ≤ 262144 := by omega
            have HF := hid (show L3.length ≤ 262144 by omega)
            clear hlo
            go_wp2_with fail
            go_roundw
            case measure => have := HJ.out; simp [intOf] <;> omega
            case rel => exact ⟨q + 1, HJ.out, by simp, hid ⟨by rw [HS.out]; exact X3.out, by rw [HS.out]; exact HF.out⟩⟩
        · obtain rfl : q = j := by omega
          clear hlt hq
          go_wp2_with fail
          go_ret2
          refine ⟨HH.out.below, .inr (.inr ⟨HOk.out, ?_, _, rfl, ?_⟩)⟩
          · have h5 := HLl.out
            rw [HLe.out, ← HN.out, List.take_length] at h5
            exact h5
          · have h5 := HH.out
            rw [HLe.out, ← HN.out, List.take_length] at h5
            rw [HLe.out, ← HN.out, List.take_length]
            exact h5
end Go.Proofs.YtmomidkodjihjaaDoor
