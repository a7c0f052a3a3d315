/- EntryForms 4. -/
import Derived.Test.YtpijfaffbnojnaaEg
namespace Go.Proofs.Ytpijfaffbnojnaa
open Go.RowKit
set_option maxHeartbeats 8000000
set_option maxRecDepth 100000
def ow (t : Int) : Bool := decide (1 ≤ t ∧ t ≤ 6)
theorem uses_any (W : World) (t : Int) : Calls Try.prog 10 #[.int .i64 t] W fun e W' => e = .returned (.tuple #[.bool (ow t), .bool (t == 1), .bool (t == 2)]) ∧ W = W' := by
  unfold ow
  by_cases h1 : 1 ≤ t
  · by_cases h2 : t ≤ 6
    · have hd : decide (1 ≤ t ∧ t ≤ 6) = true := decide_eq_true ⟨h1, h2⟩
      rw [hd]
      go_enter Try.func10, Try.ntmps10
      go_wp2
      go_ret3
      exact ⟨rfl, rfl⟩
    · have hd : decide (1 ≤ t ∧ t ≤ 6) = false := decide_eq_false (by omega)
      rw [hd]
      go_enter Try.func10, Try.ntmps10
      go_wp2
      go_ret3
      exact ⟨rfl, rfl⟩
  · have hd : decide (1 ≤ t ∧ t ≤ 6) = false := decide_eq_false (by omega)
    rw [hd]
    go_enter Try.func10, Try.ntmps10
    go_wp2
    go_ret3
    exact ⟨rfl, rfl⟩
def L4f (b : Bool) (t o : Int) : Bool := (b && (decide (0 ≤ o) && decide (o ≤ 63))) || (t == 0 && o == 0)
def L5f (b l : Bool) (r s : Int) : Bool := if b then l && (decide (0 ≤ r) && (decide (r ≤ 63) && (decide (1 ≤ s) && decide (s ≤ 3)))) else l && (r == 0 && s == 0)
def L8f (b l e : Bool) : Bool := l && (b || !e)
def L4 (x : En) : Bool := L4f (ow x.t) x.t x.o
def L5 (x : En) : Bool := L5f (x.t == 1) (L4 x) x.r x.s
def L8 (x : En) : Bool := L8f (x.t == 2) (L5 x) x.e
theorem L8_ok (x : En) : L8 x = x.ok := by
  rw [Bool.eq_iff_iff, x.ok_iff]
  obtain ⟨t, o, r, s, e⟩ := x
  unfold L8 L5 L4 L8f L5f L4f ow
  constructor
  · intro h
    by_cases h1 : t = 1
    · subst h1
      simp at h
      obtain ⟨⟨h2, h3, h4, h5, h6⟩, h7⟩ := h
      exact ⟨by simp, by simp, by simp only; omega, by simp only; omega, by simp only; omega, by simp only; omega, by simp only; omega, by simp only; omega, by simp, by simp only; omega, by simp, by simp [h7]⟩
    · have h1' : (t == 1) = false := by simpa using h1
      simp only [h1'] at h
      simp at h
      obtain ⟨⟨h2, h3, h4⟩, h5⟩ := h
      exact ⟨by simp only; omega, by simp only; omega, by simp only; omega, by simp only; omega, by simp only; omega, by simp only; omega, by simp only; omega, by simp only; omega, by simp only; omega, fun h => absurd h h1, fun _ => ⟨h3, h4⟩, fun he => by rcases h5 with h5 | h5; exact h5; simp only at he; rw [h5] at he; cases he⟩
  · rintro ⟨t0, t1, o0, o1, r0, r1, s0, s1, z, sp, ns, en⟩
    simp only at *
    by_cases h1 : t = 1
    · subst h1
      have := sp rfl
      have he : e = false := by
        cases e
        · rfl
        · exact absurd (en rfl) (by decide)
      simp [he]
      omega
    · obtain ⟨hr, hs⟩ := ns h1
      have h1' : (t == 1) = false := by simpa using h1
      simp only [h1']
      simp [hr, hs]
      refine ⟨?_, ?_⟩
      · by_cases ht : t = 0
        · exact .inr ⟨ht, z ht⟩
        · exact .inl ⟨⟨by omega, by omega⟩, o0, by omega⟩
      · cases e
        · exact .inr rfl
        · exact .inl (en rfl)
theorem same_w {x y : En} (hx : x.ok = true) (hy : y.ok = true) : same2 (e0 x) (e1 x) (e0 y) (e1 y) = x.same y := by
  rw [Bool.eq_iff_iff, same2_iff, En.same_iff]
  constructor
  · rintro ⟨h1, h2⟩
    have := (dok_w hx).2
    rw [h1, h2, (dok_w hy).2] at this
    exact this.symm
  · rintro rfl
    exact ⟨rfl, rfl⟩
theorem forms_any (W : World) (x y : En) : Calls Try.prog 4 #[x.v, y.v] W fun e W' => e = .returned (.bool true) ∧ Below W.heap.size W W' := by
  have B0 := hid (Bag.two W 23 23 x.cs y.cs)
  have HG := hid (fun W => given_any W x)
  have HGy := hid (fun W => given_any W y)
  have HC := hid (fun W => check_any W x)
  have HE := hid (fun W => encode_any W x)
  have HEy := hid (fun W => encode_any W y)
  have HL := hid (L8_ok x)
  have HO := hid (And.intro (@chk_yes x) (And.intro (@chk_no x) (And.intro (@chk_yes y) (And.intro (@chk_no y) (@same_w x y)))))
  have HUs := hid (fun W => uses_any W x.t)
  have HT : Hid (ow x.t = true → ¬ x.t = 0) := hid (fun h => by unfold ow at h; simp at h; omega)
  have H4 : Hid (L4 x = L4f (ow x.t) x.t x.o) := hid rfl
  have H5 : Hid (L5 x = L5f (x.t == 1) (L4 x) x.r x.s) := hid rfl
  have H8 : Hid (L8 x = L8f (x.t == 2) (L5 x) x.e) := hid rfl
  generalize ow x.t = b5 at *
  generalize (x.t == 1) = b6 at *
  generalize (x.t == 2) = b7 at *
  generalize L4 x = l4 at *
  generalize L5 x = l5 at *
  generalize L8 x = l8 at *
  have HS : Hid (x.ok = true → y.ok = true → same2 (e0 x) (e1 x) (e0 y) (e1 y) = x.same y) := hid HO.out.2.2.2.2
  have HK : Hid ((x.ok = true → chk x = 0) ∧ (x.ok = false → chk x = 110 ∧ e0 x = 0 ∧ e1 x = 0) ∧ (y.ok = true → chk y = 0) ∧ (y.ok = false → chk y = 110 ∧ e0 y = 0 ∧ e1 y = 0)) := hid ⟨HO.out.1, HO.out.2.1, HO.out.2.2.1, HO.out.2.2.2.1⟩
  clear HO
  have HSm : Hid (∀ w : World, (Op.equalIn 10000 23 (.agg x.cs.toArray) (.agg y.cs.toArray)).run Try.prog w = .ok (x.same y) w) := hid (fun w => eqR w 9996 x y)
  generalize x.same y = sxy at *
  generalize x.ok = okx at *
  generalize y.ok = oky at *
  generalize chk x = ckx at *
  generalize chk y = cky at *
  generalize e0 x = v0 at *
  generalize e1 x = v1 at *
  generalize e0 y = u0 at *
  generalize e1 y = u1 at *
  obtain ⟨t, o, r, s, e⟩ := x
  simp only [En.v, En.cs, twoV] at *
  go_enter Try.func4, Try.ntmps4
  go_upto_region 1 with fail
  generalize hX : (W.alloc _).alloc _ = X at *
  clear hX
  generalize W.heap.size + 1 = g3 at *
  generalize W.heap.size = g2 at *
  go_upto_region 3 with (go_at_call 5; refine (head_any _).mono ?_; rintro e w1 ⟨rfl, hb⟩; have BC := hid (B0.out.on hb); clear hb)
  clear B0
  have c0 : w1.cell? ⟨g2, 0, none⟩ = some (.int .i64 t) := (BC.out.get 1 rfl).cell 0
  go_upto_region 4 with (go_at_call 10; refine (HUs.out _).mono ?_; rintro e w2 ⟨rfl, rfl⟩)
  clear HUs c0
  go_cut [8] (fun v w => v = .bool l4 ∧ w1 = w)
  case first =>
    have c0 := (BC.out.get 1 rfl).cell 0
    have c1 := (BC.out.get 1 rfl).cell 1
    have c2 := (BC.out.get 1 rfl).cell 2
    have c3 := (BC.out.get 1 rfl).cell 3
    have c4 := (BC.out.get 1 rfl).cell 4
    simp only [List.getElem?_cons_zero, List.getElem?_cons_succ] at c0 c1 c2 c3 c4
    rcases b5 with _ | _
    · by_cases ht : t = 0
      · subst ht
        have HV : Hid (l4 = (o == 0)) := hid (by rw [H4.out]; simp [L4f])
        go_wp2_with fail
        go_meet
        exact ⟨by rw [HV.out], rfl⟩
      · have ht' : (t == 0) = false := by simpa using ht
        have HV : Hid (l4 = false) := hid (by rw [H4.out]; simp [L4f, ht])
        go_wp2_with fail
        go_meet
        exact ⟨by rw [HV.out], rfl⟩
    · have ht := HT.out rfl
      have ht' : (t == 0) = false := by simpa using ht
      by_cases h0 : 0 ≤ o
      · by_cases h1 : o ≤ 63
        · have HV : Hid (l4 = true) := hid (by rw [H4.out]; simp [L4f, h0, h1])
          go_wp2_with fail
          go_meet
          exact ⟨by rw [HV.out], rfl⟩
        · have HV : Hid (l4 = false) := hid (by rw [H4.out]; simp [L4f, h1, ht])
          go_wp2_with fail
          go_meet
          exact ⟨by rw [HV.out], rfl⟩
      · have HV : Hid (l4 = false) := hid (by rw [H4.out]; simp [L4f, h0, ht])
        go_wp2_with fail
        go_meet
        exact ⟨by rw [HV.out], rfl⟩
  case rest =>
  obtain ⟨rfl, rfl⟩ := hcut
  refine (‹∀ (a : Act) (w : World), Code.wp Try.prog _ _ a w → _› _ _ ?_)
  clear H4 HT
  go_upto_if 43 with fail
  go_cut [8] (fun v w => v = .bool l5 ∧ w1 = w)
  case first =>
    have c0 := (BC.out.get 1 rfl).cell 0
    have c1 := (BC.out.get 1 rfl).cell 1
    have c2 := (BC.out.get 1 rfl).cell 2
    have c3 := (BC.out.get 1 rfl).cell 3
    have c4 := (BC.out.get 1 rfl).cell 4
    simp only [List.getElem?_cons_zero, List.getElem?_cons_succ] at c0 c1 c2 c3 c4
    rcases b6 with _ | _
    · rcases l4 with _ | _
      · have HV : Hid (l5 = false) := hid (by rw [H5.out]; simp [L5f])
        go_wp2_with fail
        go_meet
        exact ⟨by rw [HV.out], rfl⟩
      · by_cases r0 : r = 0
        · subst r0
          have HV : Hid (l5 = (s == 0)) := hid (by rw [H5.out]; simp [L5f])
          go_wp2_with fail
          go_meet
          exact ⟨by rw [HV.out], rfl⟩
        · have r0' : (r == 0) = false := by simpa using r0
          have HV : Hid (l5 = false) := hid (by rw [H5.out]; simp [L5f, r0])
          clear r0
          go_wp2_with fail
          go_meet
          exact ⟨by rw [HV.out], rfl⟩
    · rcases l4 with _ | _
      · have HV : Hid (l5 = false) := hid (by rw [H5.out]; simp [L5f])
        go_wp2_with fail
        go_meet
        exact ⟨by rw [HV.out], rfl⟩
      by_cases r0 : 0 ≤ r
      · by_cases r1 : r ≤ 63
        · by_cases s0 : 1 ≤ s
          · by_cases s1 : s ≤ 3
            · have HV : Hid (l5 = true) := hid (by rw [H5.out]; simp [L5f, r0, r1, s0, s1])
              go_wp2_with fail
              go_meet
              exact ⟨by rw [HV.out], rfl⟩
            · have HV : Hid (l5 = false) := hid (by rw [H5.out]; simp [L5f, s1])
              go_wp2_with fail
              go_meet
              exact ⟨by rw [HV.out], rfl⟩
          · have HV : Hid (l5 = false) := hid (by rw [H5.out]; simp [L5f, s0])
            go_wp2_with fail
            go_meet
            exact ⟨by rw [HV.out], rfl⟩
        · have HV : Hid (l5 = false) := hid (by rw [H5.out]; simp [L5f, r1])
          go_wp2_with fail
          go_meet
          exact ⟨by rw [HV.out], rfl⟩
      · have HV : Hid (l5 = false) := hid (by rw [H5.out]; simp [L5f, r0])
        go_wp2_with fail
        go_meet
        exact ⟨by rw [HV.out], rfl⟩
  case rest =>
  obtain ⟨rfl, rfl⟩ := hcut
  refine (‹∀ (a : Act) (w : World), Code.wp Try.prog _ _ a w → _› _ _ ?_)
  clear H5
  go_upto_region 8 with fail
  go_cut [8] (fun v w => v = .bool l8 ∧ w1 = w)
  case first =>
    have c0 := (BC.out.get 1 rfl).cell 0
    have c1 := (BC.out.get 1 rfl).cell 1
    have c2 := (BC.out.get 1 rfl).cell 2
    have c3 := (BC.out.get 1 rfl).cell 3
    have c4 := (BC.out.get 1 rfl).cell 4
    simp only [List.getElem?_cons_zero, List.getElem?_cons_succ] at c0 c1 c2 c3 c4
    rcases l5 with _ | _
    · have HV : Hid (l8 = false) := hid (by rw [H8.out]; simp [L8f])
      go_wp2_with fail
      go_meet
      exact ⟨by rw [HV.out], rfl⟩
    · rcases b7 with _ | _
      · have HV : Hid (l8 = (!e)) := hid (by rw [H8.out]; simp [L8f])
        go_wp2_with fail
        go_meet
        exact ⟨by rw [HV.out], rfl⟩
      · have HV : Hid (l8 = true) := hid (by rw [H8.out]; simp [L8f])
        go_wp2_with fail
        go_meet
        exact ⟨by rw [HV.out], rfl⟩
  case rest =>
  obtain ⟨rfl, rfl⟩ := hcut
  refine (‹∀ (a : Act) (w : World), Code.wp Try.prog _ _ a w → _› _ _ ?_)
  clear H8
  obtain rfl := HL.out.symm
  clear HL
  obtain ⟨k1, k2, k3, k4⟩ := HK.out
  clear HK
  rcases okx with _ | _ <;> rcases oky with _ | _
  · obtain ⟨rfl, rfl, rfl⟩ := k2 rfl
    obtain ⟨rfl, rfl, rfl⟩ := k4 rfl
    clear k1 k2 k3 k4
    go_upto_region 11 with (first | (refine wpList_load_mid rfl 23 _ rfl g2 0 rfl _ _ ((BC.out.get 1 rfl).range) underR rfl (by rw [sizeR]; rfl) ?_) | (go_at_call 9; refine (HG.out _).mono ?_; rintro e w2 ⟨rfl, hb⟩; have B1 := hid (BC.out.on hb); clear hb) | (go_at_call 8; refine (HC.out _).mono ?_; rintro e w3 ⟨rfl, hb⟩; have B2 := hid (B1.out.on hb); clear hb))
    go_upto_region 12 with (first | (refine wpList_load_mid rfl 23 _ rfl g2 0 rfl _ _ ((B2.out.get 1 rfl).range) underR rfl (by rw [sizeR]; rfl) ?_) | (go_at_call 9; refine (HG.out _).mono ?_; rintro e w4 ⟨rfl, hb⟩; have B3 := hid (B2.out.on hb); clear hb) | (go_at_call 7; refine (HE.out _).mono ?_; rintro e w5 ⟨rfl, hb⟩; have B4 := hid (B3.out.on hb); clear hb) | (refine wpList_store_st rfl 25 _ _ rfl w5.heap.size (two 0 0) rfl rfl (Cel.new w5 25 (two 0 0)) sizeA rfl rfl ?_; intro w6 hc hb hs; have B5 := hid (B4.out.add hc hb); clear hc hb hs))
    generalize w5.heap.size = g9 at *
    go_upto_region 13 with (first | (refine wpList_load_mid rfl 23 _ rfl g3 0 rfl _ _ ((B5.out.get 1 rfl).range) underR rfl (by rw [sizeR]; rfl) ?_) | (go_at_call 9; refine (HGy.out _).mono ?_; rintro e w7 ⟨rfl, hb⟩; have B6 := hid (B5.out.on hb); clear hb) | (go_at_call 7; refine (HEy.out _).mono ?_; rintro e w8 ⟨rfl, hb⟩; have B7 := hid (B6.out.on hb); clear hb) | (refine wpList_store_st rfl 25 _ _ rfl w8.heap.size (two 0 0) rfl rfl (Cel.new w8 25 (two 0 0)) sizeA rfl rfl ?_; intro w9 hc hb hs; have B8 := hid (B7.out.add hc hb); clear hc hb hs))
    generalize w8.heap.size = g11 at *
    · have HK := hid (B8.out.on (Below.refl _ _).drew)
      refine wp_region_held_drew (S := fun w => Bag W w [(g11, 25, (two 0 0)), (g9, 25, (two 0 0)), (g3, 23, [.int .i64 y.t, .int .i64 y.o, .int .i64 y.r, .int .i64 y.s, .bool y.e]), (g2, 23, [.int .i64 t, .int .i64 o, .int .i64 r, .int .i64 s, .bool e])]) (by kernel_rfl) HK.out (fun hHeld => ?_)
      refine wpAnyH_take (i := 0) (oi := { dst := some 103, op := Op.move (Operand.tmp 10), type := 31, pos := "law.go:101", after := #[], guard := none }) (v := .int .i64 110) rfl (by kernel_rfl) (by kernel_rfl) (by kernel_rfl) (fun _ _ _ h => h) (Or.inl ⟨by rfl, by intro w hSw; go_simp⟩) (by assumption) ?_
      simp only [Act.put, List.setIfInBounds_toArray, List.set_cons_zero, List.set_cons_succ]
      refine wpAnyH_take (i := 1) (oi := { dst := some 104, op := Op.binOp BinOp.neq 3 (Operand.tmp 103) (Operand.const (Value.int IntKind.i64 0)) 3, type := 4, pos := "law.go:101", after := #[{ on := 0, ground := Ground.data }], guard := none }) (v := .bool true) rfl (by kernel_rfl) (by kernel_rfl) (by kernel_rfl) (fun _ _ _ h => h) (Or.inl ⟨by rfl, by intro w hSw; go_simp⟩) (by assumption) ?_
      simp only [Act.put, List.setIfInBounds_toArray, List.set_cons_zero, List.set_cons_succ]
      refine wpAnyH_take (i := 2) (oi := { dst := some 105, op := Op.move (Operand.tmp 104), type := 4, pos := "law.go:101", after := #[{ on := 1, ground := Ground.data }], guard := none }) (v := .bool true) rfl (by kernel_rfl) (by kernel_rfl) (by kernel_rfl) (fun _ _ _ h => h) (Or.inl ⟨by rfl, by intro w hSw; go_simp⟩) (by assumption) ?_
      simp only [Act.put, List.setIfInBounds_toArray, List.set_cons_zero, List.set_cons_succ]
      refine wpAnyH_take (i := 3) (oi := { dst := some 106, op := Op.move (Operand.tmp 12), type := 31, pos := "law.go:101", after := #[{ on := 2, ground := Ground.guard }], guard := some (2, false) }) (v := undef) rfl (by kernel_rfl) (by kernel_rfl) (by kernel_rfl) (fun _ _ _ h => h) (Or.inr ⟨by rfl, rfl⟩) (by assumption) ?_
      simp only [Act.put, List.setIfInBounds_toArray, List.set_cons_zero, List.set_cons_succ]
      refine wpAnyH_take (i := 4) (oi := { dst := some 107, op := Op.binOp BinOp.neq 3 (Operand.tmp 106) (Operand.const (Value.int IntKind.i64 0)) 3, type := 4, pos := "law.go:101", after := #[{ on := 3, ground := Ground.data }, { on := 2, ground := Ground.guard }], guard := some (2, false) }) (v := undef) rfl (by kernel_rfl) (by kernel_rfl) (by kernel_rfl) (fun _ _ _ h => h) (Or.inr ⟨by rfl, rfl⟩) (by assumption) ?_
      simp only [Act.put, List.setIfInBounds_toArray, List.set_cons_zero, List.set_cons_succ]
      refine wpAnyH_take (i := 5) (oi := { dst := some 108, op := Op.pick (Operand.tmp 105) (Operand.const (Value.bool true)) (Operand.tmp 107), type := 4, pos := "law.go:101", after := #[{ on := 2, ground := Ground.data }, { on := 4, ground := Ground.data }], guard := none }) (v := .bool true) rfl (by kernel_rfl) (by kernel_rfl) (by kernel_rfl) (fun _ _ _ h => h) (Or.inl ⟨by rfl, by intro w hSw; go_simp⟩) (by assumption) ?_
      simp only [Act.put, List.setIfInBounds_toArray, List.set_cons_zero, List.set_cons_succ]
      refine wpAnyH_take (i := 6) (oi := { dst := some 109, op := Op.move (Operand.tmp 108), type := 4, pos := "law.go:101", after := #[{ on := 5, ground := Ground.data }, { on := 2, ground := Ground.chain }], guard := none }) (v := .bool true) rfl (by kernel_rfl) (by kernel_rfl) (by kernel_rfl) (fun _ _ _ h => h) (Or.inl ⟨by rfl, by intro w hSw; go_simp⟩) (by assumption) ?_
      simp only [Act.put, List.setIfInBounds_toArray, List.set_cons_zero, List.set_cons_succ]
      refine wpAnyH_take (i := 7) (oi := { dst := some 110, op := Op.load 25 (Operand.tmp 9), type := 25, pos := "law.go:101", after := #[{ on := 6, ground := Ground.guard }], guard := some (6, false) }) (v := undef) rfl (by kernel_rfl) (by kernel_rfl) (by kernel_rfl) (fun _ _ _ h => h) (Or.inr ⟨by rfl, rfl⟩) (by assumption) ?_
      simp only [Act.put, List.setIfInBounds_toArray, List.set_cons_zero, List.set_cons_succ]
      refine wpAnyH_take (i := 8) (oi := { dst := some 111, op := Op.load 25 (Operand.tmp 11), type := 25, pos := "law.go:101", after := #[{ on := 6, ground := Ground.guard }], guard := some (6, false) }) (v := undef) rfl (by kernel_rfl) (by kernel_rfl) (by kernel_rfl) (fun _ _ _ h => h) (Or.inr ⟨by rfl, rfl⟩) (by assumption) ?_
      simp only [Act.put, List.setIfInBounds_toArray, List.set_cons_zero, List.set_cons_succ]
      refine wpAnyH_take (i := 9) (oi := { dst := some 112, op := Op.binOp BinOp.eql 25 (Operand.tmp 110) (Operand.tmp 111) 25, type := 4, pos := "law.go:101", after := #[{ on := 7, ground := Ground.data }, { on := 8, ground := Ground.data }, { on := 6, ground := Ground.guard }], guard := some (6, false) }) (v := undef) rfl (by kernel_rfl) (by kernel_rfl) (by kernel_rfl) (fun _ _ _ h => h) (Or.inr ⟨by rfl, rfl⟩) (by assumption) ?_
      simp only [Act.put, List.setIfInBounds_toArray, List.set_cons_zero, List.set_cons_succ]
      refine wpAnyH_take (i := 10) (oi := { dst := some 113, op := Op.load 23 (Operand.tmp 2), type := 23, pos := "law.go:101", after := #[{ on := 6, ground := Ground.guard }], guard := some (6, false) }) (v := undef) rfl (by kernel_rfl) (by kernel_rfl) (by kernel_rfl) (fun _ _ _ h => h) (Or.inr ⟨by rfl, rfl⟩) (by assumption) ?_
      simp only [Act.put, List.setIfInBounds_toArray, List.set_cons_zero, List.set_cons_succ]
      refine wpAnyH_take (i := 11) (oi := { dst := some 114, op := Op.load 23 (Operand.tmp 3), type := 23, pos := "law.go:101", after := #[{ on := 6, ground := Ground.guard }], guard := some (6, false) }) (v := undef) rfl (by kernel_rfl) (by kernel_rfl) (by kernel_rfl) (fun _ _ _ h => h) (Or.inr ⟨by rfl, rfl⟩) (by assumption) ?_
      simp only [Act.put, List.setIfInBounds_toArray, List.set_cons_zero, List.set_cons_succ]
      refine wpAnyH_take (i := 12) (oi := { dst := some 115, op := Op.binOp BinOp.eql 23 (Operand.tmp 113) (Operand.tmp 114) 23, type := 4, pos := "law.go:101", after := #[{ on := 10, ground := Ground.data }, { on := 11, ground := Ground.data }, { on := 6, ground := Ground.guard }], guard := some (6, false) }) (v := undef) rfl (by kernel_rfl) (by kernel_rfl) (by kernel_rfl) (fun _ _ _ h => h) (Or.inr ⟨by rfl, rfl⟩) (by assumption) ?_
      simp only [Act.put, List.setIfInBounds_toArray, List.set_cons_zero, List.set_cons_succ]
      refine wpAnyH_take (i := 13) (oi := { dst := some 116, op := Op.binOp BinOp.eql 4 (Operand.tmp 112) (Operand.tmp 115) 4, type := 4, pos := "law.go:101", after := #[{ on := 9, ground := Ground.data }, { on := 12, ground := Ground.data }, { on := 6, ground := Ground.guard }], guard := some (6, false) }) (v := undef) rfl (by kernel_rfl) (by kernel_rfl) (by kernel_rfl) (fun _ _ _ h => h) (Or.inr ⟨by rfl, rfl⟩) (by assumption) ?_
      simp only [Act.put, List.setIfInBounds_toArray, List.set_cons_zero, List.set_cons_succ]
      refine wpAnyH_take (i := 14) (oi := { dst := some 117, op := Op.pick (Operand.tmp 109) (Operand.const (Value.bool true)) (Operand.tmp 116), type := 4, pos := "law.go:101", after := #[{ on := 6, ground := Ground.data }, { on := 13, ground := Ground.data }], guard := none }) (v := .bool true) rfl (by kernel_rfl) (by kernel_rfl) (by kernel_rfl) (fun _ _ _ h => h) (Or.inl ⟨by rfl, by intro w hSw; go_simp⟩) (by assumption) ?_
      simp only [Act.put, List.setIfInBounds_toArray, List.set_cons_zero, List.set_cons_succ]
      refine wpAnyH_ready (rs := [15]) (by kernel_rfl) (by simp) (AllReadyH.cons (o := { dst := some 4, op := Op.assign (Operand.tmp 117), type := 4, pos := "law.go:101", after := #[{ on := 14, ground := Ground.data }, { on := 6, ground := Ground.chain }, { on := 0, ground := Ground.phase }, { on := 1, ground := Ground.phase }, { on := 2, ground := Ground.phase }, { on := 3, ground := Ground.phase }, { on := 4, ground := Ground.phase }, { on := 5, ground := Ground.phase }, { on := 6, ground := Ground.phase }, { on := 7, ground := Ground.phase }, { on := 8, ground := Ground.phase }, { on := 9, ground := Ground.phase }, { on := 10, ground := Ground.phase }, { on := 11, ground := Ground.phase }, { on := 12, ground := Ground.phase }, { on := 13, ground := Ground.phase }, { on := 14, ground := Ground.phase }], guard := none }) rfl (fun KQ hK => ?_) AllReadyH.nil)
      go_simp
      refine hK.out _ _ HK.out (fun hHeld => ?_)
      clear hK KQ
      try simp only [Act.put, List.setIfInBounds_toArray, List.set_cons_zero, List.set_cons_succ]
      refine wpAnyH_done (by kernel_rfl) ?_ _

      go_wp2_with fail
      go_ret
      exact ⟨rfl, HK.out.below⟩
  · obtain ⟨rfl, rfl, rfl⟩ := k2 rfl
    obtain rfl := k3 rfl
    clear k1 k2 k3 k4
    go_upto_region 11 with (first | (refine wpList_load_mid rfl 23 _ rfl g2 0 rfl _ _ ((BC.out.get 1 rfl).range) underR rfl (by rw [sizeR]; rfl) ?_) | (go_at_call 9; refine (HG.out _).mono ?_; rintro e w2 ⟨rfl, hb⟩; have B1 := hid (BC.out.on hb); clear hb) | (go_at_call 8; refine (HC.out _).mono ?_; rintro e w3 ⟨rfl, hb⟩; have B2 := hid (B1.out.on hb); clear hb))
    go_upto_region 12 with (first | (refine wpList_load_mid rfl 23 _ rfl g2 0 rfl _ _ ((B2.out.get 1 rfl).range) underR rfl (by rw [sizeR]; rfl) ?_) | (go_at_call 9; refine (HG.out _).mono ?_; rintro e w4 ⟨rfl, hb⟩; have B3 := hid (B2.out.on hb); clear hb) | (go_at_call 7; refine (HE.out _).mono ?_; rintro e w5 ⟨rfl, hb⟩; have B4 := hid (B3.out.on hb); clear hb) | (refine wpList_store_st rfl 25 _ _ rfl w5.heap.size (two 0 0) rfl rfl (Cel.new w5 25 (two 0 0)) sizeA rfl rfl ?_; intro w6 hc hb hs; have B5 := hid (B4.out.add hc hb); clear hc hb hs))
    generalize w5.heap.size = g9 at *
    go_upto_region 13 with (first | (refine wpList_load_mid rfl 23 _ rfl g3 0 rfl _ _ ((B5.out.get 1 rfl).range) underR rfl (by rw [sizeR]; rfl) ?_) | (go_at_call 9; refine (HGy.out _).mono ?_; rintro e w7 ⟨rfl, hb⟩; have B6 := hid (B5.out.on hb); clear hb) | (go_at_call 7; refine (HEy.out _).mono ?_; rintro e w8 ⟨rfl, hb⟩; have B7 := hid (B6.out.on hb); clear hb) | (refine wpList_store_st rfl 25 _ _ rfl w8.heap.size (two u0 u1) rfl rfl (Cel.new w8 25 (two 0 0)) sizeA rfl rfl ?_; intro w9 hc hb hs; have B8 := hid (B7.out.add hc hb); clear hc hb hs))
    generalize w8.heap.size = g11 at *
    · have HK := hid (B8.out.on (Below.refl _ _).drew)
      refine wp_region_held_drew (S := fun w => Bag W w [(g11, 25, (two u0 u1)), (g9, 25, (two 0 0)), (g3, 23, [.int .i64 y.t, .int .i64 y.o, .int .i64 y.r, .int .i64 y.s, .bool y.e]), (g2, 23, [.int .i64 t, .int .i64 o, .int .i64 r, .int .i64 s, .bool e])]) (by kernel_rfl) HK.out (fun hHeld => ?_)
      refine wpAnyH_take (i := 0) (oi := { dst := some 103, op := Op.move (Operand.tmp 10), type := 31, pos := "law.go:101", after := #[], guard := none }) (v := .int .i64 110) rfl (by kernel_rfl) (by kernel_rfl) (by kernel_rfl) (fun _ _ _ h => h) (Or.inl ⟨by rfl, by intro w hSw; go_simp⟩) (by assumption) ?_
      simp only [Act.put, List.setIfInBounds_toArray, List.set_cons_zero, List.set_cons_succ]
      refine wpAnyH_take (i := 1) (oi := { dst := some 104, op := Op.binOp BinOp.neq 3 (Operand.tmp 103) (Operand.const (Value.int IntKind.i64 0)) 3, type := 4, pos := "law.go:101", after := #[{ on := 0, ground := Ground.data }], guard := none }) (v := .bool true) rfl (by kernel_rfl) (by kernel_rfl) (by kernel_rfl) (fun _ _ _ h => h) (Or.inl ⟨by rfl, by intro w hSw; go_simp⟩) (by assumption) ?_
      simp only [Act.put, List.setIfInBounds_toArray, List.set_cons_zero, List.set_cons_succ]
      refine wpAnyH_take (i := 2) (oi := { dst := some 105, op := Op.move (Operand.tmp 104), type := 4, pos := "law.go:101", after := #[{ on := 1, ground := Ground.data }], guard := none }) (v := .bool true) rfl (by kernel_rfl) (by kernel_rfl) (by kernel_rfl) (fun _ _ _ h => h) (Or.inl ⟨by rfl, by intro w hSw; go_simp⟩) (by assumption) ?_
      simp only [Act.put, List.setIfInBounds_toArray, List.set_cons_zero, List.set_cons_succ]
      refine wpAnyH_take (i := 3) (oi := { dst := some 106, op := Op.move (Operand.tmp 12), type := 31, pos := "law.go:101", after := #[{ on := 2, ground := Ground.guard }], guard := some (2, false) }) (v := undef) rfl (by kernel_rfl) (by kernel_rfl) (by kernel_rfl) (fun _ _ _ h => h) (Or.inr ⟨by rfl, rfl⟩) (by assumption) ?_
      simp only [Act.put, List.setIfInBounds_toArray, List.set_cons_zero, List.set_cons_succ]
      refine wpAnyH_take (i := 4) (oi := { dst := some 107, op := Op.binOp BinOp.neq 3 (Operand.tmp 106) (Operand.const (Value.int IntKind.i64 0)) 3, type := 4, pos := "law.go:101", after := #[{ on := 3, ground := Ground.data }, { on := 2, ground := Ground.guard }], guard := some (2, false) }) (v := undef) rfl (by kernel_rfl) (by kernel_rfl) (by kernel_rfl) (fun _ _ _ h => h) (Or.inr ⟨by rfl, rfl⟩) (by assumption) ?_
      simp only [Act.put, List.setIfInBounds_toArray, List.set_cons_zero, List.set_cons_succ]
      refine wpAnyH_take (i := 5) (oi := { dst := some 108, op := Op.pick (Operand.tmp 105) (Operand.const (Value.bool true)) (Operand.tmp 107), type := 4, pos := "law.go:101", after := #[{ on := 2, ground := Ground.data }, { on := 4, ground := Ground.data }], guard := none }) (v := .bool true) rfl (by kernel_rfl) (by kernel_rfl) (by kernel_rfl) (fun _ _ _ h => h) (Or.inl ⟨by rfl, by intro w hSw; go_simp⟩) (by assumption) ?_
      simp only [Act.put, List.setIfInBounds_toArray, List.set_cons_zero, List.set_cons_succ]
      refine wpAnyH_take (i := 6) (oi := { dst := some 109, op := Op.move (Operand.tmp 108), type := 4, pos := "law.go:101", after := #[{ on := 5, ground := Ground.data }, { on := 2, ground := Ground.chain }], guard := none }) (v := .bool true) rfl (by kernel_rfl) (by kernel_rfl) (by kernel_rfl) (fun _ _ _ h => h) (Or.inl ⟨by rfl, by intro w hSw; go_simp⟩) (by assumption) ?_
      simp only [Act.put, List.setIfInBounds_toArray, List.set_cons_zero, List.set_cons_succ]
      refine wpAnyH_take (i := 7) (oi := { dst := some 110, op := Op.load 25 (Operand.tmp 9), type := 25, pos := "law.go:101", after := #[{ on := 6, ground := Ground.guard }], guard := some (6, false) }) (v := undef) rfl (by kernel_rfl) (by kernel_rfl) (by kernel_rfl) (fun _ _ _ h => h) (Or.inr ⟨by rfl, rfl⟩) (by assumption) ?_
      simp only [Act.put, List.setIfInBounds_toArray, List.set_cons_zero, List.set_cons_succ]
      refine wpAnyH_take (i := 8) (oi := { dst := some 111, op := Op.load 25 (Operand.tmp 11), type := 25, pos := "law.go:101", after := #[{ on := 6, ground := Ground.guard }], guard := some (6, false) }) (v := undef) rfl (by kernel_rfl) (by kernel_rfl) (by kernel_rfl) (fun _ _ _ h => h) (Or.inr ⟨by rfl, rfl⟩) (by assumption) ?_
      simp only [Act.put, List.setIfInBounds_toArray, List.set_cons_zero, List.set_cons_succ]
      refine wpAnyH_take (i := 9) (oi := { dst := some 112, op := Op.binOp BinOp.eql 25 (Operand.tmp 110) (Operand.tmp 111) 25, type := 4, pos := "law.go:101", after := #[{ on := 7, ground := Ground.data }, { on := 8, ground := Ground.data }, { on := 6, ground := Ground.guard }], guard := some (6, false) }) (v := undef) rfl (by kernel_rfl) (by kernel_rfl) (by kernel_rfl) (fun _ _ _ h => h) (Or.inr ⟨by rfl, rfl⟩) (by assumption) ?_
      simp only [Act.put, List.setIfInBounds_toArray, List.set_cons_zero, List.set_cons_succ]
      refine wpAnyH_take (i := 10) (oi := { dst := some 113, op := Op.load 23 (Operand.tmp 2), type := 23, pos := "law.go:101", after := #[{ on := 6, ground := Ground.guard }], guard := some (6, false) }) (v := undef) rfl (by kernel_rfl) (by kernel_rfl) (by kernel_rfl) (fun _ _ _ h => h) (Or.inr ⟨by rfl, rfl⟩) (by assumption) ?_
      simp only [Act.put, List.setIfInBounds_toArray, List.set_cons_zero, List.set_cons_succ]
      refine wpAnyH_take (i := 11) (oi := { dst := some 114, op := Op.load 23 (Operand.tmp 3), type := 23, pos := "law.go:101", after := #[{ on := 6, ground := Ground.guard }], guard := some (6, false) }) (v := undef) rfl (by kernel_rfl) (by kernel_rfl) (by kernel_rfl) (fun _ _ _ h => h) (Or.inr ⟨by rfl, rfl⟩) (by assumption) ?_
      simp only [Act.put, List.setIfInBounds_toArray, List.set_cons_zero, List.set_cons_succ]
      refine wpAnyH_take (i := 12) (oi := { dst := some 115, op := Op.binOp BinOp.eql 23 (Operand.tmp 113) (Operand.tmp 114) 23, type := 4, pos := "law.go:101", after := #[{ on := 10, ground := Ground.data }, { on := 11, ground := Ground.data }, { on := 6, ground := Ground.guard }], guard := some (6, false) }) (v := undef) rfl (by kernel_rfl) (by kernel_rfl) (by kernel_rfl) (fun _ _ _ h => h) (Or.inr ⟨by rfl, rfl⟩) (by assumption) ?_
      simp only [Act.put, List.setIfInBounds_toArray, List.set_cons_zero, List.set_cons_succ]
      refine wpAnyH_take (i := 13) (oi := { dst := some 116, op := Op.binOp BinOp.eql 4 (Operand.tmp 112) (Operand.tmp 115) 4, type := 4, pos := "law.go:101", after := #[{ on := 9, ground := Ground.data }, { on := 12, ground := Ground.data }, { on := 6, ground := Ground.guard }], guard := some (6, false) }) (v := undef) rfl (by kernel_rfl) (by kernel_rfl) (by kernel_rfl) (fun _ _ _ h => h) (Or.inr ⟨by rfl, rfl⟩) (by assumption) ?_
      simp only [Act.put, List.setIfInBounds_toArray, List.set_cons_zero, List.set_cons_succ]
      refine wpAnyH_take (i := 14) (oi := { dst := some 117, op := Op.pick (Operand.tmp 109) (Operand.const (Value.bool true)) (Operand.tmp 116), type := 4, pos := "law.go:101", after := #[{ on := 6, ground := Ground.data }, { on := 13, ground := Ground.data }], guard := none }) (v := .bool true) rfl (by kernel_rfl) (by kernel_rfl) (by kernel_rfl) (fun _ _ _ h => h) (Or.inl ⟨by rfl, by intro w hSw; go_simp⟩) (by assumption) ?_
      simp only [Act.put, List.setIfInBounds_toArray, List.set_cons_zero, List.set_cons_succ]
      refine wpAnyH_ready (rs := [15]) (by kernel_rfl) (by simp) (AllReadyH.cons (o := { dst := some 4, op := Op.assign (Operand.tmp 117), type := 4, pos := "law.go:101", after := #[{ on := 14, ground := Ground.data }, { on := 6, ground := Ground.chain }, { on := 0, ground := Ground.phase }, { on := 1, ground := Ground.phase }, { on := 2, ground := Ground.phase }, { on := 3, ground := Ground.phase }, { on := 4, ground := Ground.phase }, { on := 5, ground := Ground.phase }, { on := 6, ground := Ground.phase }, { on := 7, ground := Ground.phase }, { on := 8, ground := Ground.phase }, { on := 9, ground := Ground.phase }, { on := 10, ground := Ground.phase }, { on := 11, ground := Ground.phase }, { on := 12, ground := Ground.phase }, { on := 13, ground := Ground.phase }, { on := 14, ground := Ground.phase }], guard := none }) rfl (fun KQ hK => ?_) AllReadyH.nil)
      go_simp
      refine hK.out _ _ HK.out (fun hHeld => ?_)
      clear hK KQ
      try simp only [Act.put, List.setIfInBounds_toArray, List.set_cons_zero, List.set_cons_succ]
      refine wpAnyH_done (by kernel_rfl) ?_ _

      go_wp2_with fail
      go_ret
      exact ⟨rfl, HK.out.below⟩
  · obtain rfl := k1 rfl
    obtain ⟨rfl, rfl, rfl⟩ := k4 rfl
    clear k1 k2 k3 k4
    go_upto_region 11 with (first | (refine wpList_load_mid rfl 23 _ rfl g2 0 rfl _ _ ((BC.out.get 1 rfl).range) underR rfl (by rw [sizeR]; rfl) ?_) | (go_at_call 9; refine (HG.out _).mono ?_; rintro e w2 ⟨rfl, hb⟩; have B1 := hid (BC.out.on hb); clear hb) | (go_at_call 8; refine (HC.out _).mono ?_; rintro e w3 ⟨rfl, hb⟩; have B2 := hid (B1.out.on hb); clear hb))
    go_upto_region 12 with (first | (refine wpList_load_mid rfl 23 _ rfl g2 0 rfl _ _ ((B2.out.get 1 rfl).range) underR rfl (by rw [sizeR]; rfl) ?_) | (go_at_call 9; refine (HG.out _).mono ?_; rintro e w4 ⟨rfl, hb⟩; have B3 := hid (B2.out.on hb); clear hb) | (go_at_call 7; refine (HE.out _).mono ?_; rintro e w5 ⟨rfl, hb⟩; have B4 := hid (B3.out.on hb); clear hb) | (refine wpList_store_st rfl 25 _ _ rfl w5.heap.size (two v0 v1) rfl rfl (Cel.new w5 25 (two 0 0)) sizeA rfl rfl ?_; intro w6 hc hb hs; have B5 := hid (B4.out.add hc hb); clear hc hb hs))
    generalize w5.heap.size = g9 at *
    go_upto_region 13 with (first | (refine wpList_load_mid rfl 23 _ rfl g3 0 rfl _ _ ((B5.out.get 1 rfl).range) underR rfl (by rw [sizeR]; rfl) ?_) | (go_at_call 9; refine (HGy.out _).mono ?_; rintro e w7 ⟨rfl, hb⟩; have B6 := hid (B5.out.on hb); clear hb) | (go_at_call 7; refine (HEy.out _).mono ?_; rintro e w8 ⟨rfl, hb⟩; have B7 := hid (B6.out.on hb); clear hb) | (refine wpList_store_st rfl 25 _ _ rfl w8.heap.size (two 0 0) rfl rfl (Cel.new w8 25 (two 0 0)) sizeA rfl rfl ?_; intro w9 hc hb hs; have B8 := hid (B7.out.add hc hb); clear hc hb hs))
    generalize w8.heap.size = g11 at *
    · have HK := hid (B8.out.on (Below.refl _ _).drew)
      refine wp_region_held_drew (S := fun w => Bag W w [(g11, 25, (two 0 0)), (g9, 25, (two v0 v1)), (g3, 23, [.int .i64 y.t, .int .i64 y.o, .int .i64 y.r, .int .i64 y.s, .bool y.e]), (g2, 23, [.int .i64 t, .int .i64 o, .int .i64 r, .int .i64 s, .bool e])]) (by kernel_rfl) HK.out (fun hHeld => ?_)
      refine wpAnyH_take (i := 0) (oi := { dst := some 103, op := Op.move (Operand.tmp 10), type := 31, pos := "law.go:101", after := #[], guard := none }) (v := .int .i64 0) rfl (by kernel_rfl) (by kernel_rfl) (by kernel_rfl) (fun _ _ _ h => h) (Or.inl ⟨by rfl, by intro w hSw; go_simp⟩) (by assumption) ?_
      simp only [Act.put, List.setIfInBounds_toArray, List.set_cons_zero, List.set_cons_succ]
      refine wpAnyH_take (i := 1) (oi := { dst := some 104, op := Op.binOp BinOp.neq 3 (Operand.tmp 103) (Operand.const (Value.int IntKind.i64 0)) 3, type := 4, pos := "law.go:101", after := #[{ on := 0, ground := Ground.data }], guard := none }) (v := .bool false) rfl (by kernel_rfl) (by kernel_rfl) (by kernel_rfl) (fun _ _ _ h => h) (Or.inl ⟨by rfl, by intro w hSw; go_simp⟩) (by assumption) ?_
      simp only [Act.put, List.setIfInBounds_toArray, List.set_cons_zero, List.set_cons_succ]
      refine wpAnyH_take (i := 2) (oi := { dst := some 105, op := Op.move (Operand.tmp 104), type := 4, pos := "law.go:101", after := #[{ on := 1, ground := Ground.data }], guard := none }) (v := .bool false) rfl (by kernel_rfl) (by kernel_rfl) (by kernel_rfl) (fun _ _ _ h => h) (Or.inl ⟨by rfl, by intro w hSw; go_simp⟩) (by assumption) ?_
      simp only [Act.put, List.setIfInBounds_toArray, List.set_cons_zero, List.set_cons_succ]
      refine wpAnyH_take (i := 3) (oi := { dst := some 106, op := Op.move (Operand.tmp 12), type := 31, pos := "law.go:101", after := #[{ on := 2, ground := Ground.guard }], guard := some (2, false) }) (v := .int .i64 110) rfl (by kernel_rfl) (by kernel_rfl) (by kernel_rfl) (fun _ _ _ h => h) (Or.inl ⟨by rfl, by intro w hSw; go_simp⟩) (by assumption) ?_
      simp only [Act.put, List.setIfInBounds_toArray, List.set_cons_zero, List.set_cons_succ]
      refine wpAnyH_take (i := 4) (oi := { dst := some 107, op := Op.binOp BinOp.neq 3 (Operand.tmp 106) (Operand.const (Value.int IntKind.i64 0)) 3, type := 4, pos := "law.go:101", after := #[{ on := 3, ground := Ground.data }, { on := 2, ground := Ground.guard }], guard := some (2, false) }) (v := .bool true) rfl (by kernel_rfl) (by kernel_rfl) (by kernel_rfl) (fun _ _ _ h => h) (Or.inl ⟨by rfl, by intro w hSw; go_simp⟩) (by assumption) ?_
      simp only [Act.put, List.setIfInBounds_toArray, List.set_cons_zero, List.set_cons_succ]
      refine wpAnyH_take (i := 5) (oi := { dst := some 108, op := Op.pick (Operand.tmp 105) (Operand.const (Value.bool true)) (Operand.tmp 107), type := 4, pos := "law.go:101", after := #[{ on := 2, ground := Ground.data }, { on := 4, ground := Ground.data }], guard := none }) (v := .bool true) rfl (by kernel_rfl) (by kernel_rfl) (by kernel_rfl) (fun _ _ _ h => h) (Or.inl ⟨by rfl, by intro w hSw; go_simp⟩) (by assumption) ?_
      simp only [Act.put, List.setIfInBounds_toArray, List.set_cons_zero, List.set_cons_succ]
      refine wpAnyH_take (i := 6) (oi := { dst := some 109, op := Op.move (Operand.tmp 108), type := 4, pos := "law.go:101", after := #[{ on := 5, ground := Ground.data }, { on := 2, ground := Ground.chain }], guard := none }) (v := .bool true) rfl (by kernel_rfl) (by kernel_rfl) (by kernel_rfl) (fun _ _ _ h => h) (Or.inl ⟨by rfl, by intro w hSw; go_simp⟩) (by assumption) ?_
      simp only [Act.put, List.setIfInBounds_toArray, List.set_cons_zero, List.set_cons_succ]
      refine wpAnyH_take (i := 7) (oi := { dst := some 110, op := Op.load 25 (Operand.tmp 9), type := 25, pos := "law.go:101", after := #[{ on := 6, ground := Ground.guard }], guard := some (6, false) }) (v := undef) rfl (by kernel_rfl) (by kernel_rfl) (by kernel_rfl) (fun _ _ _ h => h) (Or.inr ⟨by rfl, rfl⟩) (by assumption) ?_
      simp only [Act.put, List.setIfInBounds_toArray, List.set_cons_zero, List.set_cons_succ]
      refine wpAnyH_take (i := 8) (oi := { dst := some 111, op := Op.load 25 (Operand.tmp 11), type := 25, pos := "law.go:101", after := #[{ on := 6, ground := Ground.guard }], guard := some (6, false) }) (v := undef) rfl (by kernel_rfl) (by kernel_rfl) (by kernel_rfl) (fun _ _ _ h => h) (Or.inr ⟨by rfl, rfl⟩) (by assumption) ?_
      simp only [Act.put, List.setIfInBounds_toArray, List.set_cons_zero, List.set_cons_succ]
      refine wpAnyH_take (i := 9) (oi := { dst := some 112, op := Op.binOp BinOp.eql 25 (Operand.tmp 110) (Operand.tmp 111) 25, type := 4, pos := "law.go:101", after := #[{ on := 7, ground := Ground.data }, { on := 8, ground := Ground.data }, { on := 6, ground := Ground.guard }], guard := some (6, false) }) (v := undef) rfl (by kernel_rfl) (by kernel_rfl) (by kernel_rfl) (fun _ _ _ h => h) (Or.inr ⟨by rfl, rfl⟩) (by assumption) ?_
      simp only [Act.put, List.setIfInBounds_toArray, List.set_cons_zero, List.set_cons_succ]
      refine wpAnyH_take (i := 10) (oi := { dst := some 113, op := Op.load 23 (Operand.tmp 2), type := 23, pos := "law.go:101", after := #[{ on := 6, ground := Ground.guard }], guard := some (6, false) }) (v := undef) rfl (by kernel_rfl) (by kernel_rfl) (by kernel_rfl) (fun _ _ _ h => h) (Or.inr ⟨by rfl, rfl⟩) (by assumption) ?_
      simp only [Act.put, List.setIfInBounds_toArray, List.set_cons_zero, List.set_cons_succ]
      refine wpAnyH_take (i := 11) (oi := { dst := some 114, op := Op.load 23 (Operand.tmp 3), type := 23, pos := "law.go:101", after := #[{ on := 6, ground := Ground.guard }], guard := some (6, false) }) (v := undef) rfl (by kernel_rfl) (by kernel_rfl) (by kernel_rfl) (fun _ _ _ h => h) (Or.inr ⟨by rfl, rfl⟩) (by assumption) ?_
      simp only [Act.put, List.setIfInBounds_toArray, List.set_cons_zero, List.set_cons_succ]
      refine wpAnyH_take (i := 12) (oi := { dst := some 115, op := Op.binOp BinOp.eql 23 (Operand.tmp 113) (Operand.tmp 114) 23, type := 4, pos := "law.go:101", after := #[{ on := 10, ground := Ground.data }, { on := 11, ground := Ground.data }, { on := 6, ground := Ground.guard }], guard := some (6, false) }) (v := undef) rfl (by kernel_rfl) (by kernel_rfl) (by kernel_rfl) (fun _ _ _ h => h) (Or.inr ⟨by rfl, rfl⟩) (by assumption) ?_
      simp only [Act.put, List.setIfInBounds_toArray, List.set_cons_zero, List.set_cons_succ]
      refine wpAnyH_take (i := 13) (oi := { dst := some 116, op := Op.binOp BinOp.eql 4 (Operand.tmp 112) (Operand.tmp 115) 4, type := 4, pos := "law.go:101", after := #[{ on := 9, ground := Ground.data }, { on := 12, ground := Ground.data }, { on := 6, ground := Ground.guard }], guard := some (6, false) }) (v := undef) rfl (by kernel_rfl) (by kernel_rfl) (by kernel_rfl) (fun _ _ _ h => h) (Or.inr ⟨by rfl, rfl⟩) (by assumption) ?_
      simp only [Act.put, List.setIfInBounds_toArray, List.set_cons_zero, List.set_cons_succ]
      refine wpAnyH_take (i := 14) (oi := { dst := some 117, op := Op.pick (Operand.tmp 109) (Operand.const (Value.bool true)) (Operand.tmp 116), type := 4, pos := "law.go:101", after := #[{ on := 6, ground := Ground.data }, { on := 13, ground := Ground.data }], guard := none }) (v := .bool true) rfl (by kernel_rfl) (by kernel_rfl) (by kernel_rfl) (fun _ _ _ h => h) (Or.inl ⟨by rfl, by intro w hSw; go_simp⟩) (by assumption) ?_
      simp only [Act.put, List.setIfInBounds_toArray, List.set_cons_zero, List.set_cons_succ]
      refine wpAnyH_ready (rs := [15]) (by kernel_rfl) (by simp) (AllReadyH.cons (o := { dst := some 4, op := Op.assign (Operand.tmp 117), type := 4, pos := "law.go:101", after := #[{ on := 14, ground := Ground.data }, { on := 6, ground := Ground.chain }, { on := 0, ground := Ground.phase }, { on := 1, ground := Ground.phase }, { on := 2, ground := Ground.phase }, { on := 3, ground := Ground.phase }, { on := 4, ground := Ground.phase }, { on := 5, ground := Ground.phase }, { on := 6, ground := Ground.phase }, { on := 7, ground := Ground.phase }, { on := 8, ground := Ground.phase }, { on := 9, ground := Ground.phase }, { on := 10, ground := Ground.phase }, { on := 11, ground := Ground.phase }, { on := 12, ground := Ground.phase }, { on := 13, ground := Ground.phase }, { on := 14, ground := Ground.phase }], guard := none }) rfl (fun KQ hK => ?_) AllReadyH.nil)
      go_simp
      refine hK.out _ _ HK.out (fun hHeld => ?_)
      clear hK KQ
      try simp only [Act.put, List.setIfInBounds_toArray, List.set_cons_zero, List.set_cons_succ]
      refine wpAnyH_done (by kernel_rfl) ?_ _

      go_wp2_with fail
      go_ret
      exact ⟨rfl, HK.out.below⟩
  · obtain rfl := k1 rfl
    obtain rfl := k3 rfl
    clear k1 k2 k3 k4
    go_upto_region 11 with (first | (refine wpList_load_mid rfl 23 _ rfl g2 0 rfl _ _ ((BC.out.get 1 rfl).range) underR rfl (by rw [sizeR]; rfl) ?_) | (go_at_call 9; refine (HG.out _).mono ?_; rintro e w2 ⟨rfl, hb⟩; have B1 := hid (BC.out.on hb); clear hb) | (go_at_call 8; refine (HC.out _).mono ?_; rintro e w3 ⟨rfl, hb⟩; have B2 := hid (B1.out.on hb); clear hb))
    go_upto_region 12 with (first | (refine wpList_load_mid rfl 23 _ rfl g2 0 rfl _ _ ((B2.out.get 1 rfl).range) underR rfl (by rw [sizeR]; rfl) ?_) | (go_at_call 9; refine (HG.out _).mono ?_; rintro e w4 ⟨rfl, hb⟩; have B3 := hid (B2.out.on hb); clear hb) | (go_at_call 7; refine (HE.out _).mono ?_; rintro e w5 ⟨rfl, hb⟩; have B4 := hid (B3.out.on hb); clear hb) | (refine wpList_store_st rfl 25 _ _ rfl w5.heap.size (two v0 v1) rfl rfl (Cel.new w5 25 (two 0 0)) sizeA rfl rfl ?_; intro w6 hc hb hs; have B5 := hid (B4.out.add hc hb); clear hc hb hs))
    generalize w5.heap.size = g9 at *
    go_upto_region 13 with (first | (refine wpList_load_mid rfl 23 _ rfl g3 0 rfl _ _ ((B5.out.get 1 rfl).range) underR rfl (by rw [sizeR]; rfl) ?_) | (go_at_call 9; refine (HGy.out _).mono ?_; rintro e w7 ⟨rfl, hb⟩; have B6 := hid (B5.out.on hb); clear hb) | (go_at_call 7; refine (HEy.out _).mono ?_; rintro e w8 ⟨rfl, hb⟩; have B7 := hid (B6.out.on hb); clear hb) | (refine wpList_store_st rfl 25 _ _ rfl w8.heap.size (two u0 u1) rfl rfl (Cel.new w8 25 (two 0 0)) sizeA rfl rfl ?_; intro w9 hc hb hs; have B8 := hid (B7.out.add hc hb); clear hc hb hs))
    generalize w8.heap.size = g11 at *
    have HS3 := hid (HS.out (by simp) (by simp))
    rcases sxy with _ | _
    · have HS2 : Hid (same2 v0 v1 u0 u1 = false) := hid HS3.out
      have HK := hid (B8.out.on (Below.refl _ _).drew)
      refine wp_region_held_drew (S := fun w => Bag W w [(g11, 25, (two u0 u1)), (g9, 25, (two v0 v1)), (g3, 23, [.int .i64 y.t, .int .i64 y.o, .int .i64 y.r, .int .i64 y.s, .bool y.e]), (g2, 23, [.int .i64 t, .int .i64 o, .int .i64 r, .int .i64 s, .bool e])]) (by kernel_rfl) HK.out (fun hHeld => ?_)
      refine wpAnyH_take (i := 0) (oi := { dst := some 103, op := Op.move (Operand.tmp 10), type := 31, pos := "law.go:101", after := #[], guard := none }) (v := .int .i64 0) rfl (by kernel_rfl) (by kernel_rfl) (by kernel_rfl) (fun _ _ _ h => h) (Or.inl ⟨by rfl, by intro w hSw; go_simp⟩) (by assumption) ?_
      simp only [Act.put, List.setIfInBounds_toArray, List.set_cons_zero, List.set_cons_succ]
      refine wpAnyH_take (i := 1) (oi := { dst := some 104, op := Op.binOp BinOp.neq 3 (Operand.tmp 103) (Operand.const (Value.int IntKind.i64 0)) 3, type := 4, pos := "law.go:101", after := #[{ on := 0, ground := Ground.data }], guard := none }) (v := .bool false) rfl (by kernel_rfl) (by kernel_rfl) (by kernel_rfl) (fun _ _ _ h => h) (Or.inl ⟨by rfl, by intro w hSw; go_simp⟩) (by assumption) ?_
      simp only [Act.put, List.setIfInBounds_toArray, List.set_cons_zero, List.set_cons_succ]
      refine wpAnyH_take (i := 2) (oi := { dst := some 105, op := Op.move (Operand.tmp 104), type := 4, pos := "law.go:101", after := #[{ on := 1, ground := Ground.data }], guard := none }) (v := .bool false) rfl (by kernel_rfl) (by kernel_rfl) (by kernel_rfl) (fun _ _ _ h => h) (Or.inl ⟨by rfl, by intro w hSw; go_simp⟩) (by assumption) ?_
      simp only [Act.put, List.setIfInBounds_toArray, List.set_cons_zero, List.set_cons_succ]
      refine wpAnyH_take (i := 3) (oi := { dst := some 106, op := Op.move (Operand.tmp 12), type := 31, pos := "law.go:101", after := #[{ on := 2, ground := Ground.guard }], guard := some (2, false) }) (v := .int .i64 0) rfl (by kernel_rfl) (by kernel_rfl) (by kernel_rfl) (fun _ _ _ h => h) (Or.inl ⟨by rfl, by intro w hSw; go_simp⟩) (by assumption) ?_
      simp only [Act.put, List.setIfInBounds_toArray, List.set_cons_zero, List.set_cons_succ]
      refine wpAnyH_take (i := 4) (oi := { dst := some 107, op := Op.binOp BinOp.neq 3 (Operand.tmp 106) (Operand.const (Value.int IntKind.i64 0)) 3, type := 4, pos := "law.go:101", after := #[{ on := 3, ground := Ground.data }, { on := 2, ground := Ground.guard }], guard := some (2, false) }) (v := .bool false) rfl (by kernel_rfl) (by kernel_rfl) (by kernel_rfl) (fun _ _ _ h => h) (Or.inl ⟨by rfl, by intro w hSw; go_simp⟩) (by assumption) ?_
      simp only [Act.put, List.setIfInBounds_toArray, List.set_cons_zero, List.set_cons_succ]
      refine wpAnyH_take (i := 5) (oi := { dst := some 108, op := Op.pick (Operand.tmp 105) (Operand.const (Value.bool true)) (Operand.tmp 107), type := 4, pos := "law.go:101", after := #[{ on := 2, ground := Ground.data }, { on := 4, ground := Ground.data }], guard := none }) (v := .bool false) rfl (by kernel_rfl) (by kernel_rfl) (by kernel_rfl) (fun _ _ _ h => h) (Or.inl ⟨by rfl, by intro w hSw; go_simp⟩) (by assumption) ?_
      simp only [Act.put, List.setIfInBounds_toArray, List.set_cons_zero, List.set_cons_succ]
      refine wpAnyH_take (i := 6) (oi := { dst := some 109, op := Op.move (Operand.tmp 108), type := 4, pos := "law.go:101", after := #[{ on := 5, ground := Ground.data }, { on := 2, ground := Ground.chain }], guard := none }) (v := .bool false) rfl (by kernel_rfl) (by kernel_rfl) (by kernel_rfl) (fun _ _ _ h => h) (Or.inl ⟨by rfl, by intro w hSw; go_simp⟩) (by assumption) ?_
      simp only [Act.put, List.setIfInBounds_toArray, List.set_cons_zero, List.set_cons_succ]
      refine wpAnyH_take (i := 7) (oi := { dst := some 110, op := Op.load 25 (Operand.tmp 9), type := 25, pos := "law.go:101", after := #[{ on := 6, ground := Ground.guard }], guard := some (6, false) }) (v := .agg (two v0 v1).toArray) rfl (by kernel_rfl) (by kernel_rfl) (by kernel_rfl) (fun _ _ _ h => h) (yieldsIf_load_mid (by rfl) _ _ rfl _ _ rfl _ _ (fun w hSw => (hSw.get 1 rfl).range) underA rfl (by rw [sizeA]; rfl)) (by assumption) ?_
      simp only [Act.put, List.setIfInBounds_toArray, List.set_cons_zero, List.set_cons_succ]
      refine wpAnyH_take (i := 8) (oi := { dst := some 111, op := Op.load 25 (Operand.tmp 11), type := 25, pos := "law.go:101", after := #[{ on := 6, ground := Ground.guard }], guard := some (6, false) }) (v := .agg (two u0 u1).toArray) rfl (by kernel_rfl) (by kernel_rfl) (by kernel_rfl) (fun _ _ _ h => h) (yieldsIf_load_mid (by rfl) _ _ rfl _ _ rfl _ _ (fun w hSw => (hSw.get 0 rfl).range) underA rfl (by rw [sizeA]; rfl)) (by assumption) ?_
      simp only [Act.put, List.setIfInBounds_toArray, List.set_cons_zero, List.set_cons_succ]
      refine wpAnyH_take (i := 9) (oi := { dst := some 112, op := Op.binOp BinOp.eql 25 (Operand.tmp 110) (Operand.tmp 111) 25, type := 4, pos := "law.go:101", after := #[{ on := 7, ground := Ground.data }, { on := 8, ground := Ground.data }, { on := 6, ground := Ground.guard }], guard := some (6, false) }) (v := .bool false) rfl (by kernel_rfl) (by kernel_rfl) (by kernel_rfl) (fun _ _ _ h => h) (Or.inl ⟨by rfl, fun w hSw => exec_eqV 25 _ _ rfl _ _ rfl rfl guardA _ _ (run_equalIn_two w 9998 v0 v1 u0 u1) HS2.out⟩) (by assumption) ?_
      simp only [Act.put, List.setIfInBounds_toArray, List.set_cons_zero, List.set_cons_succ]
      refine wpAnyH_take (i := 10) (oi := { dst := some 113, op := Op.load 23 (Operand.tmp 2), type := 23, pos := "law.go:101", after := #[{ on := 6, ground := Ground.guard }], guard := some (6, false) }) (v := .agg ([.int .i64 t, .int .i64 o, .int .i64 r, .int .i64 s, .bool e] : List Value).toArray) rfl (by kernel_rfl) (by kernel_rfl) (by kernel_rfl) (fun _ _ _ h => h) (yieldsIf_load_mid (by rfl) _ _ rfl _ _ rfl _ _ (fun w hSw => (hSw.get 3 rfl).range) underR rfl (by rw [sizeR]; rfl)) (by assumption) ?_
      simp only [Act.put, List.setIfInBounds_toArray, List.set_cons_zero, List.set_cons_succ]
      refine wpAnyH_take (i := 11) (oi := { dst := some 114, op := Op.load 23 (Operand.tmp 3), type := 23, pos := "law.go:101", after := #[{ on := 6, ground := Ground.guard }], guard := some (6, false) }) (v := .agg ([.int .i64 y.t, .int .i64 y.o, .int .i64 y.r, .int .i64 y.s, .bool y.e] : List Value).toArray) rfl (by kernel_rfl) (by kernel_rfl) (by kernel_rfl) (fun _ _ _ h => h) (yieldsIf_load_mid (by rfl) _ _ rfl _ _ rfl _ _ (fun w hSw => (hSw.get 2 rfl).range) underR rfl (by rw [sizeR]; rfl)) (by assumption) ?_
      simp only [Act.put, List.setIfInBounds_toArray, List.set_cons_zero, List.set_cons_succ]
      refine wpAnyH_take (i := 12) (oi := { dst := some 115, op := Op.binOp BinOp.eql 23 (Operand.tmp 113) (Operand.tmp 114) 23, type := 4, pos := "law.go:101", after := #[{ on := 10, ground := Ground.data }, { on := 11, ground := Ground.data }, { on := 6, ground := Ground.guard }], guard := some (6, false) }) (v := .bool false) rfl (by kernel_rfl) (by kernel_rfl) (by kernel_rfl) (fun _ _ _ h => h) (Or.inl ⟨by rfl, fun w hSw => exec_eqV 23 _ _ rfl _ _ rfl rfl guardR _ _ (HSm.out w) rfl⟩) (by assumption) ?_
      simp only [Act.put, List.setIfInBounds_toArray, List.set_cons_zero, List.set_cons_succ]
      refine wpAnyH_take (i := 13) (oi := { dst := some 116, op := Op.binOp BinOp.eql 4 (Operand.tmp 112) (Operand.tmp 115) 4, type := 4, pos := "law.go:101", after := #[{ on := 9, ground := Ground.data }, { on := 12, ground := Ground.data }, { on := 6, ground := Ground.guard }], guard := some (6, false) }) (v := .bool true) rfl (by kernel_rfl) (by kernel_rfl) (by kernel_rfl) (fun _ _ _ h => h) (Or.inl ⟨by rfl, by intro w hSw; go_simp⟩) (by assumption) ?_
      simp only [Act.put, List.setIfInBounds_toArray, List.set_cons_zero, List.set_cons_succ]
      refine wpAnyH_take (i := 14) (oi := { dst := some 117, op := Op.pick (Operand.tmp 109) (Operand.const (Value.bool true)) (Operand.tmp 116), type := 4, pos := "law.go:101", after := #[{ on := 6, ground := Ground.data }, { on := 13, ground := Ground.data }], guard := none }) (v := .bool true) rfl (by kernel_rfl) (by kernel_rfl) (by kernel_rfl) (fun _ _ _ h => h) (Or.inl ⟨by rfl, by intro w hSw; go_simp⟩) (by assumption) ?_
      simp only [Act.put, List.setIfInBounds_toArray, List.set_cons_zero, List.set_cons_succ]
      refine wpAnyH_ready (rs := [15]) (by kernel_rfl) (by simp) (AllReadyH.cons (o := { dst := some 4, op := Op.assign (Operand.tmp 117), type := 4, pos := "law.go:101", after := #[{ on := 14, ground := Ground.data }, { on := 6, ground := Ground.chain }, { on := 0, ground := Ground.phase }, { on := 1, ground := Ground.phase }, { on := 2, ground := Ground.phase }, { on := 3, ground := Ground.phase }, { on := 4, ground := Ground.phase }, { on := 5, ground := Ground.phase }, { on := 6, ground := Ground.phase }, { on := 7, ground := Ground.phase }, { on := 8, ground := Ground.phase }, { on := 9, ground := Ground.phase }, { on := 10, ground := Ground.phase }, { on := 11, ground := Ground.phase }, { on := 12, ground := Ground.phase }, { on := 13, ground := Ground.phase }, { on := 14, ground := Ground.phase }], guard := none }) rfl (fun KQ hK => ?_) AllReadyH.nil)
      go_simp
      refine hK.out _ _ HK.out (fun hHeld => ?_)
      clear hK KQ
      try simp only [Act.put, List.setIfInBounds_toArray, List.set_cons_zero, List.set_cons_succ]
      refine wpAnyH_done (by kernel_rfl) ?_ _

      go_wp2_with fail
      go_ret
      exact ⟨rfl, HK.out.below⟩
    · have HS2 : Hid (same2 v0 v1 u0 u1 = true) := hid HS3.out
      have HK := hid (B8.out.on (Below.refl _ _).drew)
      refine wp_region_held_drew (S := fun w => Bag W w [(g11, 25, (two u0 u1)), (g9, 25, (two v0 v1)), (g3, 23, [.int .i64 y.t, .int .i64 y.o, .int .i64 y.r, .int .i64 y.s, .bool y.e]), (g2, 23, [.int .i64 t, .int .i64 o, .int .i64 r, .int .i64 s, .bool e])]) (by kernel_rfl) HK.out (fun hHeld => ?_)
      refine wpAnyH_take (i := 0) (oi := { dst := some 103, op := Op.move (Operand.tmp 10), type := 31, pos := "law.go:101", after := #[], guard := none }) (v := .int .i64 0) rfl (by kernel_rfl) (by kernel_rfl) (by kernel_rfl) (fun _ _ _ h => h) (Or.inl ⟨by rfl, by intro w hSw; go_simp⟩) (by assumption) ?_
      simp only [Act.put, List.setIfInBounds_toArray, List.set_cons_zero, List.set_cons_succ]
      refine wpAnyH_take (i := 1) (oi := { dst := some 104, op := Op.binOp BinOp.neq 3 (Operand.tmp 103) (Operand.const (Value.int IntKind.i64 0)) 3, type := 4, pos := "law.go:101", after := #[{ on := 0, ground := Ground.data }], guard := none }) (v := .bool false) rfl (by kernel_rfl) (by kernel_rfl) (by kernel_rfl) (fun _ _ _ h => h) (Or.inl ⟨by rfl, by intro w hSw; go_simp⟩) (by assumption) ?_
      simp only [Act.put, List.setIfInBounds_toArray, List.set_cons_zero, List.set_cons_succ]
      refine wpAnyH_take (i := 2) (oi := { dst := some 105, op := Op.move (Operand.tmp 104), type := 4, pos := "law.go:101", after := #[{ on := 1, ground := Ground.data }], guard := none }) (v := .bool false) rfl (by kernel_rfl) (by kernel_rfl) (by kernel_rfl) (fun _ _ _ h => h) (Or.inl ⟨by rfl, by intro w hSw; go_simp⟩) (by assumption) ?_
      simp only [Act.put, List.setIfInBounds_toArray, List.set_cons_zero, List.set_cons_succ]
      refine wpAnyH_take (i := 3) (oi := { dst := some 106, op := Op.move (Operand.tmp 12), type := 31, pos := "law.go:101", after := #[{ on := 2, ground := Ground.guard }], guard := some (2, false) }) (v := .int .i64 0) rfl (by kernel_rfl) (by kernel_rfl) (by kernel_rfl) (fun _ _ _ h => h) (Or.inl ⟨by rfl, by intro w hSw; go_simp⟩) (by assumption) ?_
      simp only [Act.put, List.setIfInBounds_toArray, List.set_cons_zero, List.set_cons_succ]
      refine wpAnyH_take (i := 4) (oi := { dst := some 107, op := Op.binOp BinOp.neq 3 (Operand.tmp 106) (Operand.const (Value.int IntKind.i64 0)) 3, type := 4, pos := "law.go:101", after := #[{ on := 3, ground := Ground.data }, { on := 2, ground := Ground.guard }], guard := some (2, false) }) (v := .bool false) rfl (by kernel_rfl) (by kernel_rfl) (by kernel_rfl) (fun _ _ _ h => h) (Or.inl ⟨by rfl, by intro w hSw; go_simp⟩) (by assumption) ?_
      simp only [Act.put, List.setIfInBounds_toArray, List.set_cons_zero, List.set_cons_succ]
      refine wpAnyH_take (i := 5) (oi := { dst := some 108, op := Op.pick (Operand.tmp 105) (Operand.const (Value.bool true)) (Operand.tmp 107), type := 4, pos := "law.go:101", after := #[{ on := 2, ground := Ground.data }, { on := 4, ground := Ground.data }], guard := none }) (v := .bool false) rfl (by kernel_rfl) (by kernel_rfl) (by kernel_rfl) (fun _ _ _ h => h) (Or.inl ⟨by rfl, by intro w hSw; go_simp⟩) (by assumption) ?_
      simp only [Act.put, List.setIfInBounds_toArray, List.set_cons_zero, List.set_cons_succ]
      refine wpAnyH_take (i := 6) (oi := { dst := some 109, op := Op.move (Operand.tmp 108), type := 4, pos := "law.go:101", after := #[{ on := 5, ground := Ground.data }, { on := 2, ground := Ground.chain }], guard := none }) (v := .bool false) rfl (by kernel_rfl) (by kernel_rfl) (by kernel_rfl) (fun _ _ _ h => h) (Or.inl ⟨by rfl, by intro w hSw; go_simp⟩) (by assumption) ?_
      simp only [Act.put, List.setIfInBounds_toArray, List.set_cons_zero, List.set_cons_succ]
      refine wpAnyH_take (i := 7) (oi := { dst := some 110, op := Op.load 25 (Operand.tmp 9), type := 25, pos := "law.go:101", after := #[{ on := 6, ground := Ground.guard }], guard := some (6, false) }) (v := .agg (two v0 v1).toArray) rfl (by kernel_rfl) (by kernel_rfl) (by kernel_rfl) (fun _ _ _ h => h) (yieldsIf_load_mid (by rfl) _ _ rfl _ _ rfl _ _ (fun w hSw => (hSw.get 1 rfl).range) underA rfl (by rw [sizeA]; rfl)) (by assumption) ?_
      simp only [Act.put, List.setIfInBounds_toArray, List.set_cons_zero, List.set_cons_succ]
      refine wpAnyH_take (i := 8) (oi := { dst := some 111, op := Op.load 25 (Operand.tmp 11), type := 25, pos := "law.go:101", after := #[{ on := 6, ground := Ground.guard }], guard := some (6, false) }) (v := .agg (two u0 u1).toArray) rfl (by kernel_rfl) (by kernel_rfl) (by kernel_rfl) (fun _ _ _ h => h) (yieldsIf_load_mid (by rfl) _ _ rfl _ _ rfl _ _ (fun w hSw => (hSw.get 0 rfl).range) underA rfl (by rw [sizeA]; rfl)) (by assumption) ?_
      simp only [Act.put, List.setIfInBounds_toArray, List.set_cons_zero, List.set_cons_succ]
      refine wpAnyH_take (i := 9) (oi := { dst := some 112, op := Op.binOp BinOp.eql 25 (Operand.tmp 110) (Operand.tmp 111) 25, type := 4, pos := "law.go:101", after := #[{ on := 7, ground := Ground.data }, { on := 8, ground := Ground.data }, { on := 6, ground := Ground.guard }], guard := some (6, false) }) (v := .bool true) rfl (by kernel_rfl) (by kernel_rfl) (by kernel_rfl) (fun _ _ _ h => h) (Or.inl ⟨by rfl, fun w hSw => exec_eqV 25 _ _ rfl _ _ rfl rfl guardA _ _ (run_equalIn_two w 9998 v0 v1 u0 u1) HS2.out⟩) (by assumption) ?_
      simp only [Act.put, List.setIfInBounds_toArray, List.set_cons_zero, List.set_cons_succ]
      refine wpAnyH_take (i := 10) (oi := { dst := some 113, op := Op.load 23 (Operand.tmp 2), type := 23, pos := "law.go:101", after := #[{ on := 6, ground := Ground.guard }], guard := some (6, false) }) (v := .agg ([.int .i64 t, .int .i64 o, .int .i64 r, .int .i64 s, .bool e] : List Value).toArray) rfl (by kernel_rfl) (by kernel_rfl) (by kernel_rfl) (fun _ _ _ h => h) (yieldsIf_load_mid (by rfl) _ _ rfl _ _ rfl _ _ (fun w hSw => (hSw.get 3 rfl).range) underR rfl (by rw [sizeR]; rfl)) (by assumption) ?_
      simp only [Act.put, List.setIfInBounds_toArray, List.set_cons_zero, List.set_cons_succ]
      refine wpAnyH_take (i := 11) (oi := { dst := some 114, op := Op.load 23 (Operand.tmp 3), type := 23, pos := "law.go:101", after := #[{ on := 6, ground := Ground.guard }], guard := some (6, false) }) (v := .agg ([.int .i64 y.t, .int .i64 y.o, .int .i64 y.r, .int .i64 y.s, .bool y.e] : List Value).toArray) rfl (by kernel_rfl) (by kernel_rfl) (by kernel_rfl) (fun _ _ _ h => h) (yieldsIf_load_mid (by rfl) _ _ rfl _ _ rfl _ _ (fun w hSw => (hSw.get 2 rfl).range) underR rfl (by rw [sizeR]; rfl)) (by assumption) ?_
      simp only [Act.put, List.setIfInBounds_toArray, List.set_cons_zero, List.set_cons_succ]
      refine wpAnyH_take (i := 12) (oi := { dst := some 115, op := Op.binOp BinOp.eql 23 (Operand.tmp 113) (Operand.tmp 114) 23, type := 4, pos := "law.go:101", after := #[{ on := 10, ground := Ground.data }, { on := 11, ground := Ground.data }, { on := 6, ground := Ground.guard }], guard := some (6, false) }) (v := .bool true) rfl (by kernel_rfl) (by kernel_rfl) (by kernel_rfl) (fun _ _ _ h => h) (Or.inl ⟨by rfl, fun w hSw => exec_eqV 23 _ _ rfl _ _ rfl rfl guardR _ _ (HSm.out w) rfl⟩) (by assumption) ?_
      simp only [Act.put, List.setIfInBounds_toArray, List.set_cons_zero, List.set_cons_succ]
      refine wpAnyH_take (i := 13) (oi := { dst := some 116, op := Op.binOp BinOp.eql 4 (Operand.tmp 112) (Operand.tmp 115) 4, type := 4, pos := "law.go:101", after := #[{ on := 9, ground := Ground.data }, { on := 12, ground := Ground.data }, { on := 6, ground := Ground.guard }], guard := some (6, false) }) (v := .bool true) rfl (by kernel_rfl) (by kernel_rfl) (by kernel_rfl) (fun _ _ _ h => h) (Or.inl ⟨by rfl, by intro w hSw; go_simp⟩) (by assumption) ?_
      simp only [Act.put, List.setIfInBounds_toArray, List.set_cons_zero, List.set_cons_succ]
      refine wpAnyH_take (i := 14) (oi := { dst := some 117, op := Op.pick (Operand.tmp 109) (Operand.const (Value.bool true)) (Operand.tmp 116), type := 4, pos := "law.go:101", after := #[{ on := 6, ground := Ground.data }, { on := 13, ground := Ground.data }], guard := none }) (v := .bool true) rfl (by kernel_rfl) (by kernel_rfl) (by kernel_rfl) (fun _ _ _ h => h) (Or.inl ⟨by rfl, by intro w hSw; go_simp⟩) (by assumption) ?_
      simp only [Act.put, List.setIfInBounds_toArray, List.set_cons_zero, List.set_cons_succ]
      refine wpAnyH_ready (rs := [15]) (by kernel_rfl) (by simp) (AllReadyH.cons (o := { dst := some 4, op := Op.assign (Operand.tmp 117), type := 4, pos := "law.go:101", after := #[{ on := 14, ground := Ground.data }, { on := 6, ground := Ground.chain }, { on := 0, ground := Ground.phase }, { on := 1, ground := Ground.phase }, { on := 2, ground := Ground.phase }, { on := 3, ground := Ground.phase }, { on := 4, ground := Ground.phase }, { on := 5, ground := Ground.phase }, { on := 6, ground := Ground.phase }, { on := 7, ground := Ground.phase }, { on := 8, ground := Ground.phase }, { on := 9, ground := Ground.phase }, { on := 10, ground := Ground.phase }, { on := 11, ground := Ground.phase }, { on := 12, ground := Ground.phase }, { on := 13, ground := Ground.phase }, { on := 14, ground := Ground.phase }], guard := none }) rfl (fun KQ hK => ?_) AllReadyH.nil)
      go_simp
      refine hK.out _ _ HK.out (fun hHeld => ?_)
      clear hK KQ
      try simp only [Act.put, List.setIfInBounds_toArray, List.set_cons_zero, List.set_cons_succ]
      refine wpAnyH_done (by kernel_rfl) ?_ _

      go_wp2_with fail
      go_ret
      exact ⟨rfl, HK.out.below⟩
end Go.Proofs.Ytpijfaffbnojnaa
