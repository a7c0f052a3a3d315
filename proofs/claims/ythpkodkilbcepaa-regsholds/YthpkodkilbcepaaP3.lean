/- RegsHolds (3). -/
import Derived.Test.YthpkodkilbcepaaP0
namespace Go.Proofs.Ythpkodkilbcepaa
open Go.RowKit
set_option maxHeartbeats 4000000
attribute [-simp] Try.isAgg27 Try.sizeOf27 Try.isAgg25 Try.sizeOf25 Try.isAgg23 Try.isAgg46 Try.sizeOf46
theorem hold_seven (z n l : Bool) (c : Int) (h : c < 0 ∨ 7 ≤ c) : hold c z n l = false := by
  unfold hold
  repeat rw [if_neg (by omega)]
/-- What a comparison asks for. -/
def wantL (a b : Int) : List Bool := [true, a == b, a != b, decide (wrap32 a < wrap32 b), decide (wrap32 b ≤ wrap32 a), decide (a < b), decide (b ≤ a)]
def bls (L : List Bool) : List Value := L.map Value.bool
theorem want_at (f : F) (a b : Int) (k : Nat) (hk : k < 7) : (bls (wantL a b))[k]? = some (.bool (hold (k : Int) (f.cmp a b).z (f.cmp a b).n (f.cmp a b).l)) := by
  have h1 : decide (wrap32 b ≤ wrap32 a) = !decide (wrap32 a < wrap32 b) := by rw [Bool.eq_iff_iff]; simp
  have h2 : decide (b ≤ a) = !decide (a < b) := by rw [Bool.eq_iff_iff]; simp
  rcases (show k = 0 ∨ k = 1 ∨ k = 2 ∨ k = 3 ∨ k = 4 ∨ k = 5 ∨ k = 6 by omega) with rfl | rfl | rfl | rfl | rfl | rfl | rfl
  · rfl
  · rfl
  · rfl
  · rfl
  · simp only [wantL, h1]; rfl
  · rfl
  · simp only [wantL, h2]; rfl
structure H3 (W wr : World) (g3 g7 g8 : Nat) (f fc : F) (L : List Bool) : Prop where
  box : Cel wr g3 25 f.cs
  cmp : Cel wr g7 27 fc.cs
  wnt : Cel wr g8 4 (bls L)
  below : Below W.heap.size W wr
theorem H3.on {W wr w' : World} {g3 g7 g8 : Nat} {f fc : F} {L : List Bool} (h : H3 W wr g3 g7 g8 f fc L) (hb : Below wr.heap.size wr w') : H3 W w' g3 g7 g8 f fc L := ⟨h.box.on hb, h.cmp.on hb, h.wnt.on hb, below_on h.below hb⟩
theorem hold_opp (z n l : Bool) (k : Nat) (h : k < 3) : hold (2 * (k : Int) + 2) z n l = !hold (2 * (k : Int) + 1) z n l := by
  rcases (show k = 0 ∨ k = 1 ∨ k = 2 by omega) with rfl | rfl | rfl
  · rfl
  · rfl
  · rfl
theorem F.fl_self (f : F) (a b : Int) : (f.cmp a b).fl f.z f.n f.l = f := rfl
theorem Cel.fl {w : World} {g : Nat} {t : TypeId} {f : F} (h : Cel w g t f.cs) (z n l : Bool) : Cel (((w.setCell ⟨g, 16, none⟩ (.bool z)).setCell ⟨g, 17, none⟩ (.bool n)).setCell ⟨g, 18, none⟩ (.bool l)) g t (f.fl z n l).cs := by
  have h1 := h.setCell 16 (.bool z)
  rw [F.set16] at h1
  have h2 := h1.setCell 17 (.bool n)
  rw [F.set17] at h2
  have h3 := h2.setCell 18 (.bool l)
  rw [F.set18] at h3
  exact h3
theorem but_fl (w : World) (g : Nat) (z n l : Bool) : ButL [g] w (((w.setCell ⟨g, 16, none⟩ (.bool z)).setCell ⟨g, 17, none⟩ (.bool n)).setCell ⟨g, 18, none⟩ (.bool l)) :=
  ((ButL.setCell w g 16 _ (by simp)).trans (ButL.setCell _ g 17 _ (by simp))).trans (ButL.setCell _ g 18 _ (by simp))
structure H4 (W wr : World) (g3 g7 : Nat) (f fc : F) : Prop where
  box : Cel wr g3 25 f.cs
  cmp : Cel wr g7 27 fc.cs
  below : Below W.heap.size W wr
  lo : W.heap.size ≤ g3
  lt : g3 < g7
theorem H4.on {W wr w' : World} {g3 g7 : Nat} {f fc : F} (h : H4 W wr g3 g7 f fc) (hb : Below wr.heap.size wr w') : H4 W w' g3 g7 f fc := ⟨h.box.on hb, h.cmp.on hb, below_on h.below hb, h.lo, h.lt⟩
theorem H4.but {W wr w' : World} {g3 g7 g : Nat} {f fc : F} (h : H4 W wr g3 g7 f fc) (hb : ButL [g] wr w') (hg : g7 < g) : H4 W w' g3 g7 f fc :=
  ⟨h.box.but hb (by rw [List.mem_singleton]; have := h.lt; omega), h.cmp.but hb (by rw [List.mem_singleton]; omega), h.below.trans (hb.below (by simp; have := h.lo; have := h.lt; omega) h.below.size), h.lo, h.lt⟩
structure H5 (W wr : World) (g3 g7 gh : Nat) (f fc : F) : Prop where
  h4 : H4 W wr g3 g7 f fc
  hh : Cel wr gh 27 f.cs
theorem H5.on {W wr w' : World} {g3 g7 gh : Nat} {f fc : F} (h : H5 W wr g3 g7 gh f fc) (hb : Below wr.heap.size wr w') : H5 W w' g3 g7 gh f fc := ⟨h.h4.on hb, h.hh.on hb⟩
structure H6 (W wr : World) (gk : Nat) (f : F) : Prop where
  k : Cel wr gk 27 f.cs
  below : Below W.heap.size W wr
theorem H6.on {W wr w' : World} {gk : Nat} {f : F} (h : H6 W wr gk f) (hb : Below wr.heap.size wr w') : H6 W w' gk f := ⟨h.k.on hb, below_on h.below hb⟩
theorem holdsl_any (W : World) (f : F) (a b : Int) (a0 : 0 ≤ a) (a1 : a < 4294967296) : Calls Try.prog 3 #[f.v, .int .u32 a, .int .u32 b] W fun e W' => e = .returned (.bool true) ∧ Below W.heap.size W W' := by
  have HC0 := hid (Cel.new W 25 f.cs)
  have HB0 := hid (below_one W (.cells f.cs.toArray 25))
  unfold F.v
  generalize hc : f.cs.toArray = C at *
  clear hc
  go_enter Try.func3, Try.ntmps3
  go_upto_region 1 with fail
  generalize hX : W.alloc _ = X at *
  clear hX
  go_wp2_with fail
  refine (head_any _).mono ?_
  rintro e w1 ⟨rfl, hb1⟩
  have HC1 := hid (HC0.out.on hb1)
  have HB1 := hid (below_on HB0.out hb1)
  clear hb1 HC0 HB0
  go_wp2_with (refine wpList_load_g rfl _ rfl W.heap.size f rfl HC1.out ?_)
  refine (file_any _ _).mono ?_
  rintro e w2 ⟨rfl, hb2⟩
  have HC2 := hid (HC1.out.on hb2)
  have HB2 := hid (below_on HB1.out hb2)
  clear hb2 HC1 HB1
  go_wp2_with fail
  refine (compare_any _ _ _ _).mono ?_
  rintro e w3 ⟨rfl, hb3⟩
  have HC3 := hid ((HC2.out.on hb3).on (below_one w3 (.cells #[.int .u32 0, .int .u32 0, .int .u32 0, .int .u32 0, .int .u32 0, .int .u32 0, .int .u32 0, .int .u32 0, .int .u32 0, .int .u32 0, .int .u32 0, .int .u32 0, .int .u32 0, .int .u32 0, .int .u32 0, .int .u32 0, .bool false, .bool false, .bool false] 27)))
  have HB3 := hid (below_on (below_on HB2.out hb3) (below_one w3 (.cells #[.int .u32 0, .int .u32 0, .int .u32 0, .int .u32 0, .int .u32 0, .int .u32 0, .int .u32 0, .int .u32 0, .int .u32 0, .int .u32 0, .int .u32 0, .int .u32 0, .int .u32 0, .int .u32 0, .int .u32 0, .int .u32 0, .bool false, .bool false, .bool false] 27)))
  have HG := hid (cel_new27 w3)
  have HW3 := hid (below_on HB2.out hb3).size
  have hlt3 := (HC2.out.on hb3).lt
  have HLT := hid hlt3
  clear hb3 HC2 HB2 hlt3
  go_wp2_with (refine wpList_store_f rfl _ _ rfl w3.heap.size F.zero (f.cmp a b) rfl rfl HG.out ?_; intro w4 hc4 hb4 hs4; have HG4 := hid hc4; have HC4 := hid (HC3.out.but hb4 (by rw [List.mem_singleton]; have := HLT.out; omega)); have HB4 := hid (HB3.out.trans (hb4.below (B := W.heap.size) (by simp; exact HW3.out) HB3.out.size)); clear hc4 hb4 hs4 HG HC3 HB3)
  have HLL : Hid (W.heap.size < w3.heap.size) := HLT
  have HI := hid (show H3 W (w4.alloc (.cells (bls (wantL a b)).toArray 4)) W.heap.size w3.heap.size w4.heap.size f (f.cmp a b) (wantL a b) from ⟨HC4.out.on (below_one _ _), HG4.out.on (below_one _ _), Cel.new w4 4 _, below_on HB4.out (below_one _ _)⟩)
  have HWA := hid fun k hk => want_at f a b k hk
  rw [show (bls (wantL a b)).toArray = #[Value.bool true, Value.bool (a == b), Value.bool (a != b), Value.bool (decide (wrap32 a < wrap32 b)), Value.bool (decide (wrap32 b ≤ wrap32 a)), Value.bool (decide (a < b)), Value.bool (decide (b ≤ a))] from rfl] at HI
  have HSF : Hid ((f.cmp a b).fl f.z f.n f.l = f) := hid (f.fl_self a b)
  have HGE := hid HB4.out.size
  clear HC4 HG4 HB4 HW3 HLT
  generalize hX5 : w4.alloc _ = X5 at *
  clear hX5
  generalize wantL a b = WL at *
  generalize f.cmp a b = fc at *
  generalize w4.heap.size = g8 at *
  generalize hg7 : w3.heap.size = g7 at *
  clear hg7
  obtain ⟨g3, hg3⟩ : ∃ g, W.heap.size = g := ⟨_, rfl⟩
  rw [show (Value.pointer (some { block := W.heap.size, off := 0 })) = Value.pointer (some { block := g3, off := 0 }) by rw [hg3]]
  have HI : Hid (H3 W X5 g3 g7 g8 f fc WL) := by rw [← hg3]; exact HI
  have HG3 : Hid (W.heap.size = g3) := hid hg3
  clear hg3
  go_loopw [9] (fun i wr => ∃ k : Nat, k ≤ 7 ∧ i = .int .i64 (k : Int) ∧ Hid (H3 W wr g3 g7 g8 f fc WL)) (fun i _ => 7 - (intOf i).toNat)
  case atStart => exact ⟨0, by omega, rfl, HI⟩
  case round =>
    clear HI
    obtain ⟨k, hk, rfl, HI⟩ := hrel
    by_cases hlt : k < 7
    · have c1 : (k : Int) < 7 := by omega
      have hwk := HWA.out k hlt
      have HK : Hid (∀ w, Calls Try.prog 10 #[fc.v, .int .i64 (k : Int)] w fun e W' => e = .returned (.bool (hold (k : Int) fc.z fc.n fc.l)) ∧ Below w.heap.size w W') := hid fun w => holds_any w fc _
      generalize hold (k : Int) fc.z fc.n fc.l = bk at *
      have HWK := hid hwk
      clear hwk
      go_wp2_with fail
      have HD := hid (HI.out.on (Below.refl _ _).drew)
      clear HI
      refine wp_region_held_drew (S := fun x => H3 W x g3 g7 g8 f fc WL) (by kernel_rfl) HD.out (fun hHeld => ?_)
      refine wpAnyH_take (i := 0) (oi := { dst := some 49, op := Op.load 27 (Operand.tmp 7), type := 27, pos := "law.go:150", after := #[], guard := none }) (v := fc.v) rfl (by kernel_rfl) (by kernel_rfl) (by kernel_rfl) (fun _ _ _ h => h) (yieldsIf_load_mid (by rfl) 27 _ rfl g7 0 rfl fc.cs _ (fun w hSw => hSw.cmp.range) under27 rfl (by rw [size27, F.len])) (by assumption) ?_
      simp only [Act.put, List.setIfInBounds_toArray, List.set_cons_zero, List.set_cons_succ]
      refine wpAnyH_take (i := 1) (oi := { dst := some 50, op := Op.move (Operand.tmp 9), type := 3, pos := "law.go:150", after := #[], guard := none }) (v := .int .i64 (k : Int)) rfl (by kernel_rfl) (by kernel_rfl) (by kernel_rfl) (fun _ _ _ h => h) (Or.inl ⟨by rfl, by intro w hSw; go_simp⟩) (by assumption) ?_
      simp only [Act.put, List.setIfInBounds_toArray, List.set_cons_zero, List.set_cons_succ]
      refine wpAnyH_take (i := 3) (oi := { dst := some 52, op := Op.move (Operand.tmp 8), type := 30, pos := "law.go:150", after := #[], guard := none }) (v := .slice (some ⟨g8, 0, none⟩) 7 7) rfl (by kernel_rfl) (by kernel_rfl) (by kernel_rfl) (fun _ _ _ h => h) (Or.inl ⟨by rfl, by intro w hSw; go_simp⟩) (by assumption) ?_
      simp only [Act.put, List.setIfInBounds_toArray, List.set_cons_zero, List.set_cons_succ]
      refine wpAnyH_take (i := 4) (oi := { dst := some 53, op := Op.move (Operand.tmp 9), type := 3, pos := "law.go:150", after := #[], guard := none }) (v := .int .i64 (k : Int)) rfl (by kernel_rfl) (by kernel_rfl) (by kernel_rfl) (fun _ _ _ h => h) (Or.inl ⟨by rfl, by intro w hSw; go_simp⟩) (by assumption) ?_
      simp only [Act.put, List.setIfInBounds_toArray, List.set_cons_zero, List.set_cons_succ]
      refine wpAnyH_take (i := 5) (oi := { dst := some 54, op := Op.indexAddr 30 (Operand.tmp 52) (Operand.tmp 53), type := 0, pos := "law.go:150", after := #[{ on := 3, ground := Ground.data }, { on := 4, ground := Ground.data }], guard := none }) (v := .pointer (some ⟨g8, k, none⟩)) rfl (by kernel_rfl) (by kernel_rfl) (by kernel_rfl) (fun _ _ _ h => h) (Or.inl ⟨by rfl, by intro w hSw; go_simp⟩) (by assumption) ?_
      simp only [Act.put, List.setIfInBounds_toArray, List.set_cons_zero, List.set_cons_succ]
      refine wpAnyH_take (i := 6) (oi := { dst := some 55, op := Op.load 4 (Operand.tmp 54), type := 4, pos := "law.go:150", after := #[{ on := 5, ground := Ground.data }], guard := none }) (v := .bool bk) rfl (by kernel_rfl) (by kernel_rfl) (by kernel_rfl) (fun _ _ _ h => h) (Or.inl ⟨by rfl, by intro w hSw; have y := (hSw.wnt.cell k).trans HWK.out; go_simp⟩) (by assumption) ?_
      simp only [Act.put, List.setIfInBounds_toArray, List.set_cons_zero, List.set_cons_succ]
      refine wpAnyH_ready (rs := [2]) (by kernel_rfl) (by simp) (AllReadyH.cons (o := { dst := some 51, op := Op.call { callee := Callee.value (Operand.func 10), args := #[Operand.tmp 49, Operand.tmp 50], argTypes := #[27, 32] }, type := 4, pos := "law.go:150", after := #[{ on := 0, ground := Ground.data }, { on := 1, ground := Ground.data }], guard := none }) rfl (fun KQ hK => ?_) AllReadyH.nil)
      go_simp
      refine (HK.out _).mono ?_
      rintro e w5 ⟨rfl, hb5⟩
      have HE := hid (HD.out.on hb5)
      clear hb5 HD
      go_wp2_with fail
      refine hK.out _ _ HE.out (fun hHeld => ?_)
      clear hK KQ
      try simp only [Act.put, List.setIfInBounds_toArray, List.set_cons_zero, List.set_cons_succ]
      refine wpAnyH_take (i := 7) (oi := { dst := some 56, op := Op.binOp BinOp.neq 4 (Operand.tmp 51) (Operand.tmp 55) 4, type := 4, pos := "law.go:150", after := #[{ on := 2, ground := Ground.data }, { on := 6, ground := Ground.data }], guard := none }) (v := .bool false) rfl (by kernel_rfl) (by kernel_rfl) (by kernel_rfl) (fun _ _ _ h => h) (Or.inl ⟨by rfl, by intro w hSw; go_simp⟩) (by assumption) ?_
      simp only [Act.put, List.setIfInBounds_toArray, List.set_cons_zero, List.set_cons_succ]
      refine wpAnyH_done (by kernel_rfl) ?_ _
      go_wp2_with fail
      go_roundw
      case measure => simp [intOf] <;> omega
      case rel => exact ⟨k + 1, by omega, by go_num, HE⟩
    · obtain rfl : k = 7 := by omega
      have HJ0 : Hid (H4 W wr g3 g7 f fc) := hid ⟨HI.out.box, HI.out.cmp, HI.out.below, Nat.le_of_eq HG3.out, by rw [← HG3.out]; exact HLL.out⟩
      clear HI HWA HLL HGE HG3
      have HJ := hid (HJ0.out.on (below_one wr (.cells #[.int .u32 0, .int .u32 0, .int .u32 0, .int .u32 0, .int .u32 0, .int .u32 0, .int .u32 0, .int .u32 0, .int .u32 0, .int .u32 0, .int .u32 0, .int .u32 0, .int .u32 0, .int .u32 0, .int .u32 0, .int .u32 0, .bool false, .bool false, .bool false] 27)))
      have HN := hid (cel_new27 wr)
      have HNL := hid HJ0.out.cmp.lt
      go_wp2_with (first | (refine wpList_load_f rfl _ rfl g7 fc rfl HJ0.out.cmp ?_) | (refine wpList_load_f rfl _ rfl g7 fc rfl HJ.out.cmp ?_) | (refine wpList_store_f rfl _ _ rfl wr.heap.size F.zero fc rfl rfl HN.out ?_; intro w6 hc6 hb6 hs6; have HJ6 := hid (HJ.out.but hb6 HNL.out); have HC6 := hid hc6; clear hc6 hb6 hs6 HJ HN HJ0; have y16 := (HJ6.out.box.cell 16).trans f.at16; have y17 := (HJ6.out.box.cell 17).trans f.at17; have y18 := (HJ6.out.box.cell 18).trans f.at18; have q16 := (HC6.out.cell 16).trans fc.at16; have q17 := (HC6.out.cell 17).trans fc.at17; have q18 := (HC6.out.cell 18).trans fc.at18; have u16 := HC6.out.free 16; have u17 := HC6.out.free 17; have u18 := HC6.out.free 18; have hne : ¬ g3 = wr.heap.size := fun e => by have := HJ6.out.lt; have := HNL.out; omega))
      have hh6 := HC6.out.fl f.z f.n f.l
      rw [HSF.out] at hh6
      have H5a : Hid (H5 W _ g3 g7 wr.heap.size f fc) := hid ⟨HJ6.out.but (but_fl w6 wr.heap.size f.z f.n f.l) HNL.out, hh6⟩
      clear hh6 HJ6 HC6 y16 y17 y18 q16 q17 q18 u16 u17 u18 hne HNL
      generalize hX7 : World.setCell _ _ _ = X7 at *
      clear hX7
      generalize hgh : wr.heap.size = gh at *
      clear hgh
      have HD := hid (H5a.out.on (Below.refl _ _).drew)
      clear H5a
      have K7 : Hid (∀ w, Calls Try.prog 10 #[fc.v, .int .i64 7] w fun e W' => e = .returned (.bool false) ∧ Below w.heap.size w W') := hid fun w => by have := holds_any w fc 7; rwa [hold_seven _ _ _ _ (by omega)] at this
      have K1 : Hid (∀ w, Calls Try.prog 10 #[fc.v, .int .i64 (-1)] w fun e W' => e = .returned (.bool false) ∧ Below w.heap.size w W') := hid fun w => by have := holds_any w fc (-1); rwa [hold_seven _ _ _ _ (by omega)] at this
      have KA : Hid (∀ w, Calls Try.prog 10 #[fc.v, .int .i64 (a + 7)] w fun e W' => e = .returned (.bool false) ∧ Below w.heap.size w W') := hid fun w => by have := holds_any w fc (a + 7); rwa [hold_seven _ _ _ _ (by omega)] at this
      refine wp_region_held_drew (S := fun x => H5 W x g3 g7 gh f fc) (by kernel_rfl) HD.out (fun hHeld => ?_)
      refine wpAnyH_take (i := 0) (oi := { dst := some 67, op := Op.load 27 (Operand.tmp 10), type := 27, pos := "law.go:158", after := #[], guard := none }) (v := f.v) rfl (by kernel_rfl) (by kernel_rfl) (by kernel_rfl) (fun _ _ _ h => h) (yieldsIf_load_mid (by rfl) 27 _ rfl gh 0 rfl f.cs _ (fun w hSw => hSw.hh.range) under27 rfl (by rw [size27, F.len])) (by assumption) ?_
      simp only [Act.put, List.setIfInBounds_toArray, List.set_cons_zero, List.set_cons_succ]
      refine wpAnyH_take (i := 1) (oi := { dst := some 68, op := Op.load 25 (Operand.tmp 3), type := 25, pos := "law.go:158", after := #[], guard := none }) (v := f.v) rfl (by kernel_rfl) (by kernel_rfl) (by kernel_rfl) (fun _ _ _ h => h) (yieldsIf_load_mid (by rfl) 25 _ rfl g3 0 rfl f.cs _ (fun w hSw => hSw.h4.box.range) under25 rfl (by rw [size25, F.len])) (by assumption) ?_
      simp only [Act.put, List.setIfInBounds_toArray, List.set_cons_zero, List.set_cons_succ]
      refine wpAnyH_ready (rs := [2]) (by kernel_rfl) (by simp) (AllReadyH.cons (o := { dst := some 69, op := Op.call { callee := Callee.value (Operand.func 9), args := #[Operand.tmp 68], argTypes := #[25] }, type := 27, pos := "law.go:158", after := #[{ on := 1, ground := Ground.data }], guard := none }) rfl (fun KQ hK => ?_) AllReadyH.nil)
      go_simp
      refine (file_any _ _).mono ?_
      rintro e wc1 ⟨rfl, hb1⟩
      have HD1 := hid (HD.out.on hb1)
      clear hb1 HD
      go_wp2_with fail
      refine hK.out _ _ HD1.out (fun hHeld => ?_)
      clear hK KQ
      try simp only [Act.put, List.setIfInBounds_toArray, List.set_cons_zero, List.set_cons_succ]
      refine wpAnyH_take (i := 3) (oi := { dst := some 70, op := Op.binOp BinOp.neq 27 (Operand.tmp 67) (Operand.tmp 69) 27, type := 4, pos := "law.go:158", after := #[{ on := 0, ground := Ground.data }, { on := 2, ground := Ground.data }], guard := none }) (v := .bool false) rfl (by kernel_rfl) (by kernel_rfl) (by kernel_rfl) (fun _ _ _ h => h) (Or.inl ⟨by rfl, fun w hSw => exec_neq_f _ _ rfl f f rfl rfl _ (by rw [F.same_self]; rfl)⟩) (by assumption) ?_
      simp only [Act.put, List.setIfInBounds_toArray, List.set_cons_zero, List.set_cons_succ]
      refine wpAnyH_take (i := 4) (oi := { dst := some 71, op := Op.move (Operand.tmp 70), type := 4, pos := "law.go:158", after := #[{ on := 3, ground := Ground.data }, { on := 2, ground := Ground.chain }], guard := none }) (v := .bool false) rfl (by kernel_rfl) (by kernel_rfl) (by kernel_rfl) (fun _ _ _ h => h) (Or.inl ⟨by rfl, by intro w hSw; go_simp⟩) (by assumption) ?_
      simp only [Act.put, List.setIfInBounds_toArray, List.set_cons_zero, List.set_cons_succ]
      refine wpAnyH_take (i := 5) (oi := { dst := some 72, op := Op.load 27 (Operand.tmp 7), type := 27, pos := "law.go:158", after := #[{ on := 4, ground := Ground.guard }], guard := some (4, false) }) (v := fc.v) rfl (by kernel_rfl) (by kernel_rfl) (by kernel_rfl) (fun _ _ _ h => h) (yieldsIf_load_mid (by rfl) 27 _ rfl g7 0 rfl fc.cs _ (fun w hSw => hSw.h4.cmp.range) under27 rfl (by rw [size27, F.len])) (by assumption) ?_
      simp only [Act.put, List.setIfInBounds_toArray, List.set_cons_zero, List.set_cons_succ]
      refine wpAnyH_ready (rs := [6]) (by kernel_rfl) (by simp) (AllReadyH.cons (o := { dst := some 73, op := Op.call { callee := Callee.value (Operand.func 10), args := #[Operand.tmp 72, Operand.const (Value.int IntKind.i64 7)], argTypes := #[27, 32] }, type := 4, pos := "law.go:158", after := #[{ on := 5, ground := Ground.data }, { on := 4, ground := Ground.chain }, { on := 4, ground := Ground.guard }], guard := some (4, false) }) rfl (fun KQ hK => ?_) AllReadyH.nil)
      go_simp
      refine (K7.out _).mono ?_
      rintro e wc2 ⟨rfl, hb2⟩
      have HD2 := hid (HD1.out.on hb2)
      clear hb2 HD1
      go_wp2_with fail
      refine hK.out _ _ HD2.out (fun hHeld => ?_)
      clear hK KQ
      try simp only [Act.put, List.setIfInBounds_toArray, List.set_cons_zero, List.set_cons_succ]
      refine wpAnyH_take (i := 7) (oi := { dst := some 74, op := Op.pick (Operand.tmp 71) (Operand.const (Value.bool true)) (Operand.tmp 73), type := 4, pos := "law.go:158", after := #[{ on := 4, ground := Ground.data }, { on := 6, ground := Ground.data }], guard := none }) (v := .bool false) rfl (by kernel_rfl) (by kernel_rfl) (by kernel_rfl) (fun _ _ _ h => h) (Or.inl ⟨by rfl, by intro w hSw; go_simp⟩) (by assumption) ?_
      simp only [Act.put, List.setIfInBounds_toArray, List.set_cons_zero, List.set_cons_succ]
      refine wpAnyH_take (i := 8) (oi := { dst := some 75, op := Op.move (Operand.tmp 74), type := 4, pos := "law.go:158", after := #[{ on := 7, ground := Ground.data }, { on := 6, ground := Ground.chain }], guard := none }) (v := .bool false) rfl (by kernel_rfl) (by kernel_rfl) (by kernel_rfl) (fun _ _ _ h => h) (Or.inl ⟨by rfl, by intro w hSw; go_simp⟩) (by assumption) ?_
      simp only [Act.put, List.setIfInBounds_toArray, List.set_cons_zero, List.set_cons_succ]
      refine wpAnyH_take (i := 9) (oi := { dst := some 76, op := Op.load 27 (Operand.tmp 7), type := 27, pos := "law.go:158", after := #[{ on := 8, ground := Ground.guard }], guard := some (8, false) }) (v := fc.v) rfl (by kernel_rfl) (by kernel_rfl) (by kernel_rfl) (fun _ _ _ h => h) (yieldsIf_load_mid (by rfl) 27 _ rfl g7 0 rfl fc.cs _ (fun w hSw => hSw.h4.cmp.range) under27 rfl (by rw [size27, F.len])) (by assumption) ?_
      simp only [Act.put, List.setIfInBounds_toArray, List.set_cons_zero, List.set_cons_succ]
      refine wpAnyH_ready (rs := [10]) (by kernel_rfl) (by simp) (AllReadyH.cons (o := { dst := some 77, op := Op.call { callee := Callee.value (Operand.func 10), args := #[Operand.tmp 76, Operand.const (Value.int IntKind.i64 (-1))], argTypes := #[27, 32] }, type := 4, pos := "law.go:158", after := #[{ on := 9, ground := Ground.data }, { on := 8, ground := Ground.chain }, { on := 8, ground := Ground.guard }], guard := some (8, false) }) rfl (fun KQ hK => ?_) AllReadyH.nil)
      go_simp
      refine (K1.out _).mono ?_
      rintro e wc3 ⟨rfl, hb3⟩
      have HD3 := hid (HD2.out.on hb3)
      clear hb3 HD2
      go_wp2_with fail
      refine hK.out _ _ HD3.out (fun hHeld => ?_)
      clear hK KQ
      try simp only [Act.put, List.setIfInBounds_toArray, List.set_cons_zero, List.set_cons_succ]
      refine wpAnyH_take (i := 11) (oi := { dst := some 78, op := Op.pick (Operand.tmp 75) (Operand.const (Value.bool true)) (Operand.tmp 77), type := 4, pos := "law.go:158", after := #[{ on := 8, ground := Ground.data }, { on := 10, ground := Ground.data }], guard := none }) (v := .bool false) rfl (by kernel_rfl) (by kernel_rfl) (by kernel_rfl) (fun _ _ _ h => h) (Or.inl ⟨by rfl, by intro w hSw; go_simp⟩) (by assumption) ?_
      simp only [Act.put, List.setIfInBounds_toArray, List.set_cons_zero, List.set_cons_succ]
      refine wpAnyH_take (i := 12) (oi := { dst := some 79, op := Op.move (Operand.tmp 78), type := 4, pos := "law.go:158", after := #[{ on := 11, ground := Ground.data }, { on := 10, ground := Ground.chain }], guard := none }) (v := .bool false) rfl (by kernel_rfl) (by kernel_rfl) (by kernel_rfl) (fun _ _ _ h => h) (Or.inl ⟨by rfl, by intro w hSw; go_simp⟩) (by assumption) ?_
      simp only [Act.put, List.setIfInBounds_toArray, List.set_cons_zero, List.set_cons_succ]
      refine wpAnyH_take (i := 13) (oi := { dst := some 80, op := Op.load 27 (Operand.tmp 7), type := 27, pos := "law.go:158", after := #[{ on := 12, ground := Ground.guard }], guard := some (12, false) }) (v := fc.v) rfl (by kernel_rfl) (by kernel_rfl) (by kernel_rfl) (fun _ _ _ h => h) (yieldsIf_load_mid (by rfl) 27 _ rfl g7 0 rfl fc.cs _ (fun w hSw => hSw.h4.cmp.range) under27 rfl (by rw [size27, F.len])) (by assumption) ?_
      simp only [Act.put, List.setIfInBounds_toArray, List.set_cons_zero, List.set_cons_succ]
      refine wpAnyH_take (i := 14) (oi := { dst := some 81, op := Op.move (Operand.tmp 1), type := 22, pos := "law.go:158", after := #[{ on := 12, ground := Ground.guard }], guard := some (12, false) }) (v := .int .u32 a) rfl (by kernel_rfl) (by kernel_rfl) (by kernel_rfl) (fun _ _ _ h => h) (Or.inl ⟨by rfl, by intro w hSw; go_simp⟩) (by assumption) ?_
      simp only [Act.put, List.setIfInBounds_toArray, List.set_cons_zero, List.set_cons_succ]
      refine wpAnyH_take (i := 15) (oi := { dst := some 82, op := Op.convert 22 3 (Operand.tmp 81), type := 3, pos := "law.go:158", after := #[{ on := 14, ground := Ground.data }, { on := 12, ground := Ground.guard }], guard := some (12, false) }) (v := .int .i64 a) rfl (by kernel_rfl) (by kernel_rfl) (by kernel_rfl) (fun _ _ _ h => h) (Or.inl ⟨by rfl, by intro w hSw; go_simp; (show IntKind.i64.wrap _ = _); (rw [IntKind.wrap_i64]); omega⟩) (by assumption) ?_
      simp only [Act.put, List.setIfInBounds_toArray, List.set_cons_zero, List.set_cons_succ]
      refine wpAnyH_take (i := 16) (oi := { dst := some 83, op := Op.binOp BinOp.add 3 (Operand.tmp 82) (Operand.const (Value.int IntKind.i64 7)) 3, type := 3, pos := "law.go:158", after := #[{ on := 15, ground := Ground.data }, { on := 12, ground := Ground.guard }], guard := some (12, false) }) (v := .int .i64 (a + 7)) rfl (by kernel_rfl) (by kernel_rfl) (by kernel_rfl) (fun _ _ _ h => h) (Or.inl ⟨by rfl, by intro w hSw; go_simp; (show IntKind.i64.wrap _ = _); (rw [IntKind.wrap_i64]); omega⟩) (by assumption) ?_
      simp only [Act.put, List.setIfInBounds_toArray, List.set_cons_zero, List.set_cons_succ]
      refine wpAnyH_ready (rs := [17]) (by kernel_rfl) (by simp) (AllReadyH.cons (o := { dst := some 84, op := Op.call { callee := Callee.value (Operand.func 10), args := #[Operand.tmp 80, Operand.tmp 83], argTypes := #[27, 32] }, type := 4, pos := "law.go:158", after := #[{ on := 13, ground := Ground.data }, { on := 16, ground := Ground.data }, { on := 12, ground := Ground.chain }, { on := 12, ground := Ground.guard }], guard := some (12, false) }) rfl (fun KQ hK => ?_) AllReadyH.nil)
      go_simp
      refine (KA.out _).mono ?_
      rintro e wc4 ⟨rfl, hb4⟩
      have HD4 := hid (HD3.out.on hb4)
      clear hb4 HD3
      go_wp2_with fail
      refine hK.out _ _ HD4.out (fun hHeld => ?_)
      clear hK KQ
      try simp only [Act.put, List.setIfInBounds_toArray, List.set_cons_zero, List.set_cons_succ]
      refine wpAnyH_take (i := 18) (oi := { dst := some 85, op := Op.pick (Operand.tmp 79) (Operand.const (Value.bool true)) (Operand.tmp 84), type := 4, pos := "law.go:158", after := #[{ on := 12, ground := Ground.data }, { on := 17, ground := Ground.data }], guard := none }) (v := .bool false) rfl (by kernel_rfl) (by kernel_rfl) (by kernel_rfl) (fun _ _ _ h => h) (Or.inl ⟨by rfl, by intro w hSw; go_simp⟩) (by assumption) ?_
      simp only [Act.put, List.setIfInBounds_toArray, List.set_cons_zero, List.set_cons_succ]
      refine wpAnyH_done (by kernel_rfl) ?_ _
      clear K7 K1 KA
      go_wp2_with (refine wpList_load_g rfl _ rfl g3 f rfl HD4.out.h4.box ?_)
      refine (file_any _ _).mono ?_
      rintro e w9 ⟨rfl, hb9⟩
      have HB9 := hid (below_on HD4.out.h4.below hb9)
      clear hb9 HD4
      have HN9 := hid (cel_new27 w9)
      have HB10 := hid (below_on HB9.out (below_one w9 (.cells #[.int .u32 0, .int .u32 0, .int .u32 0, .int .u32 0, .int .u32 0, .int .u32 0, .int .u32 0, .int .u32 0, .int .u32 0, .int .u32 0, .int .u32 0, .int .u32 0, .int .u32 0, .int .u32 0, .int .u32 0, .int .u32 0, .bool false, .bool false, .bool false] 27)))
      go_wp2_with (refine wpList_store_f rfl _ _ rfl w9.heap.size F.zero f rfl rfl HN9.out ?_; intro w10 hc10 hb10 hs10; have H6a : Hid (H6 W w10 w9.heap.size f) := hid ⟨hc10, HB10.out.trans (hb10.below (B := W.heap.size) (by simp; exact HB9.out.size) HB10.out.size)⟩; clear hc10 hb10 hs10 HN9 HB10 HB9)
      generalize hg9 : w9.heap.size = gk at *
      clear hg9
      go_loopw [12] (fun i wr => ∃ k : Nat, k ≤ 3 ∧ i = .int .i64 (2 * (k : Int) + 1) ∧ Hid (H6 W wr gk f)) (fun i _ => 8 - (intOf i).toNat)
      case atStart => exact ⟨0, by omega, rfl, H6a⟩
      case round =>
        clear H6a
        obtain ⟨k, hk, rfl, HI⟩ := hrel
        by_cases hlt2 : k < 3
        · have c1 : 2 * (k : Int) + 1 < 7 := by omega
          have HKA : Hid (∀ w, Calls Try.prog 10 #[f.v, .int .i64 (2 * (k : Int) + 1)] w fun e W' => e = .returned (.bool (hold (2 * (k : Int) + 1) f.z f.n f.l)) ∧ Below w.heap.size w W') := hid fun w => holds_any w f _
          have HKB : Hid (∀ w, Calls Try.prog 10 #[f.v, .int .i64 (2 * (k : Int) + 2)] w fun e W' => e = .returned (.bool (!hold (2 * (k : Int) + 1) f.z f.n f.l)) ∧ Below w.heap.size w W') := hid fun w => by have := holds_any w f (2 * (k : Int) + 2); rwa [hold_opp _ _ _ _ hlt2] at this
          generalize hold (2 * (k : Int) + 1) f.z f.n f.l = bk at *
          go_wp2_with fail
          have HD := hid (HI.out.on (Below.refl _ _).drew)
          clear HI
          refine wp_region_held_drew (S := fun x => H6 W x gk f) (by kernel_rfl) HD.out (fun hHeld => ?_)
          refine wpAnyH_take (i := 0) (oi := { dst := some 92, op := Op.load 27 (Operand.tmp 11), type := 27, pos := "law.go:163", after := #[], guard := none }) (v := f.v) rfl (by kernel_rfl) (by kernel_rfl) (by kernel_rfl) (fun _ _ _ h => h) (yieldsIf_load_mid (by rfl) 27 _ rfl gk 0 rfl f.cs _ (fun w hSw => hSw.k.range) under27 rfl (by rw [size27, F.len])) (by assumption) ?_
          simp only [Act.put, List.setIfInBounds_toArray, List.set_cons_zero, List.set_cons_succ]
          refine wpAnyH_take (i := 1) (oi := { dst := some 93, op := Op.move (Operand.tmp 12), type := 3, pos := "law.go:163", after := #[], guard := none }) (v := .int .i64 (2 * (k : Int) + 1)) rfl (by kernel_rfl) (by kernel_rfl) (by kernel_rfl) (fun _ _ _ h => h) (Or.inl ⟨by rfl, by intro w hSw; go_simp⟩) (by assumption) ?_
          simp only [Act.put, List.setIfInBounds_toArray, List.set_cons_zero, List.set_cons_succ]
          refine wpAnyH_take (i := 3) (oi := { dst := some 95, op := Op.load 27 (Operand.tmp 11), type := 27, pos := "law.go:163", after := #[], guard := none }) (v := f.v) rfl (by kernel_rfl) (by kernel_rfl) (by kernel_rfl) (fun _ _ _ h => h) (yieldsIf_load_mid (by rfl) 27 _ rfl gk 0 rfl f.cs _ (fun w hSw => hSw.k.range) under27 rfl (by rw [size27, F.len])) (by assumption) ?_
          simp only [Act.put, List.setIfInBounds_toArray, List.set_cons_zero, List.set_cons_succ]
          refine wpAnyH_take (i := 4) (oi := { dst := some 96, op := Op.move (Operand.tmp 12), type := 3, pos := "law.go:163", after := #[], guard := none }) (v := .int .i64 (2 * (k : Int) + 1)) rfl (by kernel_rfl) (by kernel_rfl) (by kernel_rfl) (fun _ _ _ h => h) (Or.inl ⟨by rfl, by intro w hSw; go_simp⟩) (by assumption) ?_
          simp only [Act.put, List.setIfInBounds_toArray, List.set_cons_zero, List.set_cons_succ]
          refine wpAnyH_take (i := 5) (oi := { dst := some 97, op := Op.binOp BinOp.add 3 (Operand.tmp 96) (Operand.const (Value.int IntKind.i64 1)) 3, type := 3, pos := "law.go:163", after := #[{ on := 4, ground := Ground.data }], guard := none }) (v := .int .i64 (2 * (k : Int) + 2)) rfl (by kernel_rfl) (by kernel_rfl) (by kernel_rfl) (fun _ _ _ h => h) (Or.inl ⟨by rfl, by intro w hSw; go_simp; (show IntKind.i64.wrap _ = _); (rw [IntKind.wrap_i64]); omega⟩) (by assumption) ?_
          simp only [Act.put, List.setIfInBounds_toArray, List.set_cons_zero, List.set_cons_succ]
          refine wpAnyH_ready (rs := [2]) (by kernel_rfl) (by simp) (AllReadyH.cons (o := { dst := some 94, op := Op.call { callee := Callee.value (Operand.func 10), args := #[Operand.tmp 92, Operand.tmp 93], argTypes := #[27, 32] }, type := 4, pos := "law.go:163", after := #[{ on := 0, ground := Ground.data }, { on := 1, ground := Ground.data }], guard := none }) rfl (fun KQ hK => ?_) AllReadyH.nil)
          go_simp
          refine (HKA.out _).mono ?_
          rintro e wc5 ⟨rfl, hb5⟩
          have HD5 := hid (HD.out.on hb5)
          clear hb5 HD
          go_wp2_with fail
          refine hK.out _ _ HD5.out (fun hHeld => ?_)
          clear hK KQ
          try simp only [Act.put, List.setIfInBounds_toArray, List.set_cons_zero, List.set_cons_succ]
          refine wpAnyH_ready (rs := [6]) (by kernel_rfl) (by simp) (AllReadyH.cons (o := { dst := some 98, op := Op.call { callee := Callee.value (Operand.func 10), args := #[Operand.tmp 95, Operand.tmp 97], argTypes := #[27, 32] }, type := 4, pos := "law.go:163", after := #[{ on := 3, ground := Ground.data }, { on := 5, ground := Ground.data }, { on := 2, ground := Ground.chain }], guard := none }) rfl (fun KQ hK => ?_) AllReadyH.nil)
          go_simp
          refine (HKB.out _).mono ?_
          rintro e wc6 ⟨rfl, hb6⟩
          have HD6 := hid (HD5.out.on hb6)
          clear hb6 HD5
          go_wp2_with fail
          refine hK.out _ _ HD6.out (fun hHeld => ?_)
          clear hK KQ
          try simp only [Act.put, List.setIfInBounds_toArray, List.set_cons_zero, List.set_cons_succ]
          refine wpAnyH_take (i := 7) (oi := { dst := some 99, op := Op.binOp BinOp.eql 4 (Operand.tmp 94) (Operand.tmp 98) 4, type := 4, pos := "law.go:163", after := #[{ on := 2, ground := Ground.data }, { on := 6, ground := Ground.data }], guard := none }) (v := .bool false) rfl (by kernel_rfl) (by kernel_rfl) (by kernel_rfl) (fun _ _ _ h => h) (Or.inl ⟨by rfl, by intro w hSw; cases bk <;> go_simp⟩) (by assumption) ?_
          simp only [Act.put, List.setIfInBounds_toArray, List.set_cons_zero, List.set_cons_succ]
          refine wpAnyH_done (by kernel_rfl) ?_ _
          go_wp2_with fail
          go_roundw
          case measure => simp [intOf] <;> omega
          case rel => exact ⟨k + 1, by omega, by go_num, HD6⟩
        · obtain rfl : k = 3 := by omega
          go_wp2_with fail
          go_ret
          exact ⟨rfl, HI.out.below⟩
end Go.Proofs.Ythpkodkilbcepaa
