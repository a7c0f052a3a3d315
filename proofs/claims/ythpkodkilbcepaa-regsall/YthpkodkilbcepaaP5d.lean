/- RegsBack (5). -/
import Derived.Test.YthpkodkilbcepaaP5c
namespace Go.Proofs.Ythpkodkilbcepaa
open Go.RowKit
set_option maxHeartbeats 4000000
set_option maxRecDepth 100000
attribute [-simp] Try.isAgg27 Try.sizeOf27 Try.isAgg25 Try.sizeOf25 Try.isAgg23 Try.isAgg46 Try.sizeOf46
theorem run_equalIn_pk (w : World) (d : Nat) (L : List Int) (hL : L.length = 17) : (Op.equalIn (d + 2) 46 (.agg (u32s L).toArray) (.agg (u32s L).toArray)).run Try.prog w = .ok true w := by
  have hsz : ∀ w, (sizeOf 22).run Try.prog w = .ok 1 w := fun w => by
    have := size22
    cases hq : Try.prog.info? 22 with
    | none => simp [hq] at this
    | some i => simp [hq] at this; simp [sizeOf, typeInfo, hq, this]
  rw [Op.equalIn]
  simp only [Sem.run_bind, run_underlying under46, Result.andThen_ok, hsz, Std.Legacy.Range.forIn_eq_forIn_range', Std.Legacy.Range.size, Nat.sub_zero, Nat.add_sub_cancel, Nat.div_one]
  have hl : ∀ i ∈ List.range' 0 17 1, i < 17 := fun i hi => by simpa using (List.mem_range'_1.1 hi).2
  generalize List.range' 0 17 1 = l at hl ⊢
  induction l with
  | nil => simp
  | cons i l ih =>
    have hi : i < 17 := hl i (by simp)
    have px : (part 22 (u32s L).toArray (i * 1)).run Try.prog w = .ok (.int .u32 (L.getD i 0)) w := by
      simp [part, isAgg, run_underlying under22, u32s, List.getD, List.getElem?_eq_getElem (show i < L.length by omega)]
    have pe : (Op.equalIn (d + 1) 22 (.int .u32 (L.getD i 0)) (.int .u32 (L.getD i 0))).run Try.prog w = .ok (L.getD i 0 == L.getD i 0) w := run_equalIn_int w d 22 .u32 .u32 _ _ under22
    simp only [List.forIn_cons, Sem.run_bind, px, pe, Result.andThen_ok, beq_self_eq_true, Bool.not_true, Bool.false_eq_true, if_false, Sem.run_pure]
    exact ih fun j hj => hl j (by simp [hj])
theorem pk_u32s (r : Nat → Int) (p q : Int) : pk r p q = u32s ((List.range 15).map r ++ [p, q]) := by simp [pk, rs, u32s]
theorem exec_neq_pk {a : Act} {w : World} {o : Oper} (x y : Operand) (ho : o.op = .binOp .neq 46 x y 46) (r : Nat → Int) (p q : Int) (hx : a.eval x = .agg (pk r p q).toArray) (hy : a.eval y = .agg (pk r p q).toArray) :
    (execOp a.eval o).run Try.prog w = .ok (.value (.bool false)) w := by
  have hg : (eqGuard .neq 46 x y (.agg (pk r p q).toArray) (.agg (pk r p q).toArray)).run Try.prog w = .ok () w := run_eqGuard_agg w .neq 46 x y _ _ (by kernel_rfl)
  have hr : (binOp .neq 46 (.agg (pk r p q).toArray) (.agg (pk r p q).toArray)).run Try.prog w = .ok (.bool false) w := by
    have := run_equalIn_pk w 9998 ((List.range 15).map r ++ [p, q]) (by simp)
    rw [← pk_u32s] at this
    rw [run_neq_struct, this]; rfl
  unfold execOp
  simp only [ho, hx, hy, Sem.run_bind, Sem.run_pure, hg, hr, Result.andThen_ok]
def pX (f : F) (k : Nat) : Int := if k < 15 then f.r k else if k = 15 then f.pc else f.flags
theorem pX_cs (f : F) : pk f.r f.pc f.flags = pk (pX f) (pX f 15) (pX f 16) := by
  unfold pk rs
  congr 1
theorem gw_flags (f : F) : gw f.flags = true := by
  unfold F.flags
  cases f.z <;> cases f.n <;> cases f.l <;> decide
theorem stl_r (f : F) : f.stl.r = f.r ∧ f.stl.pc = f.pc ∧ f.stl.flags = f.flags := by
  unfold F.stl
  cases h : f.z
  · exact ⟨rfl, rfl, rfl⟩
  · refine ⟨rfl, rfl, ?_⟩
    unfold F.flags
    rw [h]
    rfl
theorem back_same (f : F) : ((up (pX f) (pX f 15)).flagged (pX f 16)).same f.stl = true := by
  rw [F.same_iff]
  have h16 : pX f 16 = f.flags := rfl
  rw [h16]
  obtain ⟨hr, hp, _⟩ := stl_r f
  refine ⟨fun k hk => ?_, ?_, ?_⟩
  · rw [hr]; show pX f k = f.r k; rw [pX, if_pos hk]
  · rw [hp]; rfl
  · unfold F.flagged F.flags F.stl
    cases hz : f.z <;> cases hn : f.n <;> cases hl : f.l <;> simp [F.fl, flw, hz, hn, hl]
structure D5 (W wr : World) (g2 g5 g6 g7 : Nat) (f g fb : F) : Prop where
  box : Cel wr g2 25 f.cs
  gg : Cel wr g5 27 g.cs
  p : Cel wr g6 46 (pk f.r f.pc f.flags)
  bk : Cel wr g7 27 fb.cs
  below : Below W.heap.size W wr
theorem D5.on {W wr w' : World} {g2 g5 g6 g7 : Nat} {f g fb : F} (h : D5 W wr g2 g5 g6 g7 f g fb) (hb : Below wr.heap.size wr w') : D5 W w' g2 g5 g6 g7 f g fb := ⟨h.box.on hb, h.gg.on hb, h.p.on hb, h.bk.on hb, below_on h.below hb⟩
theorem pk_15 (f : F) : (pk f.r f.pc f.flags)[15]? = some (.int .u32 f.pc) := by rw [pX_cs, pk_at _ _ (by decide)]; rfl
theorem pk_k (f : F) (k : Nat) (h : k < 15) : (pk f.r f.pc f.flags)[k]? = some (.int .u32 (f.r k)) := by rw [pX_cs, pk_at _ _ (by omega), pX, if_pos h]
theorem back_any (W : World) (f : F) (ao : Option Addr) (n c b o : Nat) (X : Nat → Int) (hx : WX W ao n b o X) (h0 : ao = none → n = 0 ∧ c = 0) (hn : n * 4 ≤ 140737488351232) : Calls Try.prog 5 #[f.v, .slice ao n c] W fun e W' => e = .returned (.bool true) ∧ Below W.heap.size W W' := by
  have HC0 := hid (Cel.new W 25 f.cs)
  have HB0 := hid (below_one W (.cells f.cs.toArray 25))
  have HX := hid hx
  have H0 := hid h0
  have HN := hid hn
  have n1 : (n : Int) ≤ 140737488351232 := by omega
  clear hx h0 hn
  unfold F.v
  generalize hc : f.cs.toArray = C at *
  clear hc
  go_enter Try.func5, Try.ntmps5
  go_upto_region 1 with fail
  generalize hX0 : W.alloc _ = X0 at *
  clear hX0
  go_wp2_with (refine wpList_load_g rfl _ rfl W.heap.size f rfl HC0.out ?_)
  refine (file_any _ _).mono ?_
  rintro e w1 ⟨rfl, hb1⟩
  have HC1 := hid (HC0.out.on hb1)
  have HB1 := hid (below_on HB0.out hb1)
  have HC1' := hid (HC1.out.on (below_one w1 (.cells #[.int .u32 0, .int .u32 0, .int .u32 0, .int .u32 0, .int .u32 0, .int .u32 0, .int .u32 0, .int .u32 0, .int .u32 0, .int .u32 0, .int .u32 0, .int .u32 0, .int .u32 0, .int .u32 0, .int .u32 0, .int .u32 0, .bool false, .bool false, .bool false] 27)))
  have HB1' := hid (below_on HB1.out (below_one w1 (.cells #[.int .u32 0, .int .u32 0, .int .u32 0, .int .u32 0, .int .u32 0, .int .u32 0, .int .u32 0, .int .u32 0, .int .u32 0, .int .u32 0, .int .u32 0, .int .u32 0, .int .u32 0, .int .u32 0, .int .u32 0, .int .u32 0, .bool false, .bool false, .bool false] 27)))
  have HN1 := hid (cel_new27 w1)
  clear hb1 HC0 HB0
  go_upto_region 2 with (refine wpList_store_f rfl _ _ rfl w1.heap.size F.zero f rfl rfl HN1.out ?_; intro w2 hc2 hb2 hs2; have HG2 := hid hc2; have HC2 := hid (HC1'.out.but hb2 (by rw [List.mem_singleton]; have := HC1.out.lt; omega)); have HB2 := hid (HB1'.out.trans (hb2.below (B := W.heap.size) (by simp; exact HB1.out.size) HB1'.out.size)); have HO5 := hid HC1.out.lt; clear hc2 hb2 hs2 HN1 HC1' HB1' HC1 HB1)
  generalize hg5 : w1.heap.size = g5 at *
  clear hg5
  go_wp2_with (refine wpList_load_f rfl _ rfl g5 f rfl HG2.out ?_)
  refine (pack_any _ _).mono ?_
  rintro e w3 ⟨rfl, hb3⟩
  have HC3 := hid (HC2.out.on hb3)
  have HG3 := hid (HG2.out.on hb3)
  have HB3 := hid (below_on HB2.out hb3)
  have HC3' := hid (HC3.out.on (below_one w3 (.cells #[.int .u32 0, .int .u32 0, .int .u32 0, .int .u32 0, .int .u32 0, .int .u32 0, .int .u32 0, .int .u32 0, .int .u32 0, .int .u32 0, .int .u32 0, .int .u32 0, .int .u32 0, .int .u32 0, .int .u32 0, .int .u32 0, .int .u32 0] 46)))
  have HG3' := hid (HG3.out.on (below_one w3 (.cells #[.int .u32 0, .int .u32 0, .int .u32 0, .int .u32 0, .int .u32 0, .int .u32 0, .int .u32 0, .int .u32 0, .int .u32 0, .int .u32 0, .int .u32 0, .int .u32 0, .int .u32 0, .int .u32 0, .int .u32 0, .int .u32 0, .int .u32 0] 46)))
  have HB3' := hid (below_on HB3.out (below_one w3 (.cells #[.int .u32 0, .int .u32 0, .int .u32 0, .int .u32 0, .int .u32 0, .int .u32 0, .int .u32 0, .int .u32 0, .int .u32 0, .int .u32 0, .int .u32 0, .int .u32 0, .int .u32 0, .int .u32 0, .int .u32 0, .int .u32 0, .int .u32 0] 46)))
  have HN3 := hid (cel_new46 w3)
  clear hb3 HC2 HG2 HB2
  go_upto_region 3 with (refine wpList_store_st rfl 46 _ _ rfl w3.heap.size (pk f.r f.pc f.flags) rfl rfl HN3.out (by rw [size46, pk_len]) (by rw [pk_len]; rfl) (pk_all _ _ _) ?_; intro w4 hc4 hb4 hs4; have HP4 := hid hc4; have HC4 := hid (HC3'.out.but hb4 (by rw [List.mem_singleton]; have := HC3.out.lt; omega)); have HG4 := hid (HG3'.out.but hb4 (by rw [List.mem_singleton]; have := HG3.out.lt; omega)); have HB4 := hid (HB3'.out.trans (hb4.below (B := W.heap.size) (by simp; exact HB3.out.size) HB3'.out.size)); have HO6 := hid (show W.heap.size < w3.heap.size ∧ g5 < w3.heap.size from ⟨HC3.out.lt, HG3.out.lt⟩); clear hc4 hb4 hs4 HN3 HC3' HG3' HB3' HC3 HG3 HB3)
  generalize hg6 : w3.heap.size = g6 at *
  clear hg6
  have HW17 : Hid (W17 w4 g6 0 (pX f)) := hid ⟨HP4.out.lt, fun k hk => by rw [Nat.zero_add, HP4.out.cell k, pX_cs, pk_at _ _ hk]⟩
  have HUN : Hid (Calls Try.prog 15 #[.slice (some ⟨g6, 0, none⟩) 17 17] w4 fun e W' => e = .returned (.tuple #[((up (pX f) (pX f 15)).flagged (pX f 16)).v, .int .i64 0]) ∧ Below w4.heap.size w4 W') := hid (by
    have h16 : pX f 16 = f.flags := rfl
    have := unpack_yes w4 g6 0 17 (pX f) HW17.out (by rw [h16]; exact gw_nonneg (gw_flags f))
    unfold unpackV flaggedV at this
    rw [h16, gw_flags f] at this
    rw [h16]
    exact this)
  have HSM := hid (back_same f)
  generalize ((up (pX f) (pX f 15)).flagged (pX f 16)) = fb at *
  clear HW17
  go_wp2_with fail
  refine HUN.out.mono ?_
  rintro e w5 ⟨rfl, hb5⟩
  have HC5 := hid (HC4.out.on hb5)
  have HG5 := hid (HG4.out.on hb5)
  have HP5 := hid (HP4.out.on hb5)
  have HB5 := hid (below_on HB4.out hb5)
  have HC5' := hid (HC5.out.on (below_one w5 (.cells #[.int .u32 0, .int .u32 0, .int .u32 0, .int .u32 0, .int .u32 0, .int .u32 0, .int .u32 0, .int .u32 0, .int .u32 0, .int .u32 0, .int .u32 0, .int .u32 0, .int .u32 0, .int .u32 0, .int .u32 0, .int .u32 0, .bool false, .bool false, .bool false] 27)))
  have HG5' := hid (HG5.out.on (below_one w5 (.cells #[.int .u32 0, .int .u32 0, .int .u32 0, .int .u32 0, .int .u32 0, .int .u32 0, .int .u32 0, .int .u32 0, .int .u32 0, .int .u32 0, .int .u32 0, .int .u32 0, .int .u32 0, .int .u32 0, .int .u32 0, .int .u32 0, .bool false, .bool false, .bool false] 27)))
  have HP5' := hid (HP5.out.on (below_one w5 (.cells #[.int .u32 0, .int .u32 0, .int .u32 0, .int .u32 0, .int .u32 0, .int .u32 0, .int .u32 0, .int .u32 0, .int .u32 0, .int .u32 0, .int .u32 0, .int .u32 0, .int .u32 0, .int .u32 0, .int .u32 0, .int .u32 0, .bool false, .bool false, .bool false] 27)))
  have HB5' := hid (below_on HB5.out (below_one w5 (.cells #[.int .u32 0, .int .u32 0, .int .u32 0, .int .u32 0, .int .u32 0, .int .u32 0, .int .u32 0, .int .u32 0, .int .u32 0, .int .u32 0, .int .u32 0, .int .u32 0, .int .u32 0, .int .u32 0, .int .u32 0, .int .u32 0, .bool false, .bool false, .bool false] 27)))
  have HN5 := hid (cel_new27 w5)
  clear hb5 HC4 HG4 HP4 HB4 HUN
  go_upto_region 4 with (refine wpList_store_f rfl _ _ rfl w5.heap.size F.zero fb rfl rfl HN5.out ?_; intro w6 hc6 hb6 hs6; have HD6 : Hid (D5 W w6 W.heap.size g5 g6 w5.heap.size f f fb) := hid ⟨HC5'.out.but hb6 (by rw [List.mem_singleton]; have := HC5.out.lt; omega), HG5'.out.but hb6 (by rw [List.mem_singleton]; have := HG5.out.lt; omega), HP5'.out.but hb6 (by rw [List.mem_singleton]; have := HP5.out.lt; omega), hc6, HB5'.out.trans (hb6.below (B := W.heap.size) (by simp; exact HB5.out.size) HB5'.out.size)⟩; have HO7 := hid (show g5 < w5.heap.size from HG5.out.lt); clear hc6 hb6 hs6 HN5 HC5' HG5' HP5' HB5' HC5 HG5 HP5 HB5)
  generalize hg7 : w5.heap.size = g7 at *
  clear hg7
  have y16 := (HD6.out.box.cell 16).trans f.at16
  have q17 := (HD6.out.gg.cell 17).trans f.at17
  have q18 := (HD6.out.gg.cell 18).trans f.at18
  have u17 := HD6.out.gg.free 17
  have u18 := HD6.out.gg.free 18
  have HST := hid (stl_r f)
  cases hz : f.z with
  | true =>
    have HFS : Hid (f.fl f.z false false = f.stl) := hid (by unfold F.stl; rw [hz]; rfl)
    rw [hz] at y16
    have HD7 : Hid (D5 W ((w6.setCell ⟨g5, 17, none⟩ (.bool false)).setCell ⟨g5, 18, none⟩ (.bool false)) W.heap.size g5 g6 g7 f f.stl fb) := hid (by
      have hb := (ButL.setCell (G := [g5]) w6 g5 17 (.bool false) (by simp)).trans (ButL.setCell (G := [g5]) _ g5 18 (.bool false) (by simp))
      have h1 := HD6.out.gg.setCell 17 (.bool false)
      rw [F.set17] at h1
      have h2 := h1.setCell 18 (.bool false)
      rw [F.set18] at h2
      have h5 := HO5.out
      have h6 := HO6.out
      have h7 := HO7.out
      exact ⟨HD6.out.box.but hb (by rw [List.mem_singleton]; omega), by rw [← HFS.out]; exact h2, HD6.out.p.but hb (by rw [List.mem_singleton]; omega), HD6.out.bk.but hb (by rw [List.mem_singleton]; omega), HD6.out.below.trans (hb.below (by simp; omega) HD6.out.below.size)⟩)
    clear HD6 HFS hz
    go_upto_region 7 with fail
    generalize hX7 : World.setCell _ _ _ = X7 at *
    clear hX7 y16 q17 q18 u17 u18 HO5 HO6 HO7
    generalize hgs : f.stl = gs at *
    clear hgs
    obtain ⟨g2, hg2⟩ : ∃ g, W.heap.size = g := ⟨_, rfl⟩
    have HD7 : Hid (D5 W X7 g2 g5 g6 g7 f gs fb) := by rw [← hg2]; exact HD7
    rw [show (Value.pointer (some { block := W.heap.size, off := 0 })) = Value.pointer (some { block := g2, off := 0 }) by rw [hg2]]
    clear hg2
    have HD := hid (HD7.out.on (Below.refl _ _).drew)
    clear HD7
    refine wp_region_held_drew (S := fun x => D5 W x g2 g5 g6 g7 f gs fb) (by kernel_rfl) HD.out (fun hHeld => ?_)
    refine wpAnyH_ready (rs := [0]) (by kernel_rfl) (by simp) (AllReadyH.cons (o := { dst := some 33, op := Op.call { callee := Callee.value (Operand.func 7), args := #[], argTypes := #[] }, type := 4, pos := "law.go:106", after := #[], guard := none }) rfl (fun KQ hK => ?_) AllReadyH.nil)
    go_simp
    refine (head_any _).mono ?_
    rintro e wc1 ⟨rfl, hb1⟩
    have HD1 := hid (HD.out.on hb1)
    clear hb1 HD
    go_wp2_with fail
    refine hK.out _ _ HD1.out (fun hHeld => ?_)
    clear hK KQ
    try simp only [Act.put, List.setIfInBounds_toArray, List.set_cons_zero, List.set_cons_succ]
    refine wpAnyH_take (i := 1) (oi := { dst := some 34, op := Op.unOp UnOp.not 4 (Operand.tmp 33), type := 4, pos := "law.go:106", after := #[{ on := 0, ground := Ground.data }], guard := none }) (v := .bool false) rfl (by kernel_rfl) (by kernel_rfl) (by kernel_rfl) (fun _ _ _ h => h) (Or.inl ⟨by rfl, by intro w hSw; go_simp⟩) (by assumption) ?_
    simp only [Act.put, List.setIfInBounds_toArray, List.set_cons_zero, List.set_cons_succ]
    refine wpAnyH_take (i := 2) (oi := { dst := some 35, op := Op.move (Operand.tmp 34), type := 4, pos := "law.go:106", after := #[{ on := 1, ground := Ground.data }, { on := 0, ground := Ground.chain }], guard := none }) (v := .bool false) rfl (by kernel_rfl) (by kernel_rfl) (by kernel_rfl) (fun _ _ _ h => h) (Or.inl ⟨by rfl, by intro w hSw; go_simp⟩) (by assumption) ?_
    simp only [Act.put, List.setIfInBounds_toArray, List.set_cons_zero, List.set_cons_succ]
    refine wpAnyH_take (i := 3) (oi := { dst := some 36, op := Op.move (Operand.tmp 8), type := 39, pos := "law.go:106", after := #[{ on := 2, ground := Ground.guard }], guard := some (2, false) }) (v := .int .i64 0) rfl (by kernel_rfl) (by kernel_rfl) (by kernel_rfl) (fun _ _ _ h => h) (Or.inl ⟨by rfl, by intro w hSw; go_simp⟩) (by assumption) ?_
    simp only [Act.put, List.setIfInBounds_toArray, List.set_cons_zero, List.set_cons_succ]
    refine wpAnyH_take (i := 4) (oi := { dst := some 37, op := Op.binOp BinOp.neq 3 (Operand.tmp 36) (Operand.const (Value.int IntKind.i64 0)) 3, type := 4, pos := "law.go:106", after := #[{ on := 3, ground := Ground.data }, { on := 2, ground := Ground.guard }], guard := some (2, false) }) (v := .bool false) rfl (by kernel_rfl) (by kernel_rfl) (by kernel_rfl) (fun _ _ _ h => h) (Or.inl ⟨by rfl, by intro w hSw; go_simp⟩) (by assumption) ?_
    simp only [Act.put, List.setIfInBounds_toArray, List.set_cons_zero, List.set_cons_succ]
    refine wpAnyH_take (i := 5) (oi := { dst := some 38, op := Op.pick (Operand.tmp 35) (Operand.const (Value.bool true)) (Operand.tmp 37), type := 4, pos := "law.go:106", after := #[{ on := 2, ground := Ground.data }, { on := 4, ground := Ground.data }], guard := none }) (v := .bool false) rfl (by kernel_rfl) (by kernel_rfl) (by kernel_rfl) (fun _ _ _ h => h) (Or.inl ⟨by rfl, by intro w hSw; go_simp⟩) (by assumption) ?_
    simp only [Act.put, List.setIfInBounds_toArray, List.set_cons_zero, List.set_cons_succ]
    refine wpAnyH_take (i := 6) (oi := { dst := some 39, op := Op.move (Operand.tmp 38), type := 4, pos := "law.go:106", after := #[{ on := 5, ground := Ground.data }, { on := 2, ground := Ground.chain }], guard := none }) (v := .bool false) rfl (by kernel_rfl) (by kernel_rfl) (by kernel_rfl) (fun _ _ _ h => h) (Or.inl ⟨by rfl, by intro w hSw; go_simp⟩) (by assumption) ?_
    simp only [Act.put, List.setIfInBounds_toArray, List.set_cons_zero, List.set_cons_succ]
    refine wpAnyH_take (i := 7) (oi := { dst := some 40, op := Op.load 27 (Operand.tmp 7), type := 27, pos := "law.go:106", after := #[{ on := 6, ground := Ground.guard }], guard := some (6, false) }) (v := fb.v) rfl (by kernel_rfl) (by kernel_rfl) (by kernel_rfl) (fun _ _ _ h => h) (yieldsIf_load_mid (by rfl) 27 _ rfl g7 0 rfl fb.cs _ (fun w hSw => hSw.bk.range) under27 rfl (by rw [size27, F.len])) (by assumption) ?_
    simp only [Act.put, List.setIfInBounds_toArray, List.set_cons_zero, List.set_cons_succ]
    refine wpAnyH_take (i := 8) (oi := { dst := some 41, op := Op.load 27 (Operand.tmp 5), type := 27, pos := "law.go:106", after := #[{ on := 6, ground := Ground.guard }], guard := some (6, false) }) (v := gs.v) rfl (by kernel_rfl) (by kernel_rfl) (by kernel_rfl) (fun _ _ _ h => h) (yieldsIf_load_mid (by rfl) 27 _ rfl g5 0 rfl gs.cs _ (fun w hSw => hSw.gg.range) under27 rfl (by rw [size27, F.len])) (by assumption) ?_
    simp only [Act.put, List.setIfInBounds_toArray, List.set_cons_zero, List.set_cons_succ]
    refine wpAnyH_take (i := 9) (oi := { dst := some 42, op := Op.binOp BinOp.neq 27 (Operand.tmp 40) (Operand.tmp 41) 27, type := 4, pos := "law.go:106", after := #[{ on := 7, ground := Ground.data }, { on := 8, ground := Ground.data }, { on := 6, ground := Ground.guard }], guard := some (6, false) }) (v := .bool false) rfl (by kernel_rfl) (by kernel_rfl) (by kernel_rfl) (fun _ _ _ h => h) (Or.inl ⟨by rfl, fun w hSw => exec_neq_f _ _ rfl fb gs rfl rfl _ (by rw [HSM.out]; rfl)⟩) (by assumption) ?_
    simp only [Act.put, List.setIfInBounds_toArray, List.set_cons_zero, List.set_cons_succ]
    refine wpAnyH_take (i := 10) (oi := { dst := some 43, op := Op.pick (Operand.tmp 39) (Operand.const (Value.bool true)) (Operand.tmp 42), type := 4, pos := "law.go:106", after := #[{ on := 6, ground := Ground.data }, { on := 9, ground := Ground.data }], guard := none }) (v := .bool false) rfl (by kernel_rfl) (by kernel_rfl) (by kernel_rfl) (fun _ _ _ h => h) (Or.inl ⟨by rfl, by intro w hSw; go_simp⟩) (by assumption) ?_
    simp only [Act.put, List.setIfInBounds_toArray, List.set_cons_zero, List.set_cons_succ]
    refine wpAnyH_take (i := 11) (oi := { dst := some 44, op := Op.move (Operand.tmp 43), type := 4, pos := "law.go:106", after := #[{ on := 10, ground := Ground.data }, { on := 6, ground := Ground.chain }], guard := none }) (v := .bool false) rfl (by kernel_rfl) (by kernel_rfl) (by kernel_rfl) (fun _ _ _ h => h) (Or.inl ⟨by rfl, by intro w hSw; go_simp⟩) (by assumption) ?_
    simp only [Act.put, List.setIfInBounds_toArray, List.set_cons_zero, List.set_cons_succ]
    refine wpAnyH_take (i := 12) (oi := { dst := some 45, op := Op.indexAddr 46 (Operand.tmp 6) (Operand.const (Value.int IntKind.i64 15)), type := 0, pos := "law.go:106", after := #[{ on := 11, ground := Ground.guard }], guard := some (11, false) }) (v := .pointer (some ⟨g6, 15, none⟩)) rfl (by kernel_rfl) (by kernel_rfl) (by kernel_rfl) (fun _ _ _ h => h) (Or.inl ⟨by rfl, by intro w hSw; go_simp⟩) (by assumption) ?_
    simp only [Act.put, List.setIfInBounds_toArray, List.set_cons_zero, List.set_cons_succ]
    refine wpAnyH_take (i := 13) (oi := { dst := some 46, op := Op.load 22 (Operand.tmp 45), type := 22, pos := "law.go:106", after := #[{ on := 12, ground := Ground.data }, { on := 11, ground := Ground.guard }], guard := some (11, false) }) (v := .int .u32 f.pc) rfl (by kernel_rfl) (by kernel_rfl) (by kernel_rfl) (fun _ _ _ h => h) (Or.inl ⟨by rfl, by intro w hSw; have y := (hSw.p.cell 15).trans (pk_15 f); go_simp⟩) (by assumption) ?_
    simp only [Act.put, List.setIfInBounds_toArray, List.set_cons_zero, List.set_cons_succ]
    refine wpAnyH_take (i := 14) (oi := { dst := some 47, op := Op.fieldAddr 25 (Operand.tmp 2) 1, type := 0, pos := "law.go:106", after := #[{ on := 11, ground := Ground.guard }], guard := some (11, false) }) (v := .pointer (some ⟨g2, 15, none⟩)) rfl (by kernel_rfl) (by kernel_rfl) (by kernel_rfl) (fun _ _ _ h => h) (Or.inl ⟨by rfl, by intro w hSw; go_simp⟩) (by assumption) ?_
    simp only [Act.put, List.setIfInBounds_toArray, List.set_cons_zero, List.set_cons_succ]
    refine wpAnyH_take (i := 15) (oi := { dst := some 48, op := Op.load 22 (Operand.tmp 47), type := 22, pos := "law.go:106", after := #[{ on := 14, ground := Ground.data }, { on := 11, ground := Ground.guard }], guard := some (11, false) }) (v := .int .u32 f.pc) rfl (by kernel_rfl) (by kernel_rfl) (by kernel_rfl) (fun _ _ _ h => h) (Or.inl ⟨by rfl, by intro w hSw; have y := (hSw.box.cell 15).trans f.at15; go_simp⟩) (by assumption) ?_
    simp only [Act.put, List.setIfInBounds_toArray, List.set_cons_zero, List.set_cons_succ]
    refine wpAnyH_take (i := 16) (oi := { dst := some 49, op := Op.binOp BinOp.neq 22 (Operand.tmp 46) (Operand.tmp 48) 22, type := 4, pos := "law.go:106", after := #[{ on := 13, ground := Ground.data }, { on := 15, ground := Ground.data }, { on := 11, ground := Ground.guard }], guard := some (11, false) }) (v := .bool false) rfl (by kernel_rfl) (by kernel_rfl) (by kernel_rfl) (fun _ _ _ h => h) (Or.inl ⟨by rfl, by intro w hSw; go_simp⟩) (by assumption) ?_
    simp only [Act.put, List.setIfInBounds_toArray, List.set_cons_zero, List.set_cons_succ]
    refine wpAnyH_take (i := 17) (oi := { dst := some 50, op := Op.pick (Operand.tmp 44) (Operand.const (Value.bool true)) (Operand.tmp 49), type := 4, pos := "law.go:106", after := #[{ on := 11, ground := Ground.data }, { on := 16, ground := Ground.data }], guard := none }) (v := .bool false) rfl (by kernel_rfl) (by kernel_rfl) (by kernel_rfl) (fun _ _ _ h => h) (Or.inl ⟨by rfl, by intro w hSw; go_simp⟩) (by assumption) ?_
    simp only [Act.put, List.setIfInBounds_toArray, List.set_cons_zero, List.set_cons_succ]
    refine wpAnyH_take (i := 18) (oi := { dst := some 51, op := Op.move (Operand.tmp 50), type := 4, pos := "law.go:106", after := #[{ on := 17, ground := Ground.data }, { on := 11, ground := Ground.chain }], guard := none }) (v := .bool false) rfl (by kernel_rfl) (by kernel_rfl) (by kernel_rfl) (fun _ _ _ h => h) (Or.inl ⟨by rfl, by intro w hSw; go_simp⟩) (by assumption) ?_
    simp only [Act.put, List.setIfInBounds_toArray, List.set_cons_zero, List.set_cons_succ]
    refine wpAnyH_take (i := 19) (oi := { dst := some 52, op := Op.load 46 (Operand.tmp 6), type := 46, pos := "law.go:106", after := #[{ on := 18, ground := Ground.guard }], guard := some (18, false) }) (v := .agg (pk f.r f.pc f.flags).toArray) rfl (by kernel_rfl) (by kernel_rfl) (by kernel_rfl) (fun _ _ _ h => h) (yieldsIf_load_mid (by rfl) 46 _ rfl g6 0 rfl (pk f.r f.pc f.flags) _ (fun w hSw => hSw.p.range) under46 rfl (by rw [size46, pk_len])) (by assumption) ?_
    simp only [Act.put, List.setIfInBounds_toArray, List.set_cons_zero, List.set_cons_succ]
    refine wpAnyH_take (i := 20) (oi := { dst := some 53, op := Op.load 27 (Operand.tmp 5), type := 27, pos := "law.go:106", after := #[{ on := 18, ground := Ground.guard }], guard := some (18, false) }) (v := gs.v) rfl (by kernel_rfl) (by kernel_rfl) (by kernel_rfl) (fun _ _ _ h => h) (yieldsIf_load_mid (by rfl) 27 _ rfl g5 0 rfl gs.cs _ (fun w hSw => hSw.gg.range) under27 rfl (by rw [size27, F.len])) (by assumption) ?_
    simp only [Act.put, List.setIfInBounds_toArray, List.set_cons_zero, List.set_cons_succ]
    refine wpAnyH_ready (rs := [21]) (by kernel_rfl) (by simp) (AllReadyH.cons (o := { dst := some 54, op := Op.call { callee := Callee.value (Operand.func 14), args := #[Operand.tmp 53], argTypes := #[27] }, type := 46, pos := "law.go:106", after := #[{ on := 20, ground := Ground.data }, { on := 18, ground := Ground.chain }, { on := 18, ground := Ground.guard }], guard := some (18, false) }) rfl (fun KQ hK => ?_) AllReadyH.nil)
    go_simp
    refine (pack_any _ _).mono ?_
    rintro e wc2 ⟨rfl, hb2⟩
    rw [HST.out.1, HST.out.2.1, HST.out.2.2]
    have HD2 := hid (HD1.out.on hb2)
    clear hb2 HD1
    go_wp2_with fail
    refine hK.out _ _ HD2.out (fun hHeld => ?_)
    clear hK KQ
    try simp only [Act.put, List.setIfInBounds_toArray, List.set_cons_zero, List.set_cons_succ]
    refine wpAnyH_take (i := 22) (oi := { dst := some 55, op := Op.binOp BinOp.neq 46 (Operand.tmp 52) (Operand.tmp 54) 46, type := 4, pos := "law.go:106", after := #[{ on := 19, ground := Ground.data }, { on := 21, ground := Ground.data }, { on := 18, ground := Ground.guard }], guard := some (18, false) }) (v := .bool false) rfl (by kernel_rfl) (by kernel_rfl) (by kernel_rfl) (fun _ _ _ h => h) (Or.inl ⟨by rfl, fun w hSw => exec_neq_pk _ _ rfl f.r f.pc f.flags rfl rfl⟩) (by assumption) ?_
    simp only [Act.put, List.setIfInBounds_toArray, List.set_cons_zero, List.set_cons_succ]
    refine wpAnyH_take (i := 23) (oi := { dst := some 56, op := Op.pick (Operand.tmp 51) (Operand.const (Value.bool true)) (Operand.tmp 55), type := 4, pos := "law.go:106", after := #[{ on := 18, ground := Ground.data }, { on := 22, ground := Ground.data }], guard := none }) (v := .bool false) rfl (by kernel_rfl) (by kernel_rfl) (by kernel_rfl) (fun _ _ _ h => h) (Or.inl ⟨by rfl, by intro w hSw; go_simp⟩) (by assumption) ?_
    simp only [Act.put, List.setIfInBounds_toArray, List.set_cons_zero, List.set_cons_succ]
    refine wpAnyH_done (by kernel_rfl) ?_ _
    go_upto_region 9 with fail
    generalize hwc : wc2 = w9 at *
    go_cut [9] (fun i w3 => i = .int .i64 0 ∧ w3 = w9)
    case first =>
      go_wp2_with fail
      go_meet
      exact ⟨rfl, rfl⟩
    case rest =>
    obtain ⟨rfl, rfl⟩ := hcut
    refine (‹∀ (a : Act) (w : World), Code.wp Try.prog _ _ a w → _› _ _ ?_)
    go_cut [9] (fun i wc => Hid (D5 W wc g2 g5 g6 g7 f gs fb))
    case first =>
      go_wp2_with fail
      go_loopw [9] (fun i wr => ∃ k : Nat, k ≤ 15 ∧ i = .int .i64 (k : Int) ∧ Hid (D5 W wr g2 g5 g6 g7 f gs fb)) (fun i _ => 15 - (intOf i).toNat)
      case atStart => exact ⟨0, by omega, rfl, HD2⟩
      case round =>
        obtain ⟨k, hk, rfl, HI⟩ := hrel
        by_cases hlt : k < 15
        · have c1 : (k : Int) < 15 := by omega
          have c2 : (k : Int) < 17 := by omega
          go_wp2_with fail
          have HE := hid (HI.out.on (Below.refl _ _).drew)
          clear HI
          refine wp_region_held_drew (S := fun x => D5 W x g2 g5 g6 g7 f gs fb) (by kernel_rfl) HE.out (fun hHeld => ?_)
          refine wpAnyH_take (i := 0) (oi := { dst := some 61, op := Op.move (Operand.tmp 9), type := 3, pos := "law.go:110", after := #[], guard := none }) (v := .int .i64 (k : Int)) rfl (by kernel_rfl) (by kernel_rfl) (by kernel_rfl) (fun _ _ _ h => h) (Or.inl ⟨by rfl, by intro w hSw; go_simp⟩) (by assumption) ?_
          simp only [Act.put, List.setIfInBounds_toArray, List.set_cons_zero, List.set_cons_succ]
          refine wpAnyH_take (i := 1) (oi := { dst := some 62, op := Op.indexAddr 46 (Operand.tmp 6) (Operand.tmp 61), type := 0, pos := "law.go:110", after := #[{ on := 0, ground := Ground.data }], guard := none }) (v := .pointer (some ⟨g6, k, none⟩)) rfl (by kernel_rfl) (by kernel_rfl) (by kernel_rfl) (fun _ _ _ h => h) (Or.inl ⟨by rfl, by intro w hSw; go_simp⟩) (by assumption) ?_
          simp only [Act.put, List.setIfInBounds_toArray, List.set_cons_zero, List.set_cons_succ]
          refine wpAnyH_take (i := 2) (oi := { dst := some 63, op := Op.load 22 (Operand.tmp 62), type := 22, pos := "law.go:110", after := #[{ on := 1, ground := Ground.data }], guard := none }) (v := .int .u32 (f.r k)) rfl (by kernel_rfl) (by kernel_rfl) (by kernel_rfl) (fun _ _ _ h => h) (Or.inl ⟨by rfl, by intro w hSw; have y := (hSw.p.cell k).trans (pk_k f k hlt); go_simp⟩) (by assumption) ?_
          simp only [Act.put, List.setIfInBounds_toArray, List.set_cons_zero, List.set_cons_succ]
          refine wpAnyH_take (i := 3) (oi := { dst := some 64, op := Op.move (Operand.tmp 9), type := 3, pos := "law.go:110", after := #[], guard := none }) (v := .int .i64 (k : Int)) rfl (by kernel_rfl) (by kernel_rfl) (by kernel_rfl) (fun _ _ _ h => h) (Or.inl ⟨by rfl, by intro w hSw; go_simp⟩) (by assumption) ?_
          simp only [Act.put, List.setIfInBounds_toArray, List.set_cons_zero, List.set_cons_succ]
          refine wpAnyH_take (i := 4) (oi := { dst := some 65, op := Op.fieldAddr 25 (Operand.tmp 2) 0, type := 0, pos := "law.go:110", after := #[], guard := none }) (v := .pointer (some ⟨g2, 0, none⟩)) rfl (by kernel_rfl) (by kernel_rfl) (by kernel_rfl) (fun _ _ _ h => h) (Or.inl ⟨by rfl, by intro w hSw; go_simp⟩) (by assumption) ?_
          simp only [Act.put, List.setIfInBounds_toArray, List.set_cons_zero, List.set_cons_succ]
          refine wpAnyH_take (i := 5) (oi := { dst := some 66, op := Op.indexAddr 23 (Operand.tmp 65) (Operand.tmp 64), type := 0, pos := "law.go:110", after := #[{ on := 4, ground := Ground.data }, { on := 3, ground := Ground.data }], guard := none }) (v := .pointer (some ⟨g2, k, none⟩)) rfl (by kernel_rfl) (by kernel_rfl) (by kernel_rfl) (fun _ _ _ h => h) (Or.inl ⟨by rfl, by intro w hSw; go_simp⟩) (by assumption) ?_
          simp only [Act.put, List.setIfInBounds_toArray, List.set_cons_zero, List.set_cons_succ]
          refine wpAnyH_take (i := 6) (oi := { dst := some 67, op := Op.load 22 (Operand.tmp 66), type := 22, pos := "law.go:110", after := #[{ on := 5, ground := Ground.data }], guard := none }) (v := .int .u32 (f.r k)) rfl (by kernel_rfl) (by kernel_rfl) (by kernel_rfl) (fun _ _ _ h => h) (Or.inl ⟨by rfl, by intro w hSw; have y := (hSw.box.cell k).trans (f.at k hlt); go_simp⟩) (by assumption) ?_
          simp only [Act.put, List.setIfInBounds_toArray, List.set_cons_zero, List.set_cons_succ]
          refine wpAnyH_take (i := 7) (oi := { dst := some 68, op := Op.binOp BinOp.neq 22 (Operand.tmp 63) (Operand.tmp 67) 22, type := 4, pos := "law.go:110", after := #[{ on := 2, ground := Ground.data }, { on := 6, ground := Ground.data }], guard := none }) (v := .bool false) rfl (by kernel_rfl) (by kernel_rfl) (by kernel_rfl) (fun _ _ _ h => h) (Or.inl ⟨by rfl, by intro w hSw; go_simp⟩) (by assumption) ?_
          simp only [Act.put, List.setIfInBounds_toArray, List.set_cons_zero, List.set_cons_succ]
          refine wpAnyH_done (by kernel_rfl) ?_ _
          go_wp2_with fail
          go_roundw
          case measure => simp [intOf] <;> omega
          case rel => exact ⟨k + 1, by omega, by go_num, HE⟩
        · obtain rfl : k = 15 := by omega
          go_wp2_with fail
          go_meet
          exact HI
    case rest =>
      have HF := hcut
      clear hcut
      exact (‹∀ (a : Act) (w : World), Code.wp Try.prog _ _ a w → _› _ _ (back_c W _ ao n c b o X HX.out H0.out HN.out g5 gs HF.out.gg HF.out.below _ _ _ _ _ _ _ _ _ _ _ _ _ _ _ _ _ _ _ _ _ _ _ _ _ _ _ _ _ _ _ _ _ _ _ _ _ _ _ _ _ _ _ _ _ _ _ _ _ _ _ _ _ _ _ _ _ _ _ _ _ _ _ _ _ _ _ _ _ _ _ _ _ _ _ _ _ _ _ _ _ _ _ _ _ _ _ _ _ _ _ _ _ _ _ _ _ _ _ _ _ _ _ _ _ _ _ _ _ _ _ _ _ _ _ _ _ _ _ _ _ _ _ _ _ _ _ _ _ _ _ _ _ _ _ _ _ _ _ _ _ _ _ _ _ _ _ _ _ _ _ _ _ _ _ _ _ _ _ _ _ _ _ _ _ _ _ _ _ _ _ _ _ _ _ _ _ _ _ _ _ _ _ _ _ _ _ _ _ _ _ _ _ _ _ _ _ _ _ _ _ _ _ _ _ _ _ _ _ _ _ _ _ _ _ _ _ _ _ _ _ _ _))
  | false =>
    have HFS : Hid (f = f.stl) := hid (by unfold F.stl; rw [hz]; rfl)
    rw [hz] at y16
    have HD7 : Hid (D5 W w6 W.heap.size g5 g6 g7 f f.stl fb) := hid (by
      have := HD6.out
      exact ⟨this.box, by rw [← HFS.out]; exact this.gg, this.p, this.bk, this.below⟩)
    clear HD6 HFS hz
    go_upto_region 7 with fail
    generalize hX7 : w6 = X7 at *
    clear hX7 y16 q17 q18 u17 u18 HO5 HO6 HO7
    generalize hgs : f.stl = gs at *
    clear hgs
    obtain ⟨g2, hg2⟩ : ∃ g, W.heap.size = g := ⟨_, rfl⟩
    have HD7 : Hid (D5 W X7 g2 g5 g6 g7 f gs fb) := by rw [← hg2]; exact HD7
    rw [show (Value.pointer (some { block := W.heap.size, off := 0 })) = Value.pointer (some { block := g2, off := 0 }) by rw [hg2]]
    clear hg2
    have HD := hid (HD7.out.on (Below.refl _ _).drew)
    clear HD7
    refine wp_region_held_drew (S := fun x => D5 W x g2 g5 g6 g7 f gs fb) (by kernel_rfl) HD.out (fun hHeld => ?_)
    refine wpAnyH_ready (rs := [0]) (by kernel_rfl) (by simp) (AllReadyH.cons (o := { dst := some 33, op := Op.call { callee := Callee.value (Operand.func 7), args := #[], argTypes := #[] }, type := 4, pos := "law.go:106", after := #[], guard := none }) rfl (fun KQ hK => ?_) AllReadyH.nil)
    go_simp
    refine (head_any _).mono ?_
    rintro e wc3 ⟨rfl, hb3⟩
    have HD3 := hid (HD.out.on hb3)
    clear hb3 HD
    go_wp2_with fail
    refine hK.out _ _ HD3.out (fun hHeld => ?_)
    clear hK KQ
    try simp only [Act.put, List.setIfInBounds_toArray, List.set_cons_zero, List.set_cons_succ]
    refine wpAnyH_take (i := 1) (oi := { dst := some 34, op := Op.unOp UnOp.not 4 (Operand.tmp 33), type := 4, pos := "law.go:106", after := #[{ on := 0, ground := Ground.data }], guard := none }) (v := .bool false) rfl (by kernel_rfl) (by kernel_rfl) (by kernel_rfl) (fun _ _ _ h => h) (Or.inl ⟨by rfl, by intro w hSw; go_simp⟩) (by assumption) ?_
    simp only [Act.put, List.setIfInBounds_toArray, List.set_cons_zero, List.set_cons_succ]
    refine wpAnyH_take (i := 2) (oi := { dst := some 35, op := Op.move (Operand.tmp 34), type := 4, pos := "law.go:106", after := #[{ on := 1, ground := Ground.data }, { on := 0, ground := Ground.chain }], guard := none }) (v := .bool false) rfl (by kernel_rfl) (by kernel_rfl) (by kernel_rfl) (fun _ _ _ h => h) (Or.inl ⟨by rfl, by intro w hSw; go_simp⟩) (by assumption) ?_
    simp only [Act.put, List.setIfInBounds_toArray, List.set_cons_zero, List.set_cons_succ]
    refine wpAnyH_take (i := 3) (oi := { dst := some 36, op := Op.move (Operand.tmp 8), type := 39, pos := "law.go:106", after := #[{ on := 2, ground := Ground.guard }], guard := some (2, false) }) (v := .int .i64 0) rfl (by kernel_rfl) (by kernel_rfl) (by kernel_rfl) (fun _ _ _ h => h) (Or.inl ⟨by rfl, by intro w hSw; go_simp⟩) (by assumption) ?_
    simp only [Act.put, List.setIfInBounds_toArray, List.set_cons_zero, List.set_cons_succ]
    refine wpAnyH_take (i := 4) (oi := { dst := some 37, op := Op.binOp BinOp.neq 3 (Operand.tmp 36) (Operand.const (Value.int IntKind.i64 0)) 3, type := 4, pos := "law.go:106", after := #[{ on := 3, ground := Ground.data }, { on := 2, ground := Ground.guard }], guard := some (2, false) }) (v := .bool false) rfl (by kernel_rfl) (by kernel_rfl) (by kernel_rfl) (fun _ _ _ h => h) (Or.inl ⟨by rfl, by intro w hSw; go_simp⟩) (by assumption) ?_
    simp only [Act.put, List.setIfInBounds_toArray, List.set_cons_zero, List.set_cons_succ]
    refine wpAnyH_take (i := 5) (oi := { dst := some 38, op := Op.pick (Operand.tmp 35) (Operand.const (Value.bool true)) (Operand.tmp 37), type := 4, pos := "law.go:106", after := #[{ on := 2, ground := Ground.data }, { on := 4, ground := Ground.data }], guard := none }) (v := .bool false) rfl (by kernel_rfl) (by kernel_rfl) (by kernel_rfl) (fun _ _ _ h => h) (Or.inl ⟨by rfl, by intro w hSw; go_simp⟩) (by assumption) ?_
    simp only [Act.put, List.setIfInBounds_toArray, List.set_cons_zero, List.set_cons_succ]
    refine wpAnyH_take (i := 6) (oi := { dst := some 39, op := Op.move (Operand.tmp 38), type := 4, pos := "law.go:106", after := #[{ on := 5, ground := Ground.data }, { on := 2, ground := Ground.chain }], guard := none }) (v := .bool false) rfl (by kernel_rfl) (by kernel_rfl) (by kernel_rfl) (fun _ _ _ h => h) (Or.inl ⟨by rfl, by intro w hSw; go_simp⟩) (by assumption) ?_
    simp only [Act.put, List.setIfInBounds_toArray, List.set_cons_zero, List.set_cons_succ]
    refine wpAnyH_take (i := 7) (oi := { dst := some 40, op := Op.load 27 (Operand.tmp 7), type := 27, pos := "law.go:106", after := #[{ on := 6, ground := Ground.guard }], guard := some (6, false) }) (v := fb.v) rfl (by kernel_rfl) (by kernel_rfl) (by kernel_rfl) (fun _ _ _ h => h) (yieldsIf_load_mid (by rfl) 27 _ rfl g7 0 rfl fb.cs _ (fun w hSw => hSw.bk.range) under27 rfl (by rw [size27, F.len])) (by assumption) ?_
    simp only [Act.put, List.setIfInBounds_toArray, List.set_cons_zero, List.set_cons_succ]
    refine wpAnyH_take (i := 8) (oi := { dst := some 41, op := Op.load 27 (Operand.tmp 5), type := 27, pos := "law.go:106", after := #[{ on := 6, ground := Ground.guard }], guard := some (6, false) }) (v := gs.v) rfl (by kernel_rfl) (by kernel_rfl) (by kernel_rfl) (fun _ _ _ h => h) (yieldsIf_load_mid (by rfl) 27 _ rfl g5 0 rfl gs.cs _ (fun w hSw => hSw.gg.range) under27 rfl (by rw [size27, F.len])) (by assumption) ?_
    simp only [Act.put, List.setIfInBounds_toArray, List.set_cons_zero, List.set_cons_succ]
    refine wpAnyH_take (i := 9) (oi := { dst := some 42, op := Op.binOp BinOp.neq 27 (Operand.tmp 40) (Operand.tmp 41) 27, type := 4, pos := "law.go:106", after := #[{ on := 7, ground := Ground.data }, { on := 8, ground := Ground.data }, { on := 6, ground := Ground.guard }], guard := some (6, false) }) (v := .bool false) rfl (by kernel_rfl) (by kernel_rfl) (by kernel_rfl) (fun _ _ _ h => h) (Or.inl ⟨by rfl, fun w hSw => exec_neq_f _ _ rfl fb gs rfl rfl _ (by rw [HSM.out]; rfl)⟩) (by assumption) ?_
    simp only [Act.put, List.setIfInBounds_toArray, List.set_cons_zero, List.set_cons_succ]
    refine wpAnyH_take (i := 10) (oi := { dst := some 43, op := Op.pick (Operand.tmp 39) (Operand.const (Value.bool true)) (Operand.tmp 42), type := 4, pos := "law.go:106", after := #[{ on := 6, ground := Ground.data }, { on := 9, ground := Ground.data }], guard := none }) (v := .bool false) rfl (by kernel_rfl) (by kernel_rfl) (by kernel_rfl) (fun _ _ _ h => h) (Or.inl ⟨by rfl, by intro w hSw; go_simp⟩) (by assumption) ?_
    simp only [Act.put, List.setIfInBounds_toArray, List.set_cons_zero, List.set_cons_succ]
    refine wpAnyH_take (i := 11) (oi := { dst := some 44, op := Op.move (Operand.tmp 43), type := 4, pos := "law.go:106", after := #[{ on := 10, ground := Ground.data }, { on := 6, ground := Ground.chain }], guard := none }) (v := .bool false) rfl (by kernel_rfl) (by kernel_rfl) (by kernel_rfl) (fun _ _ _ h => h) (Or.inl ⟨by rfl, by intro w hSw; go_simp⟩) (by assumption) ?_
    simp only [Act.put, List.setIfInBounds_toArray, List.set_cons_zero, List.set_cons_succ]
    refine wpAnyH_take (i := 12) (oi := { dst := some 45, op := Op.indexAddr 46 (Operand.tmp 6) (Operand.const (Value.int IntKind.i64 15)), type := 0, pos := "law.go:106", after := #[{ on := 11, ground := Ground.guard }], guard := some (11, false) }) (v := .pointer (some ⟨g6, 15, none⟩)) rfl (by kernel_rfl) (by kernel_rfl) (by kernel_rfl) (fun _ _ _ h => h) (Or.inl ⟨by rfl, by intro w hSw; go_simp⟩) (by assumption) ?_
    simp only [Act.put, List.setIfInBounds_toArray, List.set_cons_zero, List.set_cons_succ]
    refine wpAnyH_take (i := 13) (oi := { dst := some 46, op := Op.load 22 (Operand.tmp 45), type := 22, pos := "law.go:106", after := #[{ on := 12, ground := Ground.data }, { on := 11, ground := Ground.guard }], guard := some (11, false) }) (v := .int .u32 f.pc) rfl (by kernel_rfl) (by kernel_rfl) (by kernel_rfl) (fun _ _ _ h => h) (Or.inl ⟨by rfl, by intro w hSw; have y := (hSw.p.cell 15).trans (pk_15 f); go_simp⟩) (by assumption) ?_
    simp only [Act.put, List.setIfInBounds_toArray, List.set_cons_zero, List.set_cons_succ]
    refine wpAnyH_take (i := 14) (oi := { dst := some 47, op := Op.fieldAddr 25 (Operand.tmp 2) 1, type := 0, pos := "law.go:106", after := #[{ on := 11, ground := Ground.guard }], guard := some (11, false) }) (v := .pointer (some ⟨g2, 15, none⟩)) rfl (by kernel_rfl) (by kernel_rfl) (by kernel_rfl) (fun _ _ _ h => h) (Or.inl ⟨by rfl, by intro w hSw; go_simp⟩) (by assumption) ?_
    simp only [Act.put, List.setIfInBounds_toArray, List.set_cons_zero, List.set_cons_succ]
    refine wpAnyH_take (i := 15) (oi := { dst := some 48, op := Op.load 22 (Operand.tmp 47), type := 22, pos := "law.go:106", after := #[{ on := 14, ground := Ground.data }, { on := 11, ground := Ground.guard }], guard := some (11, false) }) (v := .int .u32 f.pc) rfl (by kernel_rfl) (by kernel_rfl) (by kernel_rfl) (fun _ _ _ h => h) (Or.inl ⟨by rfl, by intro w hSw; have y := (hSw.box.cell 15).trans f.at15; go_simp⟩) (by assumption) ?_
    simp only [Act.put, List.setIfInBounds_toArray, List.set_cons_zero, List.set_cons_succ]
    refine wpAnyH_take (i := 16) (oi := { dst := some 49, op := Op.binOp BinOp.neq 22 (Operand.tmp 46) (Operand.tmp 48) 22, type := 4, pos := "law.go:106", after := #[{ on := 13, ground := Ground.data }, { on := 15, ground := Ground.data }, { on := 11, ground := Ground.guard }], guard := some (11, false) }) (v := .bool false) rfl (by kernel_rfl) (by kernel_rfl) (by kernel_rfl) (fun _ _ _ h => h) (Or.inl ⟨by rfl, by intro w hSw; go_simp⟩) (by assumption) ?_
    simp only [Act.put, List.setIfInBounds_toArray, List.set_cons_zero, List.set_cons_succ]
    refine wpAnyH_take (i := 17) (oi := { dst := some 50, op := Op.pick (Operand.tmp 44) (Operand.const (Value.bool true)) (Operand.tmp 49), type := 4, pos := "law.go:106", after := #[{ on := 11, ground := Ground.data }, { on := 16, ground := Ground.data }], guard := none }) (v := .bool false) rfl (by kernel_rfl) (by kernel_rfl) (by kernel_rfl) (fun _ _ _ h => h) (Or.inl ⟨by rfl, by intro w hSw; go_simp⟩) (by assumption) ?_
    simp only [Act.put, List.setIfInBounds_toArray, List.set_cons_zero, List.set_cons_succ]
    refine wpAnyH_take (i := 18) (oi := { dst := some 51, op := Op.move (Operand.tmp 50), type := 4, pos := "law.go:106", after := #[{ on := 17, ground := Ground.data }, { on := 11, ground := Ground.chain }], guard := none }) (v := .bool false) rfl (by kernel_rfl) (by kernel_rfl) (by kernel_rfl) (fun _ _ _ h => h) (Or.inl ⟨by rfl, by intro w hSw; go_simp⟩) (by assumption) ?_
    simp only [Act.put, List.setIfInBounds_toArray, List.set_cons_zero, List.set_cons_succ]
    refine wpAnyH_take (i := 19) (oi := { dst := some 52, op := Op.load 46 (Operand.tmp 6), type := 46, pos := "law.go:106", after := #[{ on := 18, ground := Ground.guard }], guard := some (18, false) }) (v := .agg (pk f.r f.pc f.flags).toArray) rfl (by kernel_rfl) (by kernel_rfl) (by kernel_rfl) (fun _ _ _ h => h) (yieldsIf_load_mid (by rfl) 46 _ rfl g6 0 rfl (pk f.r f.pc f.flags) _ (fun w hSw => hSw.p.range) under46 rfl (by rw [size46, pk_len])) (by assumption) ?_
    simp only [Act.put, List.setIfInBounds_toArray, List.set_cons_zero, List.set_cons_succ]
    refine wpAnyH_take (i := 20) (oi := { dst := some 53, op := Op.load 27 (Operand.tmp 5), type := 27, pos := "law.go:106", after := #[{ on := 18, ground := Ground.guard }], guard := some (18, false) }) (v := gs.v) rfl (by kernel_rfl) (by kernel_rfl) (by kernel_rfl) (fun _ _ _ h => h) (yieldsIf_load_mid (by rfl) 27 _ rfl g5 0 rfl gs.cs _ (fun w hSw => hSw.gg.range) under27 rfl (by rw [size27, F.len])) (by assumption) ?_
    simp only [Act.put, List.setIfInBounds_toArray, List.set_cons_zero, List.set_cons_succ]
    refine wpAnyH_ready (rs := [21]) (by kernel_rfl) (by simp) (AllReadyH.cons (o := { dst := some 54, op := Op.call { callee := Callee.value (Operand.func 14), args := #[Operand.tmp 53], argTypes := #[27] }, type := 46, pos := "law.go:106", after := #[{ on := 20, ground := Ground.data }, { on := 18, ground := Ground.chain }, { on := 18, ground := Ground.guard }], guard := some (18, false) }) rfl (fun KQ hK => ?_) AllReadyH.nil)
    go_simp
    refine (pack_any _ _).mono ?_
    rintro e wc4 ⟨rfl, hb4⟩
    rw [HST.out.1, HST.out.2.1, HST.out.2.2]
    have HD4 := hid (HD3.out.on hb4)
    clear hb4 HD3
    go_wp2_with fail
    refine hK.out _ _ HD4.out (fun hHeld => ?_)
    clear hK KQ
    try simp only [Act.put, List.setIfInBounds_toArray, List.set_cons_zero, List.set_cons_succ]
    refine wpAnyH_take (i := 22) (oi := { dst := some 55, op := Op.binOp BinOp.neq 46 (Operand.tmp 52) (Operand.tmp 54) 46, type := 4, pos := "law.go:106", after := #[{ on := 19, ground := Ground.data }, { on := 21, ground := Ground.data }, { on := 18, ground := Ground.guard }], guard := some (18, false) }) (v := .bool false) rfl (by kernel_rfl) (by kernel_rfl) (by kernel_rfl) (fun _ _ _ h => h) (Or.inl ⟨by rfl, fun w hSw => exec_neq_pk _ _ rfl f.r f.pc f.flags rfl rfl⟩) (by assumption) ?_
    simp only [Act.put, List.setIfInBounds_toArray, List.set_cons_zero, List.set_cons_succ]
    refine wpAnyH_take (i := 23) (oi := { dst := some 56, op := Op.pick (Operand.tmp 51) (Operand.const (Value.bool true)) (Operand.tmp 55), type := 4, pos := "law.go:106", after := #[{ on := 18, ground := Ground.data }, { on := 22, ground := Ground.data }], guard := none }) (v := .bool false) rfl (by kernel_rfl) (by kernel_rfl) (by kernel_rfl) (fun _ _ _ h => h) (Or.inl ⟨by rfl, by intro w hSw; go_simp⟩) (by assumption) ?_
    simp only [Act.put, List.setIfInBounds_toArray, List.set_cons_zero, List.set_cons_succ]
    refine wpAnyH_done (by kernel_rfl) ?_ _
    go_upto_region 9 with fail
    generalize hwc : wc4 = w9 at *
    go_cut [9] (fun i w3 => i = .int .i64 0 ∧ w3 = w9)
    case first =>
      go_wp2_with fail
      go_meet
      exact ⟨rfl, rfl⟩
    case rest =>
    obtain ⟨rfl, rfl⟩ := hcut
    refine (‹∀ (a : Act) (w : World), Code.wp Try.prog _ _ a w → _› _ _ ?_)
    go_cut [9] (fun i wc => Hid (D5 W wc g2 g5 g6 g7 f gs fb))
    case first =>
      go_wp2_with fail
      go_loopw [9] (fun i wr => ∃ k : Nat, k ≤ 15 ∧ i = .int .i64 (k : Int) ∧ Hid (D5 W wr g2 g5 g6 g7 f gs fb)) (fun i _ => 15 - (intOf i).toNat)
      case atStart => exact ⟨0, by omega, rfl, HD4⟩
      case round =>
        obtain ⟨k, hk, rfl, HI⟩ := hrel
        by_cases hlt : k < 15
        · have c1 : (k : Int) < 15 := by omega
          have c2 : (k : Int) < 17 := by omega
          go_wp2_with fail
          have HE := hid (HI.out.on (Below.refl _ _).drew)
          clear HI
          refine wp_region_held_drew (S := fun x => D5 W x g2 g5 g6 g7 f gs fb) (by kernel_rfl) HE.out (fun hHeld => ?_)
          refine wpAnyH_take (i := 0) (oi := { dst := some 61, op := Op.move (Operand.tmp 9), type := 3, pos := "law.go:110", after := #[], guard := none }) (v := .int .i64 (k : Int)) rfl (by kernel_rfl) (by kernel_rfl) (by kernel_rfl) (fun _ _ _ h => h) (Or.inl ⟨by rfl, by intro w hSw; go_simp⟩) (by assumption) ?_
          simp only [Act.put, List.setIfInBounds_toArray, List.set_cons_zero, List.set_cons_succ]
          refine wpAnyH_take (i := 1) (oi := { dst := some 62, op := Op.indexAddr 46 (Operand.tmp 6) (Operand.tmp 61), type := 0, pos := "law.go:110", after := #[{ on := 0, ground := Ground.data }], guard := none }) (v := .pointer (some ⟨g6, k, none⟩)) rfl (by kernel_rfl) (by kernel_rfl) (by kernel_rfl) (fun _ _ _ h => h) (Or.inl ⟨by rfl, by intro w hSw; go_simp⟩) (by assumption) ?_
          simp only [Act.put, List.setIfInBounds_toArray, List.set_cons_zero, List.set_cons_succ]
          refine wpAnyH_take (i := 2) (oi := { dst := some 63, op := Op.load 22 (Operand.tmp 62), type := 22, pos := "law.go:110", after := #[{ on := 1, ground := Ground.data }], guard := none }) (v := .int .u32 (f.r k)) rfl (by kernel_rfl) (by kernel_rfl) (by kernel_rfl) (fun _ _ _ h => h) (Or.inl ⟨by rfl, by intro w hSw; have y := (hSw.p.cell k).trans (pk_k f k hlt); go_simp⟩) (by assumption) ?_
          simp only [Act.put, List.setIfInBounds_toArray, List.set_cons_zero, List.set_cons_succ]
          refine wpAnyH_take (i := 3) (oi := { dst := some 64, op := Op.move (Operand.tmp 9), type := 3, pos := "law.go:110", after := #[], guard := none }) (v := .int .i64 (k : Int)) rfl (by kernel_rfl) (by kernel_rfl) (by kernel_rfl) (fun _ _ _ h => h) (Or.inl ⟨by rfl, by intro w hSw; go_simp⟩) (by assumption) ?_
          simp only [Act.put, List.setIfInBounds_toArray, List.set_cons_zero, List.set_cons_succ]
          refine wpAnyH_take (i := 4) (oi := { dst := some 65, op := Op.fieldAddr 25 (Operand.tmp 2) 0, type := 0, pos := "law.go:110", after := #[], guard := none }) (v := .pointer (some ⟨g2, 0, none⟩)) rfl (by kernel_rfl) (by kernel_rfl) (by kernel_rfl) (fun _ _ _ h => h) (Or.inl ⟨by rfl, by intro w hSw; go_simp⟩) (by assumption) ?_
          simp only [Act.put, List.setIfInBounds_toArray, List.set_cons_zero, List.set_cons_succ]
          refine wpAnyH_take (i := 5) (oi := { dst := some 66, op := Op.indexAddr 23 (Operand.tmp 65) (Operand.tmp 64), type := 0, pos := "law.go:110", after := #[{ on := 4, ground := Ground.data }, { on := 3, ground := Ground.data }], guard := none }) (v := .pointer (some ⟨g2, k, none⟩)) rfl (by kernel_rfl) (by kernel_rfl) (by kernel_rfl) (fun _ _ _ h => h) (Or.inl ⟨by rfl, by intro w hSw; go_simp⟩) (by assumption) ?_
          simp only [Act.put, List.setIfInBounds_toArray, List.set_cons_zero, List.set_cons_succ]
          refine wpAnyH_take (i := 6) (oi := { dst := some 67, op := Op.load 22 (Operand.tmp 66), type := 22, pos := "law.go:110", after := #[{ on := 5, ground := Ground.data }], guard := none }) (v := .int .u32 (f.r k)) rfl (by kernel_rfl) (by kernel_rfl) (by kernel_rfl) (fun _ _ _ h => h) (Or.inl ⟨by rfl, by intro w hSw; have y := (hSw.box.cell k).trans (f.at k hlt); go_simp⟩) (by assumption) ?_
          simp only [Act.put, List.setIfInBounds_toArray, List.set_cons_zero, List.set_cons_succ]
          refine wpAnyH_take (i := 7) (oi := { dst := some 68, op := Op.binOp BinOp.neq 22 (Operand.tmp 63) (Operand.tmp 67) 22, type := 4, pos := "law.go:110", after := #[{ on := 2, ground := Ground.data }, { on := 6, ground := Ground.data }], guard := none }) (v := .bool false) rfl (by kernel_rfl) (by kernel_rfl) (by kernel_rfl) (fun _ _ _ h => h) (Or.inl ⟨by rfl, by intro w hSw; go_simp⟩) (by assumption) ?_
          simp only [Act.put, List.setIfInBounds_toArray, List.set_cons_zero, List.set_cons_succ]
          refine wpAnyH_done (by kernel_rfl) ?_ _
          go_wp2_with fail
          go_roundw
          case measure => simp [intOf] <;> omega
          case rel => exact ⟨k + 1, by omega, by go_num, HE⟩
        · obtain rfl : k = 15 := by omega
          go_wp2_with fail
          go_meet
          exact HI
    case rest =>
      have HF := hcut
      clear hcut
      exact (‹∀ (a : Act) (w : World), Code.wp Try.prog _ _ a w → _› _ _ (back_c W _ ao n c b o X HX.out H0.out HN.out g5 gs HF.out.gg HF.out.below _ _ _ _ _ _ _ _ _ _ _ _ _ _ _ _ _ _ _ _ _ _ _ _ _ _ _ _ _ _ _ _ _ _ _ _ _ _ _ _ _ _ _ _ _ _ _ _ _ _ _ _ _ _ _ _ _ _ _ _ _ _ _ _ _ _ _ _ _ _ _ _ _ _ _ _ _ _ _ _ _ _ _ _ _ _ _ _ _ _ _ _ _ _ _ _ _ _ _ _ _ _ _ _ _ _ _ _ _ _ _ _ _ _ _ _ _ _ _ _ _ _ _ _ _ _ _ _ _ _ _ _ _ _ _ _ _ _ _ _ _ _ _ _ _ _ _ _ _ _ _ _ _ _ _ _ _ _ _ _ _ _ _ _ _ _ _ _ _ _ _ _ _ _ _ _ _ _ _ _ _ _ _ _ _ _ _ _ _ _ _ _ _ _ _ _ _ _ _ _ _ _ _ _ _ _ _ _ _ _ _ _ _ _ _ _ _ _ _ _ _ _ _))
end Go.Proofs.Ythpkodkilbcepaa
