/- regs: Unpack (15). -/
import Derived.Test.YthpkodkilbcepaaLg
namespace Go.Proofs.Ythpkodkilbcepaa
open Go.RowKit
set_option maxHeartbeats 1000000
attribute [-simp] Try.isAgg27 Try.sizeOf27 Try.isAgg25 Try.sizeOf25 Try.isAgg23 Try.isAgg46 Try.sizeOf46
/-- Seventeen words that are handed in. -/
structure W17 (W : World) (g o : Nat) (x : Nat → Int) : Prop where
  lt : g < W.heap.size
  at' : ∀ k, k < 17 → W.cell? ⟨g, o + k, none⟩ = some (.int .u32 (x k))
theorem W17.on {W w : World} {g o : Nat} {x : Nat → Int} (h : W17 W g o x) (hb : Below W.heap.size W w) : W17 w g o x :=
  ⟨Nat.lt_of_lt_of_le h.lt hb.size, fun k hk => (hb.cell (p := ⟨g, o + k, none⟩) h.lt).trans (h.at' k hk)⟩
def up (x : Nat → Int) (p : Int) : F := ⟨x, p, false, false, false⟩
def unpackV (x : Nat → Int) : Value := flaggedV (up x (x 15)) (x 16)
theorem flaggedV_form (f : F) (w : Int) : ∃ f' e, flaggedV f w = .tuple #[F.v f', .int .i64 e] := by
  unfold flaggedV
  split
  · exact ⟨_, _, rfl⟩
  · exact ⟨_, _, rfl⟩
theorem unpack_no (W : World) (ao : Option Addr) (n c : Nat) (h : n ≠ 17) : Calls Try.prog 15 #[.slice ao n c] W fun e W' => e = .returned (.tuple #[F.zero.v, .int .i64 80]) ∧ Below W.heap.size W W' := by
  have c1 : Hid (Cel (W.alloc (.cells #[.int .u32 0, .int .u32 0, .int .u32 0, .int .u32 0, .int .u32 0, .int .u32 0, .int .u32 0, .int .u32 0, .int .u32 0, .int .u32 0, .int .u32 0, .int .u32 0, .int .u32 0, .int .u32 0, .int .u32 0, .int .u32 0, .bool false, .bool false, .bool false] 27)) W.heap.size 27 F.zero.cs) := by rw [zc]; exact hid (Cel.new W 27 F.zero.cs)
  have hb := hid (below_one W (.cells #[.int .u32 0, .int .u32 0, .int .u32 0, .int .u32 0, .int .u32 0, .int .u32 0, .int .u32 0, .int .u32 0, .int .u32 0, .int .u32 0, .int .u32 0, .int .u32 0, .int .u32 0, .int .u32 0, .int .u32 0, .int .u32 0, .bool false, .bool false, .bool false] 27))
  have h' : ¬ (n : Int) = 17 := by omega
  go_enter Try.func15, Try.ntmps15
  go_upto_region 1 with fail
  generalize hX : W.alloc _ = X at *
  clear hX
  go_wp2_with (first | (refine wpList_build_zero rfl rfl ?_) | (refine wpList_store_f rfl _ _ rfl W.heap.size F.zero F.zero rfl rfl c1.out ?_; intro w1 hc1 hb1 hs1; have HR := hid (And.intro hc1 (hb.out.trans (hb1.below (B := W.heap.size) (by simp) hb.out.size))); clear hc1 hb1 hs1))
  refine ret_st2 rfl rfl W.heap.size _ rfl HR.out.1 under27 rfl (by rw [size27]; simp [F.len]) ⟨rfl, HR.out.2⟩
structure Pu (W X : World) (gf g o : Nat) (x : Nat → Int) (f : F) : Prop where
  gt : W.heap.size < gf
  res : Cel X W.heap.size 27 F.zero.cs
  fil : Cel X gf 27 f.cs
  wds : W17 X g o x
  below : Below W.heap.size W X
theorem Pu.on {W X Y : World} {gf g o : Nat} {x : Nat → Int} {f : F} (h : Pu W X gf g o x f) (hb : Below X.heap.size X Y) : Pu W Y gf g o x f := ⟨h.gt, h.res.on hb, h.fil.on hb, h.wds.on hb, below_on h.below hb⟩
theorem Pu.set {W X w' : World} {gf g o : Nat} {x : Nat → Int} {f f' : F} (hg : g < W.heap.size) (h : Pu W X gf g o x f) (hc : Cel w' gf 27 f'.cs) (hb : ButL [gf] X w') : Pu W w' gf g o x f' := by
  have ht := h.gt
  have hB : Below W.heap.size X w' := hb.below (by simp; omega) h.below.size
  exact ⟨ht, h.res.but hb (by rw [List.mem_singleton]; omega), hc, ⟨Nat.lt_of_lt_of_le h.wds.lt hb.size, fun k hk => (hB.cell (p := ⟨g, o + k, none⟩) hg).trans (h.wds.at' k hk)⟩, h.below.trans hB⟩
theorem pu_new {W X : World} {g o : Nat} {x : Nat → Int} (hr : Cel X W.heap.size 27 F.zero.cs) (hw : W17 X g o x) (hb : Below W.heap.size W X) : Pu W (X.alloc (.cells #[.int .u32 0, .int .u32 0, .int .u32 0, .int .u32 0, .int .u32 0, .int .u32 0, .int .u32 0, .int .u32 0, .int .u32 0, .int .u32 0, .int .u32 0, .int .u32 0, .int .u32 0, .int .u32 0, .int .u32 0, .int .u32 0, .bool false, .bool false, .bool false] 27)) X.heap.size g o x F.zero := by
  rw [zc]
  exact ⟨hr.lt, hr.on (below_one _ _), Cel.new X 27 F.zero.cs, hw.on (below_one _ _), below_on hb (below_one _ _)⟩
theorem Pu.ret {W X w' : World} {gf g o : Nat} {x : Nat → Int} {f f' : F} (h : Pu W X gf g o x f) (hc : Cel w' W.heap.size 27 f'.cs) (hb : ButL [W.heap.size] X w') : Cel w' W.heap.size 27 f'.cs ∧ Below W.heap.size W w' :=
  ⟨hc, h.below.trans (hb.below (by simp) h.below.size)⟩
structure Su (X : World) (gf g o : Nat) (x : Nat → Int) (f : F) : Prop where
  fil : Cel X gf 27 f.cs
  wds : W17 X g o x
theorem Pu.su {W X : World} {gf g o : Nat} {x : Nat → Int} {f : F} (h : Pu W X gf g o x f) : Su X gf g o x f := ⟨h.fil, h.wds⟩
theorem Pu.su' {W X w' : World} {gf g o : Nat} {x : Nat → Int} {f : F} (hg : g < W.heap.size) (h : Pu W X gf g o x f) (hb : ButL [W.heap.size] X w') : Su w' gf g o x f :=
  ⟨h.fil.but hb (by rw [List.mem_singleton]; have := h.gt; omega), ⟨Nat.lt_of_lt_of_le h.wds.lt hb.size, fun k hk => ((hb.below (B := W.heap.size) (by simp) h.below.size).cell (p := ⟨g, o + k, none⟩) hg).trans (h.wds.at' k hk)⟩⟩
theorem w17_src {w : World} {g o : Nat} {x : Nat → Int} (h : W17 w g o x) : ∀ j v, (rs x)[j]? = some v → w.cell? ((⟨g, o, none⟩ : Addr).add j) = some v := fun j v hv => by
  rw [Addr.add_mid]
  have hj : j < 15 := by
    by_cases hj : j < 15
    · exact hj
    · rw [List.getElem?_eq_none (by rw [rs_len]; omega)] at hv; cases hv
  rw [rs_at _ _ hj] at hv
  rw [h.at' j (by omega)]
  exact hv
theorem up_cs (x y : Nat → Int) (p : Int) : (up y p).cs.toArray.toList.take 0 ++ (rs x ++ (up y p).cs.toArray.toList.drop (0 + (rs x).length)) = (up x p).cs := by
  rw [rs_len]
  simp only [up, F.cs, List.take_zero, List.nil_append, Nat.zero_add]
  rw [List.drop_append_of_le_length (by rw [rs_len]; decide), List.drop_of_length_le (by rw [rs_len]; decide)]
  rfl
theorem unpack_yes (W : World) (g o c : Nat) (x : Nat → Int) (hw : W17 W g o x) (h0 : 0 ≤ x 16) : Calls Try.prog 15 #[.slice (some ⟨g, o, none⟩) 17 c] W fun e W' => e = .returned (unpackV x) ∧ Below W.heap.size W W' := by
  have hlt := hw.lt
  have hb := hid (below_one W (.cells #[.int .u32 0, .int .u32 0, .int .u32 0, .int .u32 0, .int .u32 0, .int .u32 0, .int .u32 0, .int .u32 0, .int .u32 0, .int .u32 0, .int .u32 0, .int .u32 0, .int .u32 0, .int .u32 0, .int .u32 0, .int .u32 0, .bool false, .bool false, .bool false] 27))
  have c1 : Hid (Cel (W.alloc (.cells #[.int .u32 0, .int .u32 0, .int .u32 0, .int .u32 0, .int .u32 0, .int .u32 0, .int .u32 0, .int .u32 0, .int .u32 0, .int .u32 0, .int .u32 0, .int .u32 0, .int .u32 0, .int .u32 0, .int .u32 0, .int .u32 0, .bool false, .bool false, .bool false] 27)) W.heap.size 27 F.zero.cs) := by rw [zc]; exact hid (Cel.new W 27 F.zero.cs)
  have HW := hid (hw.on hb.out)
  have HL := hid hlt
  have y15 := HW.out.at' 15 (by decide)
  have HU := hid (pu_new c1.out HW.out hb.out)
  have z15 := HU.out.wds.at' 15 (by decide)
  obtain ⟨f', er, hf⟩ := flaggedV_form (up x (x 15)) (x 16)
  have HV : Hid (Value.tuple #[F.v f', .int .i64 er] = unpackV x) := hid hf.symm
  have HF : Hid (∀ w, Calls Try.prog 16 #[(up x (x 15)).v, .int .u32 (x 16)] w fun e W' => e = .returned (.tuple #[F.v f', .int .i64 er]) ∧ Below w.heap.size w W') := hid fun w => by rw [← hf]; exact flagged_any w _ _ h0
  clear hf h0 hw
  generalize x 15 = p at *
  obtain ⟨q, HQ16⟩ : ∃ q, Hid (x 16 = q) := ⟨_, rfl⟩
  rw [HQ16.out] at HF
  go_enter Try.func15, Try.ntmps15
  go_upto_region 1 with fail
  generalize hX : W.alloc _ = X at *
  clear hX
  go_wp2_with (first | (refine wpList_build_pc rfl _ rfl p rfl ?_) | (refine wpList_store_f rfl _ _ rfl X.heap.size F.zero (up (fun _ => 0) p) rfl rfl HU.out.fil ?_; intro w1 hc1 hb1 hs1; have HU1 := hid (HU.out.set HL.out hc1 hb1); clear hc1 hb1 hs1 HU) | (refine wpList_copy_own rfl _ _ 45 45 rfl 22 under45 size22 X.heap.size 0 15 15 ⟨g, o, none⟩ 17 c rfl rfl _ 27 HU1.out.fil (rs x) (by rw [rs_len]; rfl) (w17_src HU1.out.wds) (by rw [rs_len]; simp [F.len]) (fun v hv => List.all_eq_true.1 (rs_all x) v hv) ?_; rw [up_cs]; have HU2 := hid (HU1.out.set HL.out (HU1.out.fil.set (up x p).cs) (ButL.setRow _ _ _ (by simp))); clear HU1))
  generalize hg : X.heap.size = gf at *
  clear hg
  generalize hz : World.setRow _ gf _ = Y at *
  clear hz
  have HU := hid (HU2.out.on (Below.refl _ _).drew)
  clear HU2
  refine wp_region_held_drew (S := fun x' => Su x' gf g o x (up x p)) (by kernel_rfl) HU.out.su (fun hHeld => ?_)
  refine wpAnyH_take (i := 0) (oi := { dst := some 17, op := Op.load 27 (Operand.tmp 4), type := 27, pos := "pack.go:26", after := #[], guard := none }) (v := (up x p).v) rfl (by kernel_rfl) (by kernel_rfl) (by kernel_rfl) (fun _ _ _ h => h) (yieldsIf_load_mid (by rfl) 27 _ rfl gf 0 rfl (up x p).cs _ (fun w hSw => hSw.fil.range) under27 rfl (by rw [size27, F.len])) (by assumption) ?_
  simp only [Act.put, List.setIfInBounds_toArray, List.set_cons_zero, List.set_cons_succ]
  refine wpAnyH_take (i := 1) (oi := { dst := some 18, op := Op.move (Operand.tmp 0), type := 45, pos := "pack.go:26", after := #[], guard := none }) (v := .slice (some ⟨g, o, none⟩) 17 c) rfl (by kernel_rfl) (by kernel_rfl) (by kernel_rfl) (fun _ _ _ h => h) (Or.inl ⟨by rfl, by intro w hSw; go_simp⟩) (by assumption) ?_
  simp only [Act.put, List.setIfInBounds_toArray, List.set_cons_zero, List.set_cons_succ]
  refine wpAnyH_take (i := 2) (oi := { dst := some 19, op := Op.indexAddr 45 (Operand.tmp 18) (Operand.const (Value.int IntKind.i64 16)), type := 0, pos := "pack.go:26", after := #[{ on := 1, ground := Ground.data }], guard := none }) (v := .pointer (some ⟨g, o + 16, none⟩)) rfl (by kernel_rfl) (by kernel_rfl) (by kernel_rfl) (fun _ _ _ h => h) (Or.inl ⟨by rfl, by intro w hSw; go_simp⟩) (by assumption) ?_
  simp only [Act.put, List.setIfInBounds_toArray, List.set_cons_zero, List.set_cons_succ]
  refine wpAnyH_take (i := 3) (oi := { dst := some 20, op := Op.load 22 (Operand.tmp 19), type := 22, pos := "pack.go:26", after := #[{ on := 2, ground := Ground.data }], guard := none }) (v := .int .u32 q) rfl (by kernel_rfl) (by kernel_rfl) (by kernel_rfl) (fun _ _ _ h => h) (Or.inl ⟨by rfl, by intro w hSw; have y := hSw.wds.at' 16 (by decide); rw [HQ16.out] at y; go_simp⟩) (by assumption) ?_
  simp only [Act.put, List.setIfInBounds_toArray, List.set_cons_zero, List.set_cons_succ]
  refine wpAnyH_ready (rs := [4]) (by kernel_rfl) (by simp) (AllReadyH.cons (o := { dst := some 21, op := Op.call { callee := Callee.value (Operand.func 16), args := #[Operand.tmp 17, Operand.tmp 20], argTypes := #[27, 22] }, type := 40, pos := "pack.go:26", after := #[{ on := 0, ground := Ground.data }, { on := 3, ground := Ground.data }], guard := none }) rfl (fun KQ hK => ?_) AllReadyH.nil)
  go_simp
  refine (HF.out _).mono ?_
  rintro e w2 ⟨rfl, hb2⟩
  have HU3 := hid (HU.out.on hb2)
  clear hb2 HU
  go_wp2_with fail
  refine hK.out _ _ HU3.out.su (fun hHeld => ?_)
  clear hK KQ
  try simp only [Act.put, List.setIfInBounds_toArray, List.set_cons_zero, List.set_cons_succ]
  refine wpAnyH_take (i := 5) (oi := { dst := some 22, op := Op.extract (Operand.tmp 21) 0, type := 27, pos := "pack.go:26", after := #[{ on := 4, ground := Ground.data }], guard := none }) (v := f'.v) rfl (by kernel_rfl) (by kernel_rfl) (by kernel_rfl) (fun _ _ _ h => h) (Or.inl ⟨by rfl, by intro w hSw; go_simp⟩) (by assumption) ?_
  simp only [Act.put, List.setIfInBounds_toArray, List.set_cons_zero, List.set_cons_succ]
  refine wpAnyH_take (i := 6) (oi := { dst := some 23, op := Op.extract (Operand.tmp 21) 1, type := 39, pos := "pack.go:26", after := #[{ on := 4, ground := Ground.data }], guard := none }) (v := .int .i64 er) rfl (by kernel_rfl) (by kernel_rfl) (by kernel_rfl) (fun _ _ _ h => h) (Or.inl ⟨by rfl, by intro w hSw; go_simp⟩) (by assumption) ?_
  simp only [Act.put, List.setIfInBounds_toArray, List.set_cons_zero, List.set_cons_succ]
  refine wpAnyH_ready (rs := [7]) (by kernel_rfl) (by simp) (AllReadyH.cons (o := { dst := none, op := Op.store 27 (Operand.tmp 2) (Operand.tmp 22), type := 0, pos := "pack.go:26", after := #[{ on := 5, ground := Ground.data }, { on := 4, ground := Ground.chain }, { on := 0, ground := Ground.phase }, { on := 1, ground := Ground.phase }, { on := 2, ground := Ground.phase }, { on := 3, ground := Ground.phase }, { on := 4, ground := Ground.phase }, { on := 5, ground := Ground.phase }, { on := 6, ground := Ground.phase }], guard := none }) rfl (fun KQ hK => ?_) AllReadyH.nil)
  rw [if_pos (by rfl)]
  refine wp_store_st 27 _ _ rfl W.heap.size f'.cs rfl rfl HU3.out.res (by rw [size27, F.len]) (by rw [F.len, F.len]) f'.all ?_
  have HSU := hid (HU3.out.su' HL.out (ButL.setRow _ W.heap.size f'.cs.toArray (by simp)))
  have HRR := hid (HU3.out.ret (HU3.out.res.set f'.cs) (ButL.setRow _ _ _ (by simp)))
  clear HU3
  generalize hy : World.setRow _ W.heap.size _ = Y2 at *
  clear hy
  refine hK.out _ _ HSU.out (fun hHeld => ?_)
  clear hK KQ
  try simp only [Act.put]
  refine wpAnyH_ready (rs := [8]) (by kernel_rfl) (by simp) (AllReadyH.cons (o := { dst := some 3, op := Op.assign (Operand.tmp 23), type := 39, pos := "pack.go:26", after := #[{ on := 6, ground := Ground.data }, { on := 7, ground := Ground.chain }, { on := 0, ground := Ground.phase }, { on := 1, ground := Ground.phase }, { on := 2, ground := Ground.phase }, { on := 3, ground := Ground.phase }, { on := 4, ground := Ground.phase }, { on := 5, ground := Ground.phase }, { on := 6, ground := Ground.phase }, { on := 7, ground := Ground.phase }], guard := none }) rfl (fun KQ hK => ?_) AllReadyH.nil)
  go_simp
  refine hK.out _ _ HSU.out (fun hHeld => ?_)
  clear hK KQ
  try simp only [Act.put, List.setIfInBounds_toArray, List.set_cons_zero, List.set_cons_succ]
  refine wpAnyH_done (by kernel_rfl) ?_ _
  go_wp2_with fail
  refine ret_st2 rfl rfl W.heap.size _ rfl HRR.out.1 under27 rfl (by rw [size27]; simp [F.len]) ⟨congrArg _ HV.out, HRR.out.2⟩
end Go.Proofs.Ythpkodkilbcepaa
