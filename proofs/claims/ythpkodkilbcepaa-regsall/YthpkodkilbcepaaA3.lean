/- The document's Pack (32), Unpack (33). -/
import Derived.Test.YthpkodkilbcepaaA2
namespace Go.Proofs.Ythpkodkilbcepaa
open Go.RowKit
set_option maxHeartbeats 4000000
set_option maxRecDepth 100000
attribute [-simp] Try.isAgg27 Try.sizeOf27 Try.isAgg25 Try.sizeOf25 Try.isAgg23 Try.isAgg46 Try.sizeOf46
/-- Seventeen words. -/
def w17 (x : Nat → Int) : List Value := (List.range 17).map fun k => .int .u32 (x k)
theorem w17_len (x : Nat → Int) : (w17 x).length = 17 := by simp [w17]
theorem w17_at (x : Nat → Int) (k : Nat) (h : k < 17) : (w17 x)[k]? = some (.int .u32 (x k)) := by simp [w17, h]
theorem w17_all (x : Nat → Int) : (w17 x).all (·.oneCell') = true := by
  rw [List.all_eq_true]
  intro v hv
  simp only [w17, List.mem_map] at hv
  obtain ⟨_, _, rfl⟩ := hv
  rfl
theorem w17_ext {x y : Nat → Int} (h : ∀ k, k < 17 → x k = y k) : w17 x = w17 y := by
  unfold w17
  exact List.map_congr_left fun k hk => by rw [h k (by simpa using hk)]
theorem w17_set (x : Nat → Int) (k : Nat) (v : Int) : (w17 x).set k (.int .u32 v) = w17 fun j => if j = k then v else x j := by
  apply List.ext_getElem?
  intro j
  by_cases hj : j < 17
  · rw [List.getElem?_set]
    by_cases e : k = j
    · subst e
      rw [if_pos rfl, w17_len, if_pos hj, w17_at _ _ hj, if_pos rfl]
    · rw [if_neg e, w17_at _ _ hj, w17_at _ _ hj, if_neg (fun h => e h.symm)]
  · rw [List.getElem?_eq_none (by rw [List.length_set, w17_len]; omega), List.getElem?_eq_none (by rw [w17_len]; omega)]
theorem zs17_w : zs17 = w17 fun _ => 0 := by kernel_rfl
theorem pk_w17 (r : Nat → Int) (p q : Int) : pk r p q = w17 fun k => if k < 15 then r k else if k = 15 then p else q := by kernel_rfl
structure PK (W wr : World) (f : F) (x : Nat → Int) : Prop where
  box : Cel wr W.heap.size 25 f.cs
  res : Cel wr (W.heap.size + 1) 46 zs17
  p : Cel wr (W.heap.size + 2) 46 (w17 x)
  below : Below W.heap.size W wr
theorem PK.on {W wr w' : World} {f : F} {x : Nat → Int} (h : PK W wr f x) (hb : Below wr.heap.size wr w') : PK W w' f x := ⟨h.box.on hb, h.res.on hb, h.p.on hb, below_on h.below hb⟩
theorem PK.set {W wr : World} {f : F} {x y : Nat → Int} (h : PK W wr f x) (k : Nat) (v : Int) (hy : ∀ j, j < 17 → (if j = k then v else x j) = y j) : PK W (wr.setCell ⟨W.heap.size + 2, k, none⟩ (.int .u32 v)) f y := by
  have hb := ButL.setCell (G := [W.heap.size + 2]) wr (W.heap.size + 2) k (.int .u32 v) (by simp)
  have hp := h.p.setCell k (.int .u32 v)
  rw [w17_set, w17_ext hy] at hp
  exact ⟨h.box.but hb (by rw [List.mem_singleton]; omega), h.res.but hb (by rw [List.mem_singleton]; omega), hp, h.below.trans (hb.below (by simp) h.below.size)⟩
theorem pk_new (W : World) (f : F) : PK W (((W.alloc (.cells f.cs.toArray 25)).alloc (.cells #[.int .u32 0, .int .u32 0, .int .u32 0, .int .u32 0, .int .u32 0, .int .u32 0, .int .u32 0, .int .u32 0, .int .u32 0, .int .u32 0, .int .u32 0, .int .u32 0, .int .u32 0, .int .u32 0, .int .u32 0, .int .u32 0, .int .u32 0] 46)).alloc (.cells #[.int .u32 0, .int .u32 0, .int .u32 0, .int .u32 0, .int .u32 0, .int .u32 0, .int .u32 0, .int .u32 0, .int .u32 0, .int .u32 0, .int .u32 0, .int .u32 0, .int .u32 0, .int .u32 0, .int .u32 0, .int .u32 0, .int .u32 0] 46)) f (fun _ => 0) := by
  rw [zc17]
  have a1 := Cel.new W 25 f.cs
  have s1 : (W.alloc (.cells f.cs.toArray 25)).heap.size = W.heap.size + 1 := by show (W.heap.push _).size = _; simp
  have b1 := below_one W (.cells f.cs.toArray 25)
  generalize W.alloc (.cells f.cs.toArray 25) = X1 at *
  have a2 := Cel.new X1 46 zs17
  have s2 : (X1.alloc (.cells zs17.toArray 46)).heap.size = X1.heap.size + 1 := by show (X1.heap.push _).size = _; simp
  have b2 := below_one X1 (.cells zs17.toArray 46)
  generalize X1.alloc (.cells zs17.toArray 46) = X2 at *
  have a3 := Cel.new X2 46 zs17
  have b3 := below_one X2 (.cells zs17.toArray 46)
  rw [s2, s1] at a3
  rw [s1] at a2
  exact ⟨(a1.on b2).on b3, a2.on b3, by rw [← zs17_w]; exact a3, below_on (below_on b1 b2) b3⟩
theorem rpack_any (W : World) (f : F) : Calls Try.prog 32 #[f.v] W fun e W' => e = .returned (.agg (pk f.r f.pc f.flags).toArray) ∧ Below W.heap.size W W' := by
  have HP0 := hid (pk_new W f)
  obtain ⟨xx, hxx⟩ : ∃ xx : Nat → Int, (fun k => if k < 15 then f.r k else if k = 15 then f.pc else f.flags) = xx := ⟨_, rfl⟩
  rw [pk_w17, hxx]
  have HXX := hid hxx
  clear hxx
  unfold F.v
  generalize hc : f.cs.toArray = C at *
  clear hc
  go_enter Try.func32, Try.ntmps32
  go_upto_region 2 with fail
  generalize hX : ((W.alloc _).alloc _).alloc _ = X at *
  clear hX
  go_wp2_with fail
  go_loopw [4] (fun i wr => ∃ k : Nat, k ≤ 15 ∧ i = .int .i64 (k : Int) ∧ Hid (PK W wr f (fun j => if j < k then f.r j else 0))) (fun i _ => 15 - (intOf i).toNat)
  case atStart => exact ⟨0, by omega, rfl, hid (by have := HP0.out; simpa using this)⟩
  case round =>
    clear HP0
    obtain ⟨k, hk, rfl, HI⟩ := hrel
    by_cases hlt : k < 15
    · have c1 : (k : Int) < 15 := by omega
      have c2 : (k : Int) < 17 := by omega
      have y0 := (HI.out.box.cell k).trans (f.at k hlt)
      have y1 := (HI.out.p.cell k).trans (w17_at _ k (by omega))
      have y2 := HI.out.p.free k
      have HN := hid (HI.out.set (y := fun j => if j < k + 1 then f.r j else 0) k (f.r k) (fun j _ => by
        by_cases e : j = k
        · subst e; simp
        · rw [if_neg e]; by_cases h : j < k
          · rw [if_pos h, if_pos (by omega)]
          · rw [if_neg h, if_neg (by omega)]))
      clear HI
      go_wp2_with fail
      go_roundw
      case measure => simp [intOf] <;> omega
      case rel => exact ⟨k + 1, by omega, by go_num, HN⟩
    · obtain rfl : k = 15 := by omega
      have y0 := (HI.out.box.cell 15).trans f.at15
      have y1 := (HI.out.p.cell 15).trans (w17_at _ 15 (by omega))
      have y2 := HI.out.p.free 15
      have HN := hid (HI.out.set (y := fun j => if j < 15 then f.r j else if j = 15 then f.pc else 0) 15 f.pc (fun j _ => by
        by_cases e : j = 15
        · subst e; simp
        · rw [if_neg e]; by_cases h : j < 15
          · rw [if_pos h, if_pos h]
          · rw [if_neg h, if_neg h, if_neg e]))
      clear HI
      go_upto_region 7 with fail
      generalize hZ : World.setCell _ _ _ = Z at *
      clear hZ y0 y1 y2
      go_wp2_with (refine wpList_load_g rfl _ rfl W.heap.size f rfl HN.out.box ?_)
      refine (rflags_any _ _).mono ?_
      rintro e w1 ⟨rfl, hb1⟩
      have HM := hid (HN.out.on hb1)
      have y1 := (HM.out.p.cell 16).trans (w17_at _ 16 (by omega))
      have y2 := HM.out.p.free 16
      have HE := hid (HM.out.set (y := xx) 16 f.flags (fun j hj => by
        rw [← HXX.out]
        show _ = if j < 15 then f.r j else if j = 15 then f.pc else f.flags
        by_cases e : j = 16
        · subst e; simp
        · rw [if_neg e]; by_cases h : j < 15
          · rw [if_pos h, if_pos h]
          · rw [if_neg h, if_neg h, if_pos (by omega), if_pos (by omega)]))
      clear hb1 HM HN
      go_upto_region 8 with fail
      generalize hZ : World.setCell _ _ _ = Z at *
      clear hZ y1 y2
      go_wp2_with (first | (refine wpList_load_mid rfl 46 _ rfl (W.heap.size + 2) 0 rfl (w17 xx) _ HE.out.p.range under46 rfl (by rw [size46, w17_len]) ?_) | (refine wpList_store_st rfl 46 _ _ rfl (W.heap.size + 1) (w17 xx) rfl rfl HE.out.res (by rw [size46, w17_len]) (by rw [w17_len]; rfl) (w17_all _) ?_; intro w2 hc2 hb2 hs2; have HRR := hid (And.intro hc2 (HE.out.below.trans (hb2.below (B := W.heap.size) (by simp) HE.out.below.size))); clear hc2 hb2 hs2))
      refine ret_st rfl rfl (W.heap.size + 1) _ rfl HRR.out.1 under46 rfl (by rw [size46]; simp [w17_len]) ⟨rfl, HRR.out.2⟩
structure RU (W wr : World) (g o : Nat) (x : Nat → Int) (f : F) : Prop where
  res : Cel wr W.heap.size 25 F.zero.cs
  fil : Cel wr (W.heap.size + 1) 25 f.cs
  wds : W17 wr g o x
  below : Below W.heap.size W wr
theorem RU.on {W wr w' : World} {g o : Nat} {x : Nat → Int} {f : F} (h : RU W wr g o x f) (hb : Below wr.heap.size wr w') : RU W w' g o x f := ⟨h.res.on hb, h.fil.on hb, h.wds.on hb, below_on h.below hb⟩
theorem RU.set {W wr : World} {g o : Nat} {x : Nat → Int} {f f' : F} (hg : g < W.heap.size) (h : RU W wr g o x f) (j : Nat) (v : Value) (hs : f.cs.set j v = f'.cs) : RU W (wr.setCell ⟨W.heap.size + 1, j, none⟩ v) g o x f' := by
  have hb := ButL.setCell (G := [W.heap.size + 1]) wr (W.heap.size + 1) j v (by simp)
  have hB : Below W.heap.size wr _ := hb.below (by simp) h.below.size
  exact ⟨h.res.but hb (by rw [List.mem_singleton]; omega), by rw [← hs]; exact h.fil.setCell j v, ⟨Nat.lt_of_lt_of_le h.wds.lt hb.size, fun k hk => (hB.cell (p := ⟨g, o + k, none⟩) hg).trans (h.wds.at' k hk)⟩, h.below.trans hB⟩
theorem runpack_no (W : World) (ao : Option Addr) (n c : Nat) (h : n ≠ 17) : Calls Try.prog 33 #[.slice ao n c] W fun e W' => e = .returned (.tuple #[F.zero.v, .int .i64 80]) ∧ Below W.heap.size W W' := by
  have c1 : Hid (Cel (W.alloc (.cells #[.int .u32 0, .int .u32 0, .int .u32 0, .int .u32 0, .int .u32 0, .int .u32 0, .int .u32 0, .int .u32 0, .int .u32 0, .int .u32 0, .int .u32 0, .int .u32 0, .int .u32 0, .int .u32 0, .int .u32 0, .int .u32 0, .bool false, .bool false, .bool false] 25)) W.heap.size 25 F.zero.cs) := by rw [zc]; exact hid (Cel.new W 25 F.zero.cs)
  have hb := hid (below_one W (.cells #[.int .u32 0, .int .u32 0, .int .u32 0, .int .u32 0, .int .u32 0, .int .u32 0, .int .u32 0, .int .u32 0, .int .u32 0, .int .u32 0, .int .u32 0, .int .u32 0, .int .u32 0, .int .u32 0, .int .u32 0, .int .u32 0, .bool false, .bool false, .bool false] 25))
  have h' : ¬ (n : Int) = 17 := by omega
  go_enter Try.func33, Try.ntmps33
  go_upto_region 1 with fail
  generalize hX : W.alloc _ = X at *
  clear hX
  go_wp2_with (first | (refine wpList_build_zero' rfl rfl ?_) | (refine wpList_store_g rfl _ _ rfl W.heap.size F.zero F.zero rfl rfl c1.out ?_; intro w1 hc1 hb1 hs1; have HR := hid (And.intro hc1 (hb.out.trans (hb1.below (B := W.heap.size) (by simp) hb.out.size))); clear hc1 hb1 hs1))
  refine ret_st2 rfl rfl W.heap.size _ rfl HR.out.1 under25 rfl (by rw [size25]; simp [F.len]) ⟨rfl, HR.out.2⟩
def upk (x : Nat → Int) (k : Nat) (p : Int) : F := ⟨fun j => if j < k then x j else 0, p, false, false, false⟩
theorem upk_set (x : Nat → Int) (k : Nat) (hk : k < 15) : (upk x k 0).cs.set k (.int .u32 (x k)) = (upk x (k + 1) 0).cs := by
  rw [F.set _ k hk]
  apply F.cs_eq
  rw [F.same_iff]
  refine ⟨fun j _ => ?_, rfl, rfl, rfl, rfl⟩
  show (if j = k then x k else if j < k then x j else 0) = if j < k + 1 then x j else 0
  by_cases e : j = k
  · subst e; simp
  · rw [if_neg e]; by_cases h : j < k
    · rw [if_pos h, if_pos (by omega)]
    · rw [if_neg h, if_neg (by omega)]
theorem upk_pc (x : Nat → Int) (p : Int) : (upk x 15 0).cs.set 15 (.int .u32 p) = (up x p).cs := by
  rw [F.set15]
  apply F.cs_eq
  rw [F.same_iff]
  refine ⟨fun j hj => ?_, rfl, rfl, rfl, rfl⟩
  show (if j < 15 then x j else 0) = x j
  rw [if_pos hj]
theorem runpack_yes (W : World) (g o c : Nat) (x : Nat → Int) (hw : W17 W g o x) : Calls Try.prog 33 #[.slice (some ⟨g, o, none⟩) 17 c] W fun e W' => e = .returned (unpackV x) ∧ Below W.heap.size W W' := by
  have HL := hid hw.lt
  have c1 : Cel (W.alloc (.cells #[.int .u32 0, .int .u32 0, .int .u32 0, .int .u32 0, .int .u32 0, .int .u32 0, .int .u32 0, .int .u32 0, .int .u32 0, .int .u32 0, .int .u32 0, .int .u32 0, .int .u32 0, .int .u32 0, .int .u32 0, .int .u32 0, .bool false, .bool false, .bool false] 25)) W.heap.size 25 F.zero.cs := by rw [zc]; exact Cel.new W 25 F.zero.cs
  have c2 : Cel ((W.alloc (.cells #[.int .u32 0, .int .u32 0, .int .u32 0, .int .u32 0, .int .u32 0, .int .u32 0, .int .u32 0, .int .u32 0, .int .u32 0, .int .u32 0, .int .u32 0, .int .u32 0, .int .u32 0, .int .u32 0, .int .u32 0, .int .u32 0, .bool false, .bool false, .bool false] 25)).alloc (.cells #[.int .u32 0, .int .u32 0, .int .u32 0, .int .u32 0, .int .u32 0, .int .u32 0, .int .u32 0, .int .u32 0, .int .u32 0, .int .u32 0, .int .u32 0, .int .u32 0, .int .u32 0, .int .u32 0, .int .u32 0, .int .u32 0, .bool false, .bool false, .bool false] 25)) (W.alloc (.cells #[.int .u32 0, .int .u32 0, .int .u32 0, .int .u32 0, .int .u32 0, .int .u32 0, .int .u32 0, .int .u32 0, .int .u32 0, .int .u32 0, .int .u32 0, .int .u32 0, .int .u32 0, .int .u32 0, .int .u32 0, .int .u32 0, .bool false, .bool false, .bool false] 25)).heap.size 25 F.zero.cs := by rw [zc]; exact Cel.new (W.alloc (.cells F.zero.cs.toArray 25)) 25 F.zero.cs
  rw [show (W.alloc (Obj.cells #[.int .u32 0, .int .u32 0, .int .u32 0, .int .u32 0, .int .u32 0, .int .u32 0, .int .u32 0, .int .u32 0, .int .u32 0, .int .u32 0, .int .u32 0, .int .u32 0, .int .u32 0, .int .u32 0, .int .u32 0, .int .u32 0, .bool false, .bool false, .bool false] 25)).heap.size = W.heap.size + 1 by show (W.heap.push _).size = _; simp] at c2
  have HU : Hid (RU W ((W.alloc (.cells #[.int .u32 0, .int .u32 0, .int .u32 0, .int .u32 0, .int .u32 0, .int .u32 0, .int .u32 0, .int .u32 0, .int .u32 0, .int .u32 0, .int .u32 0, .int .u32 0, .int .u32 0, .int .u32 0, .int .u32 0, .int .u32 0, .bool false, .bool false, .bool false] 25)).alloc (.cells #[.int .u32 0, .int .u32 0, .int .u32 0, .int .u32 0, .int .u32 0, .int .u32 0, .int .u32 0, .int .u32 0, .int .u32 0, .int .u32 0, .int .u32 0, .int .u32 0, .int .u32 0, .int .u32 0, .int .u32 0, .int .u32 0, .bool false, .bool false, .bool false] 25)) g o x F.zero) := hid ⟨c1.on (below_one _ _), c2, hw.on (below_two _ _ _), below_two _ _ _⟩
  have HF := hid fun w => rflagged_any w (up x (x 15)) (x 16)
  obtain ⟨f', er, hf⟩ := flaggedV_form (up x (x 15)) (x 16)
  have HV : Hid (Value.tuple #[F.v f', .int .i64 er] = unpackV x) := hid hf.symm
  rw [hf] at HF
  clear c1 c2 hw hf
  go_enter Try.func33, Try.ntmps33
  go_upto_region 4 with fail
  generalize hX : (W.alloc _).alloc _ = X at *
  clear hX
  go_wp2_with fail
  go_loopw [5] (fun i wr => ∃ k : Nat, k ≤ 15 ∧ i = .int .i64 (k : Int) ∧ Hid (RU W wr g o x (upk x k 0))) (fun i _ => 15 - (intOf i).toNat)
  case atStart => exact ⟨0, by omega, rfl, HU⟩
  case round =>
    clear HU
    obtain ⟨k, hk, rfl, HI⟩ := hrel
    by_cases hlt : k < 15
    · have c1 : (k : Int) < 15 := by omega
      have c2 : (k : Int) < 17 := by omega
      have y0 := HI.out.wds.at' k (by omega)
      have y1 := (HI.out.fil.cell k).trans ((upk x k 0).at k hlt)
      have y2 := HI.out.fil.free k
      have HN := hid (HI.out.set HL.out k (.int .u32 (x k)) (upk_set x k hlt))
      clear HI
      go_wp2_with fail
      go_roundw
      case measure => simp [intOf] <;> omega
      case rel => exact ⟨k + 1, by omega, by go_num, HN⟩
    · obtain rfl : k = 15 := by omega
      have y0 := HI.out.wds.at' 15 (by omega)
      have y1 := (HI.out.fil.cell 15).trans (upk x 15 0).at15
      have y2 := HI.out.fil.free 15
      have HN := hid (HI.out.set HL.out 15 (.int .u32 (x 15)) (upk_pc x (x 15)))
      clear HI
      go_upto_region 9 with fail
      generalize hZ : World.setCell _ _ _ = Z at *
      clear hZ y0 y1 y2
      have HU := hid (HN.out.on (Below.refl _ _).drew)
      clear HN
      generalize hp : x 15 = p at *
      clear hp
      obtain ⟨q, HQ16⟩ : ∃ q, Hid (x 16 = q) := ⟨_, rfl⟩
      rw [HQ16.out] at HF
      refine wp_region_held_drew (S := fun x' => Cel x' (W.heap.size + 1) 25 (up x p).cs ∧ W17 x' g o x) (by kernel_rfl) ⟨HU.out.fil, HU.out.wds⟩ (fun hHeld => ?_)
      refine wpAnyH_take (i := 0) (oi := { dst := some 25, op := Op.load 25 (Operand.tmp 4), type := 25, pos := "ref.go:114", after := #[], guard := none }) (v := (up x p).v) rfl (by kernel_rfl) (by kernel_rfl) (by kernel_rfl) (fun _ _ _ h => h) (yieldsIf_load_mid (by rfl) 25 _ rfl (W.heap.size + 1) 0 rfl (up x p).cs _ (fun w hSw => hSw.1.range) under25 rfl (by rw [size25, F.len])) (by assumption) ?_
      simp only [Act.put, List.setIfInBounds_toArray, List.set_cons_zero, List.set_cons_succ]
      refine wpAnyH_take (i := 1) (oi := { dst := some 26, op := Op.move (Operand.tmp 0), type := 45, pos := "ref.go:114", after := #[], guard := none }) (v := .slice (some ⟨g, o, none⟩) 17 c) rfl (by kernel_rfl) (by kernel_rfl) (by kernel_rfl) (fun _ _ _ h => h) (Or.inl ⟨by rfl, by intro w hSw; go_simp⟩) (by assumption) ?_
      simp only [Act.put, List.setIfInBounds_toArray, List.set_cons_zero, List.set_cons_succ]
      refine wpAnyH_take (i := 2) (oi := { dst := some 27, op := Op.indexAddr 45 (Operand.tmp 26) (Operand.const (Value.int IntKind.i64 16)), type := 0, pos := "ref.go:114", after := #[{ on := 1, ground := Ground.data }], guard := none }) (v := .pointer (some ⟨g, o + 16, none⟩)) rfl (by kernel_rfl) (by kernel_rfl) (by kernel_rfl) (fun _ _ _ h => h) (Or.inl ⟨by rfl, by intro w hSw; go_simp⟩) (by assumption) ?_
      simp only [Act.put, List.setIfInBounds_toArray, List.set_cons_zero, List.set_cons_succ]
      refine wpAnyH_take (i := 3) (oi := { dst := some 28, op := Op.load 22 (Operand.tmp 27), type := 22, pos := "ref.go:114", after := #[{ on := 2, ground := Ground.data }], guard := none }) (v := .int .u32 q) rfl (by kernel_rfl) (by kernel_rfl) (by kernel_rfl) (fun _ _ _ h => h) (Or.inl ⟨by rfl, by intro w hSw; have y := hSw.2.at' 16 (by decide); rw [HQ16.out] at y; go_simp⟩) (by assumption) ?_
      simp only [Act.put, List.setIfInBounds_toArray, List.set_cons_zero, List.set_cons_succ]
      refine wpAnyH_ready (rs := [4]) (by kernel_rfl) (by simp) (AllReadyH.cons (o := { dst := some 29, op := Op.call { callee := Callee.value (Operand.func 30), args := #[Operand.tmp 25, Operand.tmp 28], argTypes := #[25, 22] }, type := 64, pos := "ref.go:114", after := #[{ on := 0, ground := Ground.data }, { on := 3, ground := Ground.data }], guard := none }) rfl (fun KQ hK => ?_) AllReadyH.nil)
      go_simp
      refine (HF.out _).mono ?_
      rintro e w2 ⟨rfl, hb2⟩
      have HU3 := hid (HU.out.on hb2)
      clear hb2 HU
      go_wp2_with fail
      refine hK.out _ _ ⟨HU3.out.fil, HU3.out.wds⟩ (fun hHeld => ?_)
      clear hK KQ
      try simp only [Act.put, List.setIfInBounds_toArray, List.set_cons_zero, List.set_cons_succ]
      refine wpAnyH_take (i := 5) (oi := { dst := some 30, op := Op.extract (Operand.tmp 29) 0, type := 25, pos := "ref.go:114", after := #[{ on := 4, ground := Ground.data }], guard := none }) (v := f'.v) rfl (by kernel_rfl) (by kernel_rfl) (by kernel_rfl) (fun _ _ _ h => h) (Or.inl ⟨by rfl, by intro w hSw; go_simp⟩) (by assumption) ?_
      simp only [Act.put, List.setIfInBounds_toArray, List.set_cons_zero, List.set_cons_succ]
      refine wpAnyH_take (i := 6) (oi := { dst := some 31, op := Op.extract (Operand.tmp 29) 1, type := 3, pos := "ref.go:114", after := #[{ on := 4, ground := Ground.data }], guard := none }) (v := .int .i64 er) rfl (by kernel_rfl) (by kernel_rfl) (by kernel_rfl) (fun _ _ _ h => h) (Or.inl ⟨by rfl, by intro w hSw; go_simp⟩) (by assumption) ?_
      simp only [Act.put, List.setIfInBounds_toArray, List.set_cons_zero, List.set_cons_succ]
      refine wpAnyH_ready (rs := [7]) (by kernel_rfl) (by simp) (AllReadyH.cons (o := { dst := none, op := Op.store 25 (Operand.tmp 2) (Operand.tmp 30), type := 0, pos := "ref.go:114", after := #[{ on := 5, ground := Ground.data }, { on := 4, ground := Ground.chain }, { on := 0, ground := Ground.phase }, { on := 1, ground := Ground.phase }, { on := 2, ground := Ground.phase }, { on := 3, ground := Ground.phase }, { on := 4, ground := Ground.phase }, { on := 5, ground := Ground.phase }, { on := 6, ground := Ground.phase }], guard := none }) rfl (fun KQ hK => ?_) AllReadyH.nil)
      rw [if_pos (by rfl)]
      refine wp_store_st 25 _ _ rfl W.heap.size f'.cs rfl rfl HU3.out.res (by rw [size25, F.len]) (by rw [F.len, F.len]) f'.all ?_
      have hb3 := ButL.setRow (G := [W.heap.size]) w2 W.heap.size f'.cs.toArray (by simp)
      have hB3 : Below W.heap.size w2 _ := hb3.below (by simp) HU3.out.below.size
      have HSU := hid (And.intro (HU3.out.fil.but hb3 (by rw [List.mem_singleton]; omega)) (show W17 (w2.setRow W.heap.size f'.cs.toArray) g o x from ⟨Nat.lt_of_lt_of_le HU3.out.wds.lt hb3.size, fun k hk => (hB3.cell (p := ⟨g, o + k, none⟩) HL.out).trans (HU3.out.wds.at' k hk)⟩))
      have HRR := hid (And.intro (HU3.out.res.set f'.cs) (HU3.out.below.trans hB3))
      clear hb3 hB3 HU3
      generalize hy : World.setRow _ W.heap.size _ = Y2 at *
      clear hy
      refine hK.out _ _ HSU.out (fun hHeld => ?_)
      clear hK KQ
      try simp only [Act.put]
      refine wpAnyH_ready (rs := [8]) (by kernel_rfl) (by simp) (AllReadyH.cons (o := { dst := some 3, op := Op.assign (Operand.tmp 31), type := 3, pos := "ref.go:114", after := #[{ on := 6, ground := Ground.data }, { on := 7, ground := Ground.chain }, { on := 0, ground := Ground.phase }, { on := 1, ground := Ground.phase }, { on := 2, ground := Ground.phase }, { on := 3, ground := Ground.phase }, { on := 4, ground := Ground.phase }, { on := 5, ground := Ground.phase }, { on := 6, ground := Ground.phase }, { on := 7, ground := Ground.phase }], guard := none }) rfl (fun KQ hK => ?_) AllReadyH.nil)
      go_simp
      refine hK.out _ _ HSU.out (fun hHeld => ?_)
      clear hK KQ
      try simp only [Act.put, List.setIfInBounds_toArray, List.set_cons_zero, List.set_cons_succ]
      refine wpAnyH_done (by kernel_rfl) ?_ _
      go_wp2_with fail
      refine ret_st2 rfl rfl W.heap.size _ rfl HRR.out.1 under25 rfl (by rw [size25]; simp [F.len]) ⟨congrArg _ HV.out, HRR.out.2⟩
end Go.Proofs.Ythpkodkilbcepaa
