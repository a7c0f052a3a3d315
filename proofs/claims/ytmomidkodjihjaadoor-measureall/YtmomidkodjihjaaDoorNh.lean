/- pieces: Check, Extend and Finish, the program's beside the document's. -/
import Derived.Test.YtmomidkodjihjaaDoorNg
import Derived.Test.YtmomidkodjihjaaDoorNd
namespace Go.Proofs.YtmomidkodjihjaaDoor
open Go.RowKit
open H
set_option maxHeartbeats 4000000
set_option maxRecDepth 100000
attribute [-simp] Tryd.isAgg37 Tryd.sizeOf37 Tryd.zeroValue37 Tryd.isAgg44 Tryd.sizeOf44 Tryd.zeroValue44 Tryd.isAgg105 Tryd.sizeOf105 Tryd.zeroValue105
open Classical in
/-- Extend, whatever is asked. -/
noncomputable def exV (s : List Int) (o : MOp) : List Int × Int := if o.Ok then (if LoadOk s then (exS s o.wds, 0) else (List.replicate 26 0, 20)) else (List.replicate 26 0, 150)
open Classical in
/-- Finish, whatever is asked. -/
noncomputable def fiV (s : List Int) : List Int × Int := if LoadOk s then (fiS s, 0) else (List.replicate 8 0, 20)
theorem exV_len {s : List Int} (hs : s.length = 26) (o : MOp) : (exV s o).1.length = 26 := by
  unfold exV
  split
  · split
    · exact exS_len hs
    · simp
  · simp
theorem fiV_len {s : List Int} (hs : s.length = 26) : (fiV s).1.length = 8 := by
  unfold fiV
  split
  · exact fiS_len hs
  · simp
theorem wds_lop {x : Lv} (h : LvW x) (ho : (lop x).Ok) : Wds (lop x).wds := by
  unfold MOp.wds
  obtain ⟨h1, h2, _⟩ := ho
  obtain ⟨a0, a1, l0, f0, f1⟩ := h
  exact wds_cons (by omega) (by omega) (wds_cons a0 a1 (wds_lwd l0 f0 f1 _))
theorem exV_wds {s : List Int} (hs : Wds s) {x : Lv} (h : LvW x) : Wds (exV s (lop x)).1 := by
  unfold exV
  split
  · rename_i ho
    split
    · exact exS_wds hs (wds_lop h ho)
    · exact wds_zeros _
  · exact wds_zeros _
theorem extend_v (W : World) (hT : Tab W) (h2 : 1 < W.heap.size) (s : List Int) (hs : s.length = 26) (ws : Wds s) (o : MOp) (ao : Option Addr) (c : Nat) (hat : At W .u32 ao o.ws) :
    Calls Tryd.prog 16 #[Ag s, .agg #[.int .i64 o.k, .int .u32 o.a, .slice ao o.ws.length c]] W fun e W' => e = .returned (.tuple #[Ag (exV s o).1, .int .i64 (exV s o).2]) ∧ Below W.heap.size W W' := by
  unfold exV
  by_cases ho : o.Ok
  · rw [if_pos ho]
    by_cases hl : LoadOk s
    · rw [if_pos hl]; exact extend_gen W hT h2 s hs ws hl o ho ao c hat
    · rw [if_neg hl]; exact extend_no W s hs ws hl o ho ao c
  · rw [if_neg ho]; exact extend_bad W s o.k o.a ao o.ws.length c (Bool.eq_false_iff.2 (fun h => ho ((okk_iff o).1 h)))
theorem rextend_v (W : World) (hR : TabR W) (h2 : 1 < W.heap.size) (s : List Int) (hs : s.length = 26) (ws : Wds s) (o : MOp) (ao : Option Addr) (c : Nat) (hat : At W .u32 ao o.ws) :
    Calls Tryd.prog 53 #[Ag s, .agg #[.int .i64 o.k, .int .u32 o.a, .slice ao o.ws.length c]] W fun e W' => e = .returned (.tuple #[Ag (exV s o).1, .int .i64 (exV s o).2]) ∧ Below W.heap.size W W' := by
  unfold exV
  by_cases ho : o.Ok
  · rw [if_pos ho]
    by_cases hl : LoadOk s
    · rw [if_pos hl]; exact rextend_gen W hR h2 s hs ws hl o ho ao c hat
    · rw [if_neg hl]; exact rextend_no W s hs ws hl o ho ao c
  · rw [if_neg ho]; exact rextend_bad W s o.k o.a ao o.ws.length c (Bool.eq_false_iff.2 (fun h => ho ((okk_iff o).1 h)))
theorem finish_v (W : World) (hT : Tab W) (h2 : 1 < W.heap.size) (s : List Int) (hs : s.length = 26) (ws : Wds s) :
    Calls Tryd.prog 18 #[Ag s] W fun e W' => e = .returned (.tuple #[Ag (fiV s).1, .int .i64 (fiV s).2]) ∧ Below W.heap.size W W' := by
  unfold fiV
  by_cases hl : LoadOk s
  · rw [if_pos hl]; exact finish_gen W hT h2 s hs ws hl
  · rw [if_neg hl]; exact finish_no W s hs ws hl
theorem rfinish_v (W : World) (hR : TabR W) (h2 : 1 < W.heap.size) (s : List Int) (hs : s.length = 26) (ws : Wds s) :
    Calls Tryd.prog 54 #[Ag s] W fun e W' => e = .returned (.tuple #[Ag (fiV s).1, .int .i64 (fiV s).2]) ∧ Below W.heap.size W W' := by
  unfold fiV
  by_cases hl : LoadOk s
  · rw [if_pos hl]; exact rfinish_gen W hR h2 s hs ws hl
  · rw [if_neg hl]; exact rfinish_no W s hs ws hl
theorem ol_one {w : World} {ao : Option Addr} {x : Ov} (h : OL w ao [x]) : ∃ b off, ao = some ⟨b, off, none⟩ ∧ w.rangeAt b off x.cs := by
  obtain ⟨b, off, h1, h2⟩ := h.at (j := 0) (x := x) rfl
  obtain ⟨a1, a2, a3⟩ := h2 w (Below.refl _ _)
  rw [Nat.zero_mul, Nat.add_zero] at a1 a2 a3
  refine ⟨b, off, h1, fun i u hu => ?_⟩
  unfold Ov.cs at hu
  match i, hu with
  | 0, hu => exact a1.trans hu
  | 1, hu => exact a2.trans hu
  | 2, hu => exact a3.trans hu
theorem ll_one {W : World} {bo : Option Addr} {l : List Lv} (h : LL W bo l) {j : Nat} {x : Lv} (hx : l[j]? = some x) : ∃ b off, bo = some ⟨b, off, none⟩ ∧ ∀ w, Below W.heap.size W w → LL w (some ⟨b, off + j * 5, none⟩) [x] := by
  rcases h.row with h0 | ⟨b, off, h1, h2, h3⟩
  · rw [h0] at hx; simp at hx
  · refine ⟨b, off, h1, fun w hw => LL.on ⟨.inr ⟨b, off + j * 5, rfl, h2, fun i u hu => ?_⟩, fun y hy => ?_⟩ hw⟩
    · have hu2 : x.cs[i]? = some u := by simpa using hu
      have hi : i < 5 := (List.getElem?_eq_some_iff.1 hu2).1
      rw [show off + j * 5 + i = off + (j * 5 + i) by omega]
      exact h3 _ u ((lcs_get l j i x hx hi).trans hu2)
    · rw [List.mem_singleton] at hy
      subst hy
      exact h.ld y (List.mem_of_getElem? hx)
theorem own_lop (x : Lv) : ownA 1 [x] ++ tl 0 = [lop x] := by simp [ownA, tl]
theorem own_one (W : World) (b off d : Nat) (x : Lv) (hL : LL W (some ⟨b, off, none⟩) [x]) :
    Calls Tryd.prog 28 #[.slice (some ⟨b, off, none⟩) 1 d, .int .i64 1, .int .i64 0] W fun e W' => ∃ b' off' c' p cc, e = .returned (.slice (some ⟨b', off', none⟩) 1 c') ∧ W'.rangeAt b' off' [.int .i64 (lop x).k, .int .u32 (lop x).a, .slice p (lop x).ws.length cc] ∧ At W' .u32 p (lop x).ws ∧ Below W.heap.size W W' := by
  refine (own_any W _ 1 d [x] rfl hL (by decide) 1 0 (by decide) (by decide)).mono ?_
  rintro e w ⟨v, lo, rfl, h, hm⟩
  rw [own_lop] at hm
  obtain ⟨y, rfl⟩ : ∃ y, lo = [y] := by
    have := congrArg List.length hm
    rw [List.length_map] at this
    exact List.length_eq_one_iff.1 this
  have hy : y.o = lop x := by simpa using hm
  obtain ⟨ao, c, rfl, _, hol⟩ := h.ol
  obtain ⟨b', off', rfl, hr⟩ := ol_one hol
  have hw := hol.ws y (by simp)
  unfold Ov.cs at hr
  rw [hy] at hr hw
  exact ⟨b', off', c, y.p, y.c, rfl, hr, hw, h.below⟩
theorem doc_one (W : World) (b off d : Nat) (x : Lv) (hL : LL W (some ⟨b, off, none⟩) [x]) :
    Calls Tryd.prog 29 #[.slice (some ⟨b, off, none⟩) 1 d, .int .i64 1, .int .i64 0] W fun e W' => ∃ b' off' c' p cc, e = .returned (.slice (some ⟨b', off', none⟩) 1 c') ∧ W'.rangeAt b' off' [.int .i64 (lop x).k, .int .u32 (lop x).a, .slice p (lop x).ws.length cc] ∧ At W' .u32 p (lop x).ws ∧ Below W.heap.size W W' := by
  refine (doc_any W _ 1 d [x] rfl hL (by decide) 1 0 (by decide) (by decide)).mono ?_
  rintro e w ⟨v, lo, rfl, h, hm⟩
  rw [own_lop] at hm
  obtain ⟨y, rfl⟩ : ∃ y, lo = [y] := by
    have := congrArg List.length hm
    rw [List.length_map] at this
    exact List.length_eq_one_iff.1 this
  have hy : y.o = lop x := by simpa using hm
  obtain ⟨ao, c, rfl, _, hol⟩ := h.ol
  obtain ⟨b', off', rfl, hr⟩ := ol_one hol
  have hw := hol.ws y (by simp)
  unfold Ov.cs at hr
  rw [hy] at hr hw
  exact ⟨b', off', c, y.p, y.c, rfl, hr, hw, h.below⟩
/-- The two states. -/
structure PQ (W w : World) (g5 g6 : Nat) (s : List Int) : Prop where
  below : Below W.heap.size W w
  b5 : Blk w g5 .u32 37 s
  b6 : Blk w g6 .u32 37 s
  ne : g5 ≠ g6
  w5 : W.heap.size ≤ g5
  w6 : W.heap.size ≤ g6
theorem PQ.on {W w w' : World} {g5 g6 : Nat} {s : List Int} (x : PQ W w g5 g6 s) (hb : Below w.heap.size w w') : PQ W w' g5 g6 s := ⟨below_on x.below hb, x.b5.on hb, x.b6.on hb, x.ne, x.w5, x.w6⟩
theorem pieces_any (W : World) (hT : Tab W) (hR : TabR W) (h2 : 1 < W.heap.size) (bo : Option Addr) (m d : Nat) (l : List Lv) (hl : l.length = m) (hmd : m ≤ d) (hm : m ≤ 4611686018427387904) (hL : LL W bo l) (hW : ∀ x ∈ l, LvW x) (s0 : List Int) (hs0 : s0.length = 26) (ws0 : Wds s0) :
    Calls Tryd.prog 36 #[.slice bo m d, Ag s0] W fun e W' => e = .returned (.bool true) ∧ Below W.heap.size W W' := by
  have HEx := hid (fun w (hw : Below W.heap.size W w) s hs ws o ao c (hat : At w .u32 ao (MOp.ws o)) => extend_v w (hT.below hw h2) (by have := hw.size; omega) s hs ws o ao c hat)
  have HRx := hid (fun w (hw : Below W.heap.size W w) s hs ws o ao c (hat : At w .u32 ao (MOp.ws o)) => rextend_v w (tabR_below hR hw h2) (by have := hw.size; omega) s hs ws o ao c hat)
  have HFi := hid (fun w (hw : Below W.heap.size W w) s hs ws => finish_v w (hT.below hw h2) (by have := hw.size; omega) s hs ws)
  have HRf := hid (fun w (hw : Below W.heap.size W w) s hs ws => rfinish_v w (tabR_below hR hw h2) (by have := hw.size; omega) s hs ws)
  have HL := hid hL
  have HM := hid (And.intro hl (And.intro hmd hm))
  have HLw := hid hW
  have q0 : (m : Int) ≤ 4611686018427387904 := by omega
  have HS0 := hid ws0
  clear hT hR h2 hL hW ws0 hm hmd hl
  obtain ⟨Z, hZ⟩ : ∃ Z : List Int, Z = List.replicate 26 0 := ⟨_, rfl⟩
  have hZl : Z.length = 26 := by rw [hZ]; simp
  have hz : ∀ w, (zeroValue 37).run Tryd.prog w = .ok (.agg (Z.map (Value.int .u32)).toArray) w := fun w => by rw [Tryd.zeroValue37, hZ]; rfl
  clear hZ
  obtain ⟨Y, hY⟩ : ∃ Y : List Int, Y = List.replicate 8 0 := ⟨_, rfl⟩
  have hYl : Y.length = 8 := by rw [hY]; simp
  have hy : ∀ w, (zeroValue 44).run Tryd.prog w = .ok (.agg (Y.map (Value.int .u32)).toArray) w := fun w => by rw [Tryd.zeroValue44, hY]; rfl
  clear hY
  have B0 : Hid (Blk (W.alloc (Obj.cells (List.map (Value.int IntKind.u32) s0).toArray 37)) W.heap.size .u32 37 s0) := Blk.new W .u32 37 s0
  unfold Ag
  go_enter Tryd.func36, Tryd.ntmps36
  go_upto_region 1 with fail
  have B1 : Hid (Below W.heap.size W (W.alloc (Obj.cells (List.map (Value.int IntKind.u32) s0).toArray 37)) ∧ Blk (W.alloc (Obj.cells (List.map (Value.int IntKind.u32) s0).toArray 37)) W.heap.size .u32 37 s0) := hid ⟨below_one _ _, B0.out⟩
  clear B0
  generalize W.alloc _ = w1 at *
  go_upto_region 2 with (first | (revert B1; intro B1; refine wpList_load_blk rfl 37 _ rfl W.heap.size s0 rfl B1.out.2 Tryd.underlying37 (by rw [hs0]; exact size40) ?_) | (revert B1; intro B1; refine wpList_store_but rfl 37 _ _ rfl w1.heap.size s0 rfl rfl (Blk.new w1 .u32 37 Z) (by rw [hs0]; exact size40) (by rw [hZl, hs0]) ?_; intro w2 b2 t2 s2; have B2 := hid (And.intro (below_on B1.out.1 (box_below _ t2)) (And.intro (B1.out.2.on (box_below _ t2)) (And.intro b2 B1.out.1.size))); clear b2 t2 s2 B1))
  generalize w1.heap.size = g5 at *
  go_upto_region 3 with (first | (revert B2; intro B2; refine wpList_load_blk rfl 37 _ rfl W.heap.size s0 rfl B2.out.2.1 Tryd.underlying37 (by rw [hs0]; exact size40) ?_) | (revert B2; intro B2; refine wpList_store_but rfl 37 _ _ rfl w2.heap.size s0 rfl rfl (Blk.new w2 .u32 37 Z) (by rw [hs0]; exact size40) (by rw [hZl, hs0]) ?_; intro w3 b3 t3 s3; have B3 : Hid (PQ W w3 g5 w2.heap.size s0) := hid ⟨below_on B2.out.1 (box_below _ t3), B2.out.2.2.1.on (box_below _ t3), b3, by have := B2.out.2.2.1.lt; omega, B2.out.2.2.2, B2.out.1.size⟩; clear b3 t3 s3 B2))
  generalize w2.heap.size = g6 at *
  go_wp2_with fail
  go_loopw [7] (fun i wr => ∃ (j : Nat) (s : List Int), j ≤ m ∧ j ≤ 8 ∧ i = .int .i64 (j : Int) ∧ Hid (s.length = 26 ∧ Wds s) ∧ Hid (PQ W wr g5 g6 s)) (fun i _ => m - (intOf i).toNat)
  case atStart => exact ⟨0, s0, Nat.zero_le _, Nat.zero_le _, rfl, hid ⟨hs0, HS0.out⟩, B3⟩
  case round =>
    obtain ⟨j, s, hj, hj8, rfl, HS, HQ⟩ := hrel
    clear B3
    by_cases hgo : j < m
    · by_cases h8 : j < 8
      · have r1 : (j : Int) < (m : Int) := by omega
        have r2 : (0 : Int) ≤ (j : Int) := by omega
        have r3 : (j : Int) < 8 := by omega
        obtain ⟨x, hx⟩ : ∃ x, l[j]? = some x := ⟨l[j]'(by rw [HM.out.1]; exact hgo), List.getElem?_eq_getElem _⟩
        obtain ⟨b, off, rfl, hll⟩ := ll_one HL.out hx
        have HO1 := hid (fun w hw => own_one w b (off + j * 5) (d - j) x (hll w hw))
        have HO2 := hid (fun w hw => doc_one w b (off + j * 5) (d - j) x (hll w hw))
        have HE1 := hid (fun w hw ao c (hat : At w .u32 ao (lop x).ws) => HEx.out w hw s HS.out.1 HS.out.2 (lop x) ao c hat)
        have HE2 := hid (fun w hw ao c (hat : At w .u32 ao (lop x).ws) => HRx.out w hw s HS.out.1 HS.out.2 (lop x) ao c hat)
        have HC1 := hid (fun w ao c => check_any w (lop x).k (lop x).a ao (lop x).ws.length c)
        have HC2 := hid (fun w ao c => rcheck_any w (lop x).k (lop x).a ao (lop x).ws.length c)
        have HXs : Hid ((exV s (lop x)).1.length = 26 ∧ Wds (exV s (lop x)).1) := hid ⟨exV_len HS.out.1 _, exV_wds HS.out.2 (HLw.out x (List.mem_of_getElem? hx))⟩
        have d1 : j + 1 ≤ d := by have := HM.out.2.1; omega
        have d2 : ¬ d - j = 0 := by omega
        have HJ := hid (And.intro hgo h8)
        have hs := HS.out.1
        generalize (if okk (lop x).k (lop x).ws.length = true then (0 : Int) else 150) = ck at *
        generalize (exV s (lop x)).1 = X at *
        generalize (exV s (lop x)).2 = E at *
        generalize (lop x).k = ok at *
        generalize (lop x).a = oa at *
        generalize (lop x).ws = ow at *
        generalize hon : ow.length = on at *
        have hX := HXs.out.1
        have heq1 : ∀ w, (Op.equalIn 10000 37 (.agg (X.map (Value.int .u32)).toArray) (.agg (X.map (Value.int .u32)).toArray)).run Tryd.prog w = .ok true w := fun w => by rw [eq40 X X hX hX w, decide_eq_true rfl]
        clear hx hll hgo h8 hj hj8 hon HM HL HLw
        go_upto_region 6 with fail
        go_upto_region 7 with (first | (go_at_call 28; refine (HO1.out _ HQ.out.below).mono ?_; rintro e w4 ⟨b4, o4, c4, p8, c8, rfl, hr, ha, hb⟩; have X4 := hid (And.intro (HQ.out.on hb) (And.intro hr ha)); clear hr ha hb HQ) | (revert X4; intro X4; refine wpList_load_mid rfl 43 _ rfl b4 o4 rfl [.int .i64 ok, .int .u32 oa, .slice p8 on c8] _ X4.out.2.1 Tryd.underlying43 rfl (by rw [size43]; rfl) ?_) | (revert X4; intro X4; refine wpList_store_cel rfl 43 _ _ rfl w4.heap.size [.int .i64 ok, .int .u32 oa, .slice p8 on c8] rfl rfl (show Cel (w4.alloc _) w4.heap.size 43 _ from heap_alloc_new _ _) size43 rfl (by intro v hv; simp only [List.mem_cons, List.not_mem_nil, or_false] at hv; rcases hv with rfl | rfl | rfl <;> rfl) ?_; intro w5 b5 t5 s5; have X5 := hid (And.intro (X4.out.1.on (box_below _ t5)) (And.intro (X4.out.2.2.below (box_below _ t5)) b5)); clear b5 t5 s5 X4))
        generalize w4.heap.size = g8 at *
        go_upto_region 8 with (first | (go_at_call 29; refine (HO2.out _ X5.out.1.below).mono ?_; rintro e w6 ⟨b6, o6, c6, p9, c9, rfl, hr, ha, hb⟩; have X6 := hid (And.intro (X5.out.1.on hb) (And.intro (X5.out.2.1.below hb) (And.intro (X5.out.2.2.on hb) (And.intro hr ha)))); clear hr ha hb X5) | (revert X6; intro X6; refine wpList_load_mid rfl 80 _ rfl b6 o6 rfl [.int .i64 ok, .int .u32 oa, .slice p9 on c9] _ X6.out.2.2.2.1 Tryd.underlying80 rfl (by rw [size80]; rfl) ?_) | (revert X6; intro X6; refine wpList_store_cel rfl 80 _ _ rfl w6.heap.size [.int .i64 ok, .int .u32 oa, .slice p9 on c9] rfl rfl (show Cel (w6.alloc _) w6.heap.size 80 _ from heap_alloc_new _ _) size80 rfl (by intro v hv; simp only [List.mem_cons, List.not_mem_nil, or_false] at hv; rcases hv with rfl | rfl | rfl <;> rfl) ?_; intro w7 b7 t7 s7; have X7 := hid (And.intro (X6.out.1.on (box_below _ t7)) (And.intro (X6.out.2.1.below (box_below _ t7)) (And.intro (X6.out.2.2.1.on (box_below _ t7)) (And.intro (X6.out.2.2.2.2.below (box_below _ t7)) b7)))); clear b7 t7 s7 X6))
        generalize w6.heap.size = g9 at *
        go_upto_region 9 with (first | (revert X7; intro X7; refine wpList_load_cl rfl 80 _ rfl g9 [.int .i64 ok, .int .u32 oa, .slice p9 on c9] rfl X7.out.2.2.2.2 Tryd.underlying80 rfl (by rw [size80]; rfl) ?_) | (go_at_call 47; refine (HC2.out _ _ _).mono ?_; rintro e w8 ⟨rfl, hb⟩; have X8 := hid (And.intro (X7.out.1.on hb) (And.intro (X7.out.2.1.below hb) (And.intro (X7.out.2.2.1.on hb) (And.intro (X7.out.2.2.2.1.below hb) (X7.out.2.2.2.2.on hb))))); clear hb X7))
        go_upto_region 11 with (first | (revert X8; intro X8; refine wpList_load_cl rfl 43 _ rfl g8 [.int .i64 ok, .int .u32 oa, .slice p8 on c8] rfl X8.out.2.2.1 Tryd.underlying43 rfl (by rw [size43]; rfl) ?_) | (go_at_call 52; refine (HC1.out _ _ _).mono ?_; rintro e w9 ⟨rfl, hb⟩; have X9 := hid (And.intro (X8.out.1.on hb) (And.intro (X8.out.2.1.below hb) (And.intro (X8.out.2.2.1.on hb) (And.intro (X8.out.2.2.2.1.below hb) (X8.out.2.2.2.2.on hb))))); clear hb X8))
        go_upto_region 12 with (first | (revert X9; intro X9; refine wpList_load_blk rfl 37 _ rfl g5 s rfl X9.out.1.b5 Tryd.underlying37 (by rw [hs]; exact size40) ?_) | (revert X9; intro X9; refine wpList_load_cl rfl 43 _ rfl g8 [.int .i64 ok, .int .u32 oa, .slice p8 on c8] rfl X9.out.2.2.1 Tryd.underlying43 rfl (by rw [size43]; rfl) ?_) | (go_at_call 16; refine (HE1.out _ X9.out.1.below _ _ X9.out.2.1).mono ?_; rintro e w10 ⟨rfl, hb⟩; have X10 := hid (And.intro (X9.out.1.on hb) (And.intro (X9.out.2.2.2.1.below hb) (X9.out.2.2.2.2.on hb))); clear hb X9) | (revert X10; intro X10; refine wpList_store_but rfl 37 _ _ rfl w10.heap.size X rfl rfl (Blk.new w10 .u32 37 Z) (by rw [hX]; exact size40) (by rw [hZl, hX]) ?_; intro w11 b11 t11 s11; have X11 := hid (And.intro (X10.out.1.on (box_below _ t11)) (And.intro (X10.out.2.1.below (box_below _ t11)) (And.intro (X10.out.2.2.on (box_below _ t11)) b11))); have HG11 : Hid (g5 < w10.heap.size ∧ g6 < w10.heap.size) := hid ⟨X10.out.1.b5.lt, X10.out.1.b6.lt⟩; clear b11 t11 s11 X10))
        generalize w10.heap.size = g11 at *
        go_upto_region 13 with (first | (revert X11; intro X11; refine wpList_load_blk rfl 37 _ rfl g6 s rfl X11.out.1.b6 Tryd.underlying37 (by rw [hs]; exact size40) ?_) | (revert X11; intro X11; refine wpList_load_cl rfl 80 _ rfl g9 [.int .i64 ok, .int .u32 oa, .slice p9 on c9] rfl X11.out.2.2.1 Tryd.underlying80 rfl (by rw [size80]; rfl) ?_) | (go_at_call 53; refine (HE2.out _ X11.out.1.below _ _ X11.out.2.1).mono ?_; rintro e w12 ⟨rfl, hb⟩; have X12 := hid (And.intro (X11.out.1.on hb) (X11.out.2.2.2.on hb)); clear hb X11) | (revert X12; intro X12; refine wpList_store_but rfl 37 _ _ rfl w12.heap.size X rfl rfl (Blk.new w12 .u32 37 Z) (by rw [hX]; exact size40) (by rw [hZl, hX]) ?_; intro w13 b13 t13 s13; have X13 := hid (And.intro (X12.out.1.on (box_below _ t13)) (And.intro (X12.out.2.on (box_below _ t13)) b13)); have HG13 : Hid (g5 < w12.heap.size ∧ g6 < w12.heap.size) := hid ⟨X12.out.1.b5.lt, X12.out.1.b6.lt⟩; clear b13 t13 s13 X12))
        generalize w12.heap.size = g13 at *
        go_upto_region 15 with (first | (revert X13; intro X13; refine wpList_load_bg rfl 37 _ rfl g11 X rfl X13.out.2.1 Tryd.underlying37 (by rw [hX]; exact size40) ?_) | (revert X13; intro X13; refine wpList_load_bg rfl 37 _ rfl g13 X rfl X13.out.2.2 Tryd.underlying37 (by rw [hX]; exact size40) ?_))
        by_cases hE : E = 0
        · subst hE
          go_upto_region 17 with (first | (revert X13; intro X13; refine wpList_load_blk rfl 37 _ rfl g11 X rfl X13.out.2.1 Tryd.underlying37 (by rw [hX]; exact size40) ?_) | (revert X13; intro X13; refine wpList_store_but rfl 37 _ _ rfl g5 X rfl rfl X13.out.1.b5 (by rw [hX]; exact size40) (by rw [hs, hX]) ?_; intro w14 b14 t14 s14; have X14 : Hid (Below W.heap.size W w14 ∧ Blk w14 g5 .u32 37 X ∧ Blk w14 g6 .u32 37 s ∧ Blk w14 g13 .u32 37 X ∧ g5 ≠ g6 ∧ W.heap.size ≤ g5 ∧ W.heap.size ≤ g6) := hid ⟨X13.out.1.below.trans (t14.below X13.out.1.w5 X13.out.1.below.size), b14, t14.blk X13.out.1.b6 (Ne.symm X13.out.1.ne), t14.blk X13.out.2.2 (by have := HG13.out; omega), X13.out.1.ne, X13.out.1.w5, X13.out.1.w6⟩; clear b14 t14 s14 X13))
          go_wp2_with (first | (revert X14; intro X14; refine wpList_load_blk rfl 37 _ rfl g13 X rfl X14.out.2.2.2.1 Tryd.underlying37 (by rw [hX]; exact size40) ?_) | (revert X14; intro X14; refine wpList_store_but rfl 37 _ _ rfl g6 X rfl rfl X14.out.2.2.1 (by rw [hX]; exact size40) (by rw [hs, hX]) ?_; intro w15 b15 t15 s15; have X15 : Hid (PQ W w15 g5 g6 X) := hid ⟨X14.out.1.trans (t15.below X14.out.2.2.2.2.2.2 X14.out.1.size), t15.blk X14.out.2.1 X14.out.2.2.2.2.1, b15, X14.out.2.2.2.2.1, X14.out.2.2.2.2.2.1, X14.out.2.2.2.2.2.2⟩; clear b15 t15 s15 X14))
          go_roundw
          case measure => have := HJ.out; simp [intOf] <;> omega
          case rel => exact ⟨j + 1, X, by have := HJ.out; omega, by have := HJ.out; omega, by simp, HXs, X15⟩
        · go_wp2_with fail
          go_roundw
          case measure => have := HJ.out; simp [intOf] <;> omega
          case rel => exact ⟨j + 1, s, by have := HJ.out; omega, by have := HJ.out; omega, by simp, HS, hid X13.out.1⟩
      · obtain rfl : j = 8 := by omega
        have r1 : ((8 : Nat) : Int) < (m : Int) := by omega
        clear hgo h8 hj hj8
        obtain ⟨M, hM⟩ : ∃ M, (fiV s).1 = M := ⟨_, rfl⟩
        obtain ⟨E, hE⟩ : ∃ E, (fiV s).2 = E := ⟨_, rfl⟩
        have hMl : M.length = 8 := by rw [← hM]; exact fiV_len HS.out.1
        have HF1 := hid (fun w hw => HFi.out w hw s HS.out.1 HS.out.2)
        have HF2 := hid (fun w hw => HRf.out w hw s HS.out.1 HS.out.2)
        rw [hM, hE] at HF1 HF2
        have heq1 : ∀ w, (Op.equalIn 10000 44 (.agg (M.map (Value.int .u32)).toArray) (.agg (M.map (Value.int .u32)).toArray)).run Tryd.prog w = .ok true w := fun w => by rw [eq27 M M hMl hMl w, decide_eq_true rfl]
        have hs := HS.out.1
        clear hM hE
        go_upto_region 18 with fail
        go_upto_region 19 with (first | (revert HQ; intro HQ; refine wpList_load_blk rfl 37 _ rfl g5 s rfl HQ.out.b5 Tryd.underlying37 (by rw [hs]; exact size40) ?_) | (go_at_call 18; refine (HF1.out _ HQ.out.below).mono ?_; rintro e w8 ⟨rfl, hb8⟩; have X8 := hid (HQ.out.on hb8); clear hb8 HQ) | (revert X8; intro X8; refine wpList_store_but rfl 44 _ _ rfl w8.heap.size M rfl rfl (Blk.new w8 .u32 44 Y) (by rw [hMl]; exact size27) (by rw [hYl, hMl]) ?_; intro w9 b9 t9 s9; have X9 := hid (And.intro (X8.out.on (box_below _ t9)) b9); clear b9 t9 s9 X8))
        generalize w8.heap.size = g15 at *
        go_upto_region 20 with (first | (revert X9; intro X9; refine wpList_load_blk rfl 37 _ rfl g6 s rfl X9.out.1.b6 Tryd.underlying37 (by rw [hs]; exact size40) ?_) | (go_at_call 54; refine (HF2.out _ X9.out.1.below).mono ?_; rintro e w10 ⟨rfl, hb10⟩; have X10 := hid (And.intro (X9.out.1.on hb10) (X9.out.2.on hb10)); clear hb10 X9) | (revert X10; intro X10; refine wpList_store_but rfl 44 _ _ rfl w10.heap.size M rfl rfl (Blk.new w10 .u32 44 Y) (by rw [hMl]; exact size27) (by rw [hYl, hMl]) ?_; intro w11 b11 t11 s11; have X11 := hid (And.intro (X10.out.1.on (box_below _ t11)) (And.intro (X10.out.2.on (box_below _ t11)) b11)); clear b11 t11 s11 X10))
        generalize w10.heap.size = g17 at *
        go_wp2_with (first | (revert X11; intro X11; refine wpList_load_bg rfl 44 _ rfl g15 M rfl X11.out.2.1 Tryd.underlying44 (by rw [hMl]; exact size27) ?_) | (revert X11; intro X11; refine wpList_load_bg rfl 44 _ rfl g17 M rfl X11.out.2.2 Tryd.underlying44 (by rw [hMl]; exact size27) ?_))
        go_ret
        exact ⟨rfl, X11.out.1.below⟩
    · obtain rfl : j = m := by omega
      clear hgo hj hj8
      obtain ⟨M, hM⟩ : ∃ M, (fiV s).1 = M := ⟨_, rfl⟩
      obtain ⟨E, hE⟩ : ∃ E, (fiV s).2 = E := ⟨_, rfl⟩
      have hMl : M.length = 8 := by rw [← hM]; exact fiV_len HS.out.1
      have HF1 := hid (fun w hw => HFi.out w hw s HS.out.1 HS.out.2)
      have HF2 := hid (fun w hw => HRf.out w hw s HS.out.1 HS.out.2)
      rw [hM, hE] at HF1 HF2
      have heq1 : ∀ w, (Op.equalIn 10000 44 (.agg (M.map (Value.int .u32)).toArray) (.agg (M.map (Value.int .u32)).toArray)).run Tryd.prog w = .ok true w := fun w => by rw [eq27 M M hMl hMl w, decide_eq_true rfl]
      have hs := HS.out.1
      clear hM hE
      go_upto_region 18 with fail
      go_upto_region 19 with (first | (revert HQ; intro HQ; refine wpList_load_blk rfl 37 _ rfl g5 s rfl HQ.out.b5 Tryd.underlying37 (by rw [hs]; exact size40) ?_) | (go_at_call 18; refine (HF1.out _ HQ.out.below).mono ?_; rintro e w8 ⟨rfl, hb8⟩; have X8 := hid (HQ.out.on hb8); clear hb8 HQ) | (revert X8; intro X8; refine wpList_store_but rfl 44 _ _ rfl w8.heap.size M rfl rfl (Blk.new w8 .u32 44 Y) (by rw [hMl]; exact size27) (by rw [hYl, hMl]) ?_; intro w9 b9 t9 s9; have X9 := hid (And.intro (X8.out.on (box_below _ t9)) b9); clear b9 t9 s9 X8))
      generalize w8.heap.size = g15 at *
      go_upto_region 20 with (first | (revert X9; intro X9; refine wpList_load_blk rfl 37 _ rfl g6 s rfl X9.out.1.b6 Tryd.underlying37 (by rw [hs]; exact size40) ?_) | (go_at_call 54; refine (HF2.out _ X9.out.1.below).mono ?_; rintro e w10 ⟨rfl, hb10⟩; have X10 := hid (And.intro (X9.out.1.on hb10) (X9.out.2.on hb10)); clear hb10 X9) | (revert X10; intro X10; refine wpList_store_but rfl 44 _ _ rfl w10.heap.size M rfl rfl (Blk.new w10 .u32 44 Y) (by rw [hMl]; exact size27) (by rw [hYl, hMl]) ?_; intro w11 b11 t11 s11; have X11 := hid (And.intro (X10.out.1.on (box_below _ t11)) (And.intro (X10.out.2.on (box_below _ t11)) b11)); clear b11 t11 s11 X10))
      generalize w10.heap.size = g17 at *
      go_wp2_with (first | (revert X11; intro X11; refine wpList_load_bg rfl 44 _ rfl g15 M rfl X11.out.2.1 Tryd.underlying44 (by rw [hMl]; exact size27) ?_) | (revert X11; intro X11; refine wpList_load_bg rfl 44 _ rfl g17 M rfl X11.out.2.2 Tryd.underlying44 (by rw [hMl]; exact size27) ?_))
      go_ret
      exact ⟨rfl, X11.out.1.below⟩
end Go.Proofs.YtmomidkodjihjaaDoor
