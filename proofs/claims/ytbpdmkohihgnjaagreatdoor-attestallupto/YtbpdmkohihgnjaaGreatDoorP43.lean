import Derived.Test.YtbpdmkohihgnjaaGreatDoorP42
import Derived.Test.YtbpdmkohihgnjaaGreatDoorP01
namespace Go.Proofs.YtbpdmkohihgnjaaGreatDoor
open Go.RowKit
set_option maxHeartbeats 4000000
set_option maxRecDepth 100000
theorem fmt29_any (W : World) (E : Nat → Addr) (hE : ErrS W E) (hT : TabW W) (ao : Option Addr) (n c : Nat) (ot : Bool) (R : List Rl) (hn : R.length = n) (hr : RulesAt W ao R) (ok : ∀ r ∈ R, r.Ok) (hmax : n ≤ 2000000) :
    Calls Tryz.prog 29 #[.agg #[.slice ao n c, .bool ot]] W fun e W' => e = .returned (.tuple #[.string (fmP R ot).1, .int .i64 (fmP R ot).2]) ∧ Below W.heap.size W W' := by
  cases h : okP R
  · rw [fmP_bad h]; exact format_bad W E hE ao n c ot R hn hr ok (by omega) h
  · rw [fmP_good h]; exact format_good W E hE hT ao n c ot R hn hr ok h
structure S21 (W : World) (gq cq : Nat) (ap : Option Addr) (n cp : Nat) (ot : Bool) (C : List Value) (w : World) : Prop where
  bl : Below W.heap.size W w
  q3 : Cel w W.heap.size 24 [.slice (some ⟨gq, 0, none⟩) (n + 120) cq, .bool ot]
  p4 : Cel w (W.heap.size + 1) 24 [.slice ap n cp, .bool ot]
  c5 : Cel w (W.heap.size + 1 + 1) 30 C
theorem S21.on {W : World} {gq cq : Nat} {ap : Option Addr} {n cp : Nat} {ot : Bool} {C : List Value} {w w' : World} (h : S21 W gq cq ap n cp ot C w) (hb : Below w.heap.size w w') : S21 W gq cq ap n cp ot C w' := ⟨below_on h.bl hb, h.q3.on hb, h.p4.on hb, h.c5.on hb⟩
structure S22 (W : World) (gq cq : Nat) (ap : Option Addr) (n cp : Nat) (ot : Bool) (C : List Value) (gx gy : Nat) (Q K : List Int) (w : World) : Prop where
  s : S21 W gq cq ap n cp ot C w
  q11 : Cel w gx 28 (Q.map (Value.int .u32))
  k12 : Cel w gy 26 (K.map (Value.int .u32))
theorem S22.on {W : World} {gq cq : Nat} {ap : Option Addr} {n cp : Nat} {ot : Bool} {C : List Value} {gx gy : Nat} {Q K : List Int} {w w' : World} (h : S22 W gq cq ap n cp ot C gx gy Q K w) (hb : Below w.heap.size w w') : S22 W gq cq ap n cp ot C gx gy Q K w' := ⟨h.s.on hb, h.q11.on hb, h.k12.on hb⟩
attribute [-simp] Tryz.isAgg24 Tryz.zeroValue24 Tryz.isAgg26 Tryz.zeroValue26 Tryz.isAgg28 Tryz.zeroValue28 Tryz.isAgg30 Tryz.zeroValue30 Tryz.isAgg36 Tryz.zeroValue36 Tryz.isAgg95 Tryz.zeroValue95
theorem decided_any (W : World) (E : Nat → Addr) (hE : ErrS W E) (hT : Tabs W) (hR : TR W) (gq cq : Nat) (ap : Option Addr) (n cp : Nat) (ot : Bool) (R : List Rl) (s o m d t : List Int) (ri sa : Bool) (hs : s.length = 8) (ho : o.length = 8) (hm : m.length = 8) (hd : d.length = 8) (ht : t.length = 8) (ws : Wds s) (wo : Wds o) (wm : Wds m) (wd : Wds d) (wt : Wds t)
    (hn : R.length = n) (hc : n + 120 ≤ cq) (h1 : RulesAt W (some ⟨gq, 0, none⟩) (R ++ List.replicate 120 spR)) (h2 : RulesAt W ap R) (ok : ∀ r ∈ R, r.Ok) (hmax : n ≤ 2000000) :
    Calls Tryz.prog 21 #[.agg #[.slice (some ⟨gq, 0, none⟩) (n + 120) cq, .bool ot], .agg #[.slice ap n cp, .bool ot], .agg (claC s o (quoL m d t) ri sa).toArray] W fun e W' => e = .returned (.bool true) ∧ Below W.heap.size W W' := by
  have ml : ∀ r ∈ R, r.ms.length = 8 := fun r hr => (ok r hr).ml
  have h1R : ∀ w, Below W.heap.size W w → RulesAt w (some ⟨gq, 0, none⟩) R := fun w hb => by
    rcases (h1.on hb) with h | ⟨b, off, e, hl, hra⟩
    · exact .inl (List.append_eq_nil_iff.1 h).1
    · exact .inr ⟨b, off, e, hl, fun tt r hr => hra tt r (by rw [List.getElem?_append_left (List.getElem?_eq_some_iff.1 hr).1]; exact hr)⟩
  have hd' : (if sa then o else d).length = 8 := by cases sa <;> assumption
  have wd' : Wds (if sa then o else d) := by cases sa <;> assumption
  have hk : (keyOf s).length = 8 := keyOf_length s
  have wk : Wds (keyOf s) := hmac_wds _ _
  have ht' : (if ri then tagOf (keyOf s) m (if sa then o else d) else t).length = 8 := by
    cases ri
    · exact ht
    · exact tagOf_length _ _ _
  have wt' : Wds (if ri then tagOf (keyOf s) m (if sa then o else d) else t) := by
    cases ri
    · exact wt
    · exact hmac_wds _ _
  have HQ := hid (fun (w : World) (h : Below W.heap.size W w) => fitted_any w (hR.on h) s o m d t ri sa hs ho hm hd ht ws wo wm wd)
  have HK := hid (fun (w : World) (h : Below W.heap.size W w) => rkey_any w (hR.on h) s hs ws)
  generalize (if ri then tagOf (keyOf s) m (if sa then o else d) else t) = t' at *
  generalize (if sa then o else d) = d' at *
  have HP := hid (fun w => pieced_any w gq n cq ot hc hmax)
  have HF := hid (fun (w : World) (h : Below W.heap.size W w) => fmt29_any w E (hE.on h) (hT.on h).lows (some ⟨gq, 0, none⟩) n cq ot R hn (h1R w h) ok hmax)
  have HDo := hid (fun (w : World) (h : Below W.heap.size W w) => doc32_any w ap n cp ot R hn (h2.on h) ml hmax)
  have HF31 := hid (fun (w : World) (ad : Option Addr) (cd : Nat) (h : RulesAt w ad R) => fmtD31_any w ad n cd ot R hn h ok hmax)
  have HNum := hid (fun w x => num_any w x)
  have HE35 : Hid (∀ (w : World) (_ : Below W.heap.size W w), Calls Tryz.prog 35 #[.agg #[.slice (some ⟨gq, 0, none⟩) n cq, .bool ot], .agg (m.map (Value.int .u32)).toArray] w fun e W' => e = .returned (.tuple #[.bool (dec R ot m).1, .string (dec R ot m).2]) ∧ Below w.heap.size w W') := hid (fun w h => decide_any w (some ⟨gq, 0, none⟩) n cq ot m R hm hn (h1R w h) ok (by omega))
  have HE36 := hid (fun (w : World) (ad : Option Addr) (cd : Nat) (h : RulesAt w ad R) => decD_any w ad n cd ot m R hm hn h ml hmax)
  have HJ37 : Hid (∀ (w : World) (_ : Below W.heap.size W w), Calls Tryz.prog 37 #[.agg ((keyOf s).map (Value.int .u32)).toArray, .agg #[.slice (some ⟨gq, 0, none⟩) n cq, .bool ot], .agg ((quoL m d' t').map (Value.int .u32)).toArray, .agg (o.map (Value.int .u32)).toArray] w fun e W' => e = .returned (.tuple #[.string (jname (jcode (tagOf (keyOf s) m d') t' d' o (dec R ot m).1) (dec R ot m).2), .int .i64 (errN (jcode (tagOf (keyOf s) m d') t' d' o (dec R ot m).1))]) ∧ Below w.heap.size w W') := hid (fun w h => judge_any w (hT.on h) E (hE.on h) (keyOf s) (some ⟨gq, 0, none⟩) n cq ot m d' t' o R hk hm hd' ht' ho wk wm wd' wt' hn (h1R w h) ok (by omega))
  have HJ38 : Hid (∀ (w : World) (ad : Option Addr) (cd : Nat) (_ : Below W.heap.size W w) (_ : RulesAt w ad R), Calls Tryz.prog 38 #[.agg ((keyOf s).map (Value.int .u32)).toArray, .agg #[.slice ad n cd, .bool ot], .agg ((quoL m d' t').map (Value.int .u32)).toArray, .agg (o.map (Value.int .u32)).toArray] w fun e W' => e = .returned (.tuple #[.string (jname (jcode (tagOf (keyOf s) m d') t' d' o (dec R ot m).1) (dec R ot m).2), .int .i64 (errN (jcode (tagOf (keyOf s) m d') t' d' o (dec R ot m).1))]) ∧ Below w.heap.size w W') := hid (fun w ad cd h hra => judgeD_any w (hR.on h) (keyOf s) ad n cd ot m d' t' o R hk hm hd' ht' ho wk wm wd' hn hra ml hmax)
  have hQl : (quoL m d' t').length = 24 := quoL_length hm hd' ht'
  have HO39 : Hid (∀ w, Calls Tryz.prog 39 #[.agg ((quoL m d' t').map (Value.int .u32)).toArray] w fun e W' => e = .returned (.agg ((quoL m d' t').map (Value.int .u32)).toArray) ∧ Below w.heap.size w W') := hid (fun w => doc_any w (quoL m d' t') hQl)
  have HKe := hid (fun (w : World) (h : Below W.heap.size W w) => kept_any w gq 0 cq ap n cp ot R hn (h1.on h) (h2.on h) ml hmax)
  have hCl : (claC s o (quoL m d t) ri sa).length = 42 := claC_length hs ho (quoL_length hm hd ht)
  obtain ⟨C, hC⟩ : ∃ C, C = claC s o (quoL m d t) ri sa := ⟨_, rfl⟩
  have HCs : Hid (∀ (w : World) (g : Nat), Cel w g 30 C → w.rangeAt g 0 (s.map (Value.int .u32)) ∧ w.rangeAt g 8 (o.map (Value.int .u32))) := hid (by rw [hC]; exact fun w g h => ⟨cla0 h, cla8 h hs⟩)
  have HQ0 : Hid (∀ (w : World) (g : Nat), Cel w g 28 ((quoL m d' t').map (Value.int .u32)) → w.rangeAt g 0 (m.map (Value.int .u32))) := hid (fun w g h => quo0 (cel_range h))
  rw [← hC] at HQ hCl ⊢
  generalize jname (jcode (tagOf (keyOf s) m d') t' d' o (dec R ot m).1) (dec R ot m).2 = jx at *
  generalize errN (jcode (tagOf (keyOf s) m d') t' d' o (dec R ot m).1) = ji at *
  generalize dec R ot m = D at *
  obtain ⟨da, dn⟩ := D
  generalize fmP R ot = FF at *
  obtain ⟨F, fe⟩ := FF
  generalize quoL m d' t' = Q at *
  generalize keyOf s = K at *
  unfold Ag at HQ HK
  obtain ⟨Z, hZ⟩ : ∃ Z : List Int, Z = List.replicate 8 0 := ⟨_, rfl⟩
  have hZl : Z.length = 8 := by rw [hZ]; simp
  have hz26 : ∀ w, (zeroValue 26).run Tryz.prog w = .ok (.agg (Z.map (Value.int .u32)).toArray) w := fun w => by rw [Tryz.zeroValue26, hZ]; rfl
  obtain ⟨Z2, hZ2⟩ : ∃ Z : List Int, Z = List.replicate 24 0 := ⟨_, rfl⟩
  have hZ2l : Z2.length = 24 := by rw [hZ2]; simp
  have hz28 : ∀ w, (zeroValue 28).run Tryz.prog w = .ok (.agg (Z2.map (Value.int .u32)).toArray) w := fun w => by rw [Tryz.zeroValue28, hZ2]; rfl
  obtain ⟨X, hX⟩ : ∃ X, X = ((W.alloc (Obj.cells #[.slice (some ⟨gq, 0, none⟩) (n + 120) cq, .bool ot] 24)).alloc (Obj.cells #[.slice ap n cp, .bool ot] 24)).alloc (Obj.cells C.toArray 30) := ⟨_, rfl⟩
  have Y0 : Hid (S21 W gq cq ap n cp ot C X) := hid (by
    refine ⟨by rw [hX]; exact below_on (below_on (below_one W _) (below_one _ _)) (below_one _ _), ?_, ?_, ?_⟩
    · rw [hX]; exact Cel.on (Cel.on (heap_alloc_new _ _) (below_one _ _)) (below_one _ _)
    · rw [hX]; exact Cel.on (heap_alloc_new' (by simp) _) (below_one _ _)
    · rw [hX]; exact heap_alloc_new' (by simp) _)
  clear hE hT hR h1 h2 ok ml h1R hZ hZ2 hC wd' wk wt' ws wo wm wd wt hd ht hd' ht'
  go_enter Tryz.func21, Tryz.ntmps21
  go_upto_region 1 with fail
  rw [← hX]
  clear hX
  go_upto_region 2 with (first | (refine wpList_load_mid rfl 24 _ rfl W.heap.size 0 rfl [.slice (some ⟨gq, 0, none⟩) (n + 120) cq, .bool ot] _ (cel_range Y0.out.q3) Tryz.underlying24 rfl size36 ?_) | (go_at_call 30; refine (HP.out _).mono ?_; rintro e w1 ⟨rfl, hb⟩; have Y1 := hid (Y0.out.on hb); clear hb Y0) | (go_at_call 29; refine (HF.out _ Y1.out.bl).mono ?_; rintro e w2 ⟨rfl, hb⟩; have Y2 := hid (Y1.out.on hb); clear hb Y1))
  go_upto_region 3 with (first | (refine wpList_load_mid rfl 24 _ rfl (W.heap.size + 1) 0 rfl [.slice ap n cp, .bool ot] _ (cel_range Y2.out.p4) Tryz.underlying24 rfl size36 ?_) | (go_at_call 32; refine (HDo.out _ Y2.out.bl).mono ?_; rintro e w3 ⟨ad, cd, rfl, hra, hb⟩; have Y3 := hid (Y2.out.on hb); have RA3 := hid hra; clear hb hra Y2) | (go_at_call 31; refine (HF31.out _ ad cd RA3.out).mono ?_; rintro e w4 ⟨rfl, hb⟩; have Y4 := hid (Y3.out.on hb); clear hb Y3 RA3))
  go_upto_region 5 with (first | (go_at_call 7; refine (HNum.out _ _).mono ?_; rintro e w0 ⟨rfl, hw⟩; subst w0))
  go_upto_region 6 with (first | (refine wpList_load_mid rfl 30 _ rfl (W.heap.size + 1 + 1) 0 rfl C _ (cel_range Y4.out.c5) Tryz.underlying30 rfl (by rw [hCl]; exact size40) ?_) | (go_at_call 33; refine (HQ.out _ Y4.out.bl).mono ?_; rintro e w5 ⟨rfl, hb⟩; have Y5 := hid (Y4.out.on hb); clear hb Y4) | (refine wpList_store_but rfl 28 _ _ rfl w5.heap.size Q rfl rfl (Blk.new w5 .u32 28 Z2) (by rw [hQl]; exact size38) (by rw [hZ2l, hQl]) ?_; intro w6 bA hbt hsz; have Y6 : Hid (S21 W gq cq ap n cp ot C w6 ∧ Cel w6 w5.heap.size 28 (Q.map (Value.int .u32))) := hid ⟨Y5.out.on (but_box hbt), blk_cel bA⟩; clear bA hbt hsz Y5))
  generalize w5.heap.size = gx at *
  go_upto_region 7 with (first | (refine wpList_load_mid rfl 26 _ rfl (W.heap.size + 1 + 1) 0 rfl (s.map (Value.int .u32)) _ (HCs.out _ _ Y6.out.1.c5).1 Tryz.underlying26 rfl (by rw [List.length_map, hs]; exact size26) ?_) | (go_at_call 34; refine (HK.out _ Y6.out.1.bl).mono ?_; rintro e w7 ⟨rfl, hb⟩; have Y7 : Hid (S21 W gq cq ap n cp ot C w7 ∧ Cel w7 gx 28 (Q.map (Value.int .u32))) := hid ⟨Y6.out.1.on hb, Y6.out.2.on hb⟩; clear hb Y6) | (refine wpList_store_but rfl 26 _ _ rfl w7.heap.size K rfl rfl (Blk.new w7 .u32 26 Z) (by rw [hk]; exact size26) (by rw [hZl, hk]) ?_; intro w8 bA hbt hsz; have Y8 : Hid (S22 W gq cq ap n cp ot C gx w7.heap.size Q K w8) := hid ⟨Y7.out.1.on (but_box hbt), Y7.out.2.on (but_box hbt), blk_cel bA⟩; clear bA hbt hsz Y7))
  generalize w7.heap.size = gy at *
  have Ya := hid (Y8.out.on (Below.refl _ _).drew)
  clear Y8
  refine wp_region_held_drew (S := fun w => S22 W gq cq ap n cp ot C gx gy Q K w) (by kernel_rfl) Ya.out (fun hHeld => ?_)
  generalize World.drew _ = wc at *
  refine tk 0 ⟨some 48, .load 24 (.tmp 3), 24, "law.go:183", #[], none⟩ (.agg #[.slice (some ⟨gq, 0, none⟩) (n + 120) cq, .bool ot]) ?_ (hy := yieldsIf_load_mid (by rfl) _ _ rfl _ _ rfl _ _ (fun w hSw => cel_range hSw.s.q3) Tryz.underlying24 rfl size36)
  simp only [Act.put, List.setIfInBounds_toArray, List.set_cons_zero, List.set_cons_succ]
  refine tk 2 ⟨some 50, .fieldAddr 28 (.tmp 11) 0, 0, "law.go:183", #[], none⟩ (.pointer (some ⟨gx, 0, none⟩)) ?_
  simp only [Act.put, List.setIfInBounds_toArray, List.set_cons_zero, List.set_cons_succ]
  refine tk 3 ⟨some 51, .load 26 (.tmp 50), 26, "law.go:183", #[⟨2, .data⟩], none⟩ (.agg (m.map (Value.int .u32)).toArray) ?_ (hy := yieldsIf_load_mid (by rfl) _ _ rfl _ _ rfl _ _ (fun w hSw => HQ0.out _ _ hSw.q11) Tryz.underlying26 rfl (by rw [List.length_map, hm]; exact size26))
  simp only [Act.put, List.setIfInBounds_toArray, List.set_cons_zero, List.set_cons_succ]
  refine wpAnyH_ready (rs := [1]) (by kernel_rfl) (by simp) (AllReadyH.cons (o := ⟨some 49, .call { callee := .value (.func 30), args := #[.tmp 48], argTypes := #[24] }, 24, "law.go:183", #[⟨0, .data⟩], none⟩) rfl (fun KQ hK => ?_) AllReadyH.nil)
  go_simp
  refine (HP.out _).mono ?_
  rintro e wa ⟨rfl, hb⟩
  have Yb := hid (Ya.out.on hb)
  clear hb Ya
  go_wp2_with fail
  refine hK.out _ _ Yb.out (fun hHeld => ?_)
  clear hK KQ
  try simp only [Act.put, List.setIfInBounds_toArray, List.set_cons_zero, List.set_cons_succ]
  refine wpAnyH_ready (rs := [4]) (by kernel_rfl) (by simp) (AllReadyH.cons (o := ⟨some 52, .call { callee := .value (.func 35), args := #[.tmp 49, .tmp 51], argTypes := #[24, 26] }, 90, "law.go:183", #[⟨1, .data⟩, ⟨3, .data⟩, ⟨1, .chain⟩], none⟩) rfl (fun KQ hK => ?_) AllReadyH.nil)
  go_simp
  refine (HE35.out _ Yb.out.s.bl).mono ?_
  rintro e wb ⟨rfl, hb⟩
  have Yc := hid (Yb.out.on hb)
  clear hb Yb
  go_wp2_with fail
  refine hK.out _ _ Yc.out (fun hHeld => ?_)
  clear hK KQ
  try simp only [Act.put, List.setIfInBounds_toArray, List.set_cons_zero, List.set_cons_succ]
  refine tk 5 ⟨some 47, .move (.tmp 52), 90, "law.go:183", #[⟨4, .data⟩], none⟩ (.tuple #[.bool da, .string dn]) ?_
  simp only [Act.put, List.setIfInBounds_toArray, List.set_cons_zero, List.set_cons_succ]
  refine tk 6 ⟨some 53, .extract (.tmp 47) 0, 4, "law.go:183", #[⟨5, .data⟩], none⟩ (.bool da) ?_
  simp only [Act.put, List.setIfInBounds_toArray, List.set_cons_zero, List.set_cons_succ]
  refine tk 7 ⟨some 54, .extract (.tmp 47) 1, 9, "law.go:183", #[⟨5, .data⟩, { on := 8, ground := .gcOnly Departure.lateStores }], none⟩ (.string dn) ?_
  simp only [Act.put, List.setIfInBounds_toArray, List.set_cons_zero, List.set_cons_succ]
  refine wpAnyH_ready (rs := [8]) (by kernel_rfl) (by simp) (AllReadyH.cons (o := ⟨some 13, .assign (.tmp 53), 4, "law.go:183", #[⟨6, .data⟩, ⟨4, .chain⟩, ⟨0, .phase⟩, ⟨1, .phase⟩, ⟨2, .phase⟩, ⟨3, .phase⟩, ⟨4, .phase⟩, ⟨5, .phase⟩, ⟨6, .phase⟩, { on := 7, ground := .textOnly Departure.lateStores }], none⟩) rfl (fun KQ hK => ?_) AllReadyH.nil)
  go_simp
  refine hK.out _ _ Yc.out (fun hHeld => ?_)
  clear hK KQ
  try simp only [Act.put, List.setIfInBounds_toArray, List.set_cons_zero, List.set_cons_succ]
  refine wpAnyH_ready (rs := [9]) (by kernel_rfl) (by simp) (AllReadyH.cons (o := ⟨some 14, .assign (.tmp 54), 9, "law.go:183", #[⟨7, .data⟩, ⟨8, .chain⟩, ⟨0, .phase⟩, ⟨1, .phase⟩, ⟨2, .phase⟩, ⟨3, .phase⟩, ⟨4, .phase⟩, ⟨5, .phase⟩, ⟨6, .phase⟩, ⟨7, .phase⟩, ⟨8, .phase⟩], none⟩) rfl (fun KQ hK => ?_) AllReadyH.nil)
  go_simp
  refine hK.out _ _ Yc.out (fun hHeld => ?_)
  clear hK KQ
  try simp only [Act.put, List.setIfInBounds_toArray, List.set_cons_zero, List.set_cons_succ]
  refine wpAnyH_done (by kernel_rfl) ?_ _
  go_upto_region 8 with fail
  have Yd := hid (Yc.out.on (Below.refl _ _).drew)
  clear Yc
  refine wp_region_held_drew (S := fun w => S22 W gq cq ap n cp ot C gx gy Q K w) (by kernel_rfl) Yd.out (fun hHeld => ?_)
  generalize World.drew _ = wf at *
  refine tk 0 ⟨some 56, .load 24 (.tmp 4), 24, "law.go:184", #[], none⟩ (.agg #[.slice ap n cp, .bool ot]) ?_ (hy := yieldsIf_load_mid (by rfl) _ _ rfl _ _ rfl _ _ (fun w hSw => cel_range hSw.s.p4) Tryz.underlying24 rfl size36)
  simp only [Act.put, List.setIfInBounds_toArray, List.set_cons_zero, List.set_cons_succ]
  refine tk 2 ⟨some 58, .fieldAddr 28 (.tmp 11) 0, 0, "law.go:184", #[], none⟩ (.pointer (some ⟨gx, 0, none⟩)) ?_
  simp only [Act.put, List.setIfInBounds_toArray, List.set_cons_zero, List.set_cons_succ]
  refine tk 3 ⟨some 59, .load 26 (.tmp 58), 26, "law.go:184", #[⟨2, .data⟩], none⟩ (.agg (m.map (Value.int .u32)).toArray) ?_ (hy := yieldsIf_load_mid (by rfl) _ _ rfl _ _ rfl _ _ (fun w hSw => HQ0.out _ _ hSw.q11) Tryz.underlying26 rfl (by rw [List.length_map, hm]; exact size26))
  simp only [Act.put, List.setIfInBounds_toArray, List.set_cons_zero, List.set_cons_succ]
  refine wpAnyH_ready (rs := [1]) (by kernel_rfl) (by simp) (AllReadyH.cons (o := ⟨some 57, .call { callee := .value (.func 32), args := #[.tmp 56], argTypes := #[24] }, 36, "law.go:184", #[⟨0, .data⟩], none⟩) rfl (fun KQ hK => ?_) AllReadyH.nil)
  go_simp
  refine (HDo.out _ Yd.out.s.bl).mono ?_
  rintro e wd ⟨ad, cd, rfl, hra, hb⟩
  have Ye := hid (Yd.out.on hb)
  have RA := hid hra
  clear hra
  clear hb Yd
  go_wp2_with fail
  refine hK.out _ _ Ye.out (fun hHeld => ?_)
  clear hK KQ
  try simp only [Act.put, List.setIfInBounds_toArray, List.set_cons_zero, List.set_cons_succ]
  refine wpAnyH_ready (rs := [4]) (by kernel_rfl) (by simp) (AllReadyH.cons (o := ⟨some 60, .call { callee := .value (.func 36), args := #[.tmp 57, .tmp 59], argTypes := #[36, 26] }, 90, "law.go:184", #[⟨1, .data⟩, ⟨3, .data⟩, ⟨1, .chain⟩], none⟩) rfl (fun KQ hK => ?_) AllReadyH.nil)
  go_simp
  refine (HE36.out _ ad cd RA.out).mono ?_
  rintro e we ⟨rfl, hb⟩
  have Yf := hid (Ye.out.on hb)
  clear RA
  clear hb Ye
  go_wp2_with fail
  refine hK.out _ _ Yf.out (fun hHeld => ?_)
  clear hK KQ
  try simp only [Act.put, List.setIfInBounds_toArray, List.set_cons_zero, List.set_cons_succ]
  refine tk 5 ⟨some 55, .move (.tmp 60), 90, "law.go:184", #[⟨4, .data⟩], none⟩ (.tuple #[.bool da, .string dn]) ?_
  simp only [Act.put, List.setIfInBounds_toArray, List.set_cons_zero, List.set_cons_succ]
  refine tk 6 ⟨some 61, .extract (.tmp 55) 0, 4, "law.go:184", #[⟨5, .data⟩], none⟩ (.bool da) ?_
  simp only [Act.put, List.setIfInBounds_toArray, List.set_cons_zero, List.set_cons_succ]
  refine tk 7 ⟨some 62, .extract (.tmp 55) 1, 9, "law.go:184", #[⟨5, .data⟩, { on := 8, ground := .gcOnly Departure.lateStores }], none⟩ (.string dn) ?_
  simp only [Act.put, List.setIfInBounds_toArray, List.set_cons_zero, List.set_cons_succ]
  refine wpAnyH_ready (rs := [8]) (by kernel_rfl) (by simp) (AllReadyH.cons (o := ⟨some 15, .assign (.tmp 61), 4, "law.go:184", #[⟨6, .data⟩, ⟨4, .chain⟩, ⟨0, .phase⟩, ⟨1, .phase⟩, ⟨2, .phase⟩, ⟨3, .phase⟩, ⟨4, .phase⟩, ⟨5, .phase⟩, ⟨6, .phase⟩, { on := 7, ground := .textOnly Departure.lateStores }], none⟩) rfl (fun KQ hK => ?_) AllReadyH.nil)
  go_simp
  refine hK.out _ _ Yf.out (fun hHeld => ?_)
  clear hK KQ
  try simp only [Act.put, List.setIfInBounds_toArray, List.set_cons_zero, List.set_cons_succ]
  refine wpAnyH_ready (rs := [9]) (by kernel_rfl) (by simp) (AllReadyH.cons (o := ⟨some 16, .assign (.tmp 62), 9, "law.go:184", #[⟨7, .data⟩, ⟨8, .chain⟩, ⟨0, .phase⟩, ⟨1, .phase⟩, ⟨2, .phase⟩, ⟨3, .phase⟩, ⟨4, .phase⟩, ⟨5, .phase⟩, ⟨6, .phase⟩, ⟨7, .phase⟩, ⟨8, .phase⟩], none⟩) rfl (fun KQ hK => ?_) AllReadyH.nil)
  go_simp
  refine hK.out _ _ Yf.out (fun hHeld => ?_)
  clear hK KQ
  try simp only [Act.put, List.setIfInBounds_toArray, List.set_cons_zero, List.set_cons_succ]
  refine wpAnyH_done (by kernel_rfl) ?_ _
  go_upto_region 9 with fail
  have Yg := hid (Yf.out.on (Below.refl _ _).drew)
  clear Yf
  refine wp_region_held_drew (S := fun w => S22 W gq cq ap n cp ot C gx gy Q K w) (by kernel_rfl) Yg.out (fun hHeld => ?_)
  generalize World.drew _ = wi at *
  refine tk 0 ⟨some 64, .load 26 (.tmp 12), 26, "law.go:185", #[], none⟩ (.agg (K.map (Value.int .u32)).toArray) ?_ (hy := yieldsIf_load_mid (by rfl) _ _ rfl _ _ rfl _ _ (fun w hSw => cel_range hSw.k12) Tryz.underlying26 rfl (by rw [List.length_map, hk]; exact size26))
  simp only [Act.put, List.setIfInBounds_toArray, List.set_cons_zero, List.set_cons_succ]
  refine tk 1 ⟨some 65, .load 24 (.tmp 3), 24, "law.go:185", #[], none⟩ (.agg #[.slice (some ⟨gq, 0, none⟩) (n + 120) cq, .bool ot]) ?_ (hy := yieldsIf_load_mid (by rfl) _ _ rfl _ _ rfl _ _ (fun w hSw => cel_range hSw.s.q3) Tryz.underlying24 rfl size36)
  simp only [Act.put, List.setIfInBounds_toArray, List.set_cons_zero, List.set_cons_succ]
  refine tk 3 ⟨some 67, .load 28 (.tmp 11), 28, "law.go:185", #[], none⟩ (.agg (Q.map (Value.int .u32)).toArray) ?_ (hy := yieldsIf_load_mid (by rfl) _ _ rfl _ _ rfl _ _ (fun w hSw => cel_range hSw.q11) Tryz.underlying28 rfl (by rw [List.length_map, hQl]; exact size38))
  simp only [Act.put, List.setIfInBounds_toArray, List.set_cons_zero, List.set_cons_succ]
  refine tk 4 ⟨some 68, .fieldAddr 30 (.tmp 5) 1, 0, "law.go:185", #[], none⟩ (.pointer (some ⟨W.heap.size + 1 + 1, 8, none⟩)) ?_
  simp only [Act.put, List.setIfInBounds_toArray, List.set_cons_zero, List.set_cons_succ]
  refine tk 5 ⟨some 69, .load 26 (.tmp 68), 26, "law.go:185", #[⟨4, .data⟩], none⟩ (.agg (o.map (Value.int .u32)).toArray) ?_ (hy := yieldsIf_load_mid (by rfl) _ _ rfl _ _ rfl _ _ (fun w hSw => (HCs.out _ _ hSw.s.c5).2) Tryz.underlying26 rfl (by rw [List.length_map, ho]; exact size26))
  simp only [Act.put, List.setIfInBounds_toArray, List.set_cons_zero, List.set_cons_succ]
  refine wpAnyH_ready (rs := [2]) (by kernel_rfl) (by simp) (AllReadyH.cons (o := ⟨some 66, .call { callee := .value (.func 30), args := #[.tmp 65], argTypes := #[24] }, 24, "law.go:185", #[⟨1, .data⟩], none⟩) rfl (fun KQ hK => ?_) AllReadyH.nil)
  go_simp
  refine (HP.out _).mono ?_
  rintro e wg ⟨rfl, hb⟩
  have Yh := hid (Yg.out.on hb)
  clear hb Yg
  go_wp2_with fail
  refine hK.out _ _ Yh.out (fun hHeld => ?_)
  clear hK KQ
  try simp only [Act.put, List.setIfInBounds_toArray, List.set_cons_zero, List.set_cons_succ]
  refine wpAnyH_ready (rs := [6]) (by kernel_rfl) (by simp) (AllReadyH.cons (o := ⟨some 70, .call { callee := .value (.func 37), args := #[.tmp 64, .tmp 66, .tmp 67, .tmp 69], argTypes := #[26, 24, 28, 26] }, 83, "law.go:185", #[⟨0, .data⟩, ⟨2, .data⟩, ⟨3, .data⟩, ⟨5, .data⟩, ⟨2, .chain⟩], none⟩) rfl (fun KQ hK => ?_) AllReadyH.nil)
  go_simp
  refine (HJ37.out _ Yh.out.s.bl).mono ?_
  rintro e wh ⟨rfl, hb⟩
  have Yi := hid (Yh.out.on hb)
  clear hb Yh
  go_wp2_with fail
  refine hK.out _ _ Yi.out (fun hHeld => ?_)
  clear hK KQ
  try simp only [Act.put, List.setIfInBounds_toArray, List.set_cons_zero, List.set_cons_succ]
  refine tk 7 ⟨some 63, .move (.tmp 70), 83, "law.go:185", #[⟨6, .data⟩], none⟩ (.tuple #[.string jx, .int .i64 ji]) ?_
  simp only [Act.put, List.setIfInBounds_toArray, List.set_cons_zero, List.set_cons_succ]
  refine tk 8 ⟨some 71, .extract (.tmp 63) 0, 9, "law.go:185", #[⟨7, .data⟩], none⟩ (.string jx) ?_
  simp only [Act.put, List.setIfInBounds_toArray, List.set_cons_zero, List.set_cons_succ]
  refine tk 9 ⟨some 72, .extract (.tmp 63) 1, 31, "law.go:185", #[⟨7, .data⟩, { on := 10, ground := .gcOnly Departure.lateStores }], none⟩ (.int .i64 ji) ?_
  simp only [Act.put, List.setIfInBounds_toArray, List.set_cons_zero, List.set_cons_succ]
  refine wpAnyH_ready (rs := [10]) (by kernel_rfl) (by simp) (AllReadyH.cons (o := ⟨some 17, .assign (.tmp 71), 9, "law.go:185", #[⟨8, .data⟩, ⟨6, .chain⟩, ⟨0, .phase⟩, ⟨1, .phase⟩, ⟨2, .phase⟩, ⟨3, .phase⟩, ⟨4, .phase⟩, ⟨5, .phase⟩, ⟨6, .phase⟩, ⟨7, .phase⟩, ⟨8, .phase⟩, { on := 9, ground := .textOnly Departure.lateStores }], none⟩) rfl (fun KQ hK => ?_) AllReadyH.nil)
  go_simp
  refine hK.out _ _ Yi.out (fun hHeld => ?_)
  clear hK KQ
  try simp only [Act.put, List.setIfInBounds_toArray, List.set_cons_zero, List.set_cons_succ]
  refine wpAnyH_ready (rs := [11]) (by kernel_rfl) (by simp) (AllReadyH.cons (o := ⟨some 18, .assign (.tmp 72), 31, "law.go:185", #[⟨9, .data⟩, ⟨10, .chain⟩, ⟨0, .phase⟩, ⟨1, .phase⟩, ⟨2, .phase⟩, ⟨3, .phase⟩, ⟨4, .phase⟩, ⟨5, .phase⟩, ⟨6, .phase⟩, ⟨7, .phase⟩, ⟨8, .phase⟩, ⟨9, .phase⟩, ⟨10, .phase⟩], none⟩) rfl (fun KQ hK => ?_) AllReadyH.nil)
  go_simp
  refine hK.out _ _ Yi.out (fun hHeld => ?_)
  clear hK KQ
  try simp only [Act.put, List.setIfInBounds_toArray, List.set_cons_zero, List.set_cons_succ]
  refine wpAnyH_done (by kernel_rfl) ?_ _
  go_upto_region 10 with fail
  have Yj := hid (Yi.out.on (Below.refl _ _).drew)
  clear Yi
  refine wp_region_held_drew (S := fun w => S22 W gq cq ap n cp ot C gx gy Q K w) (by kernel_rfl) Yj.out (fun hHeld => ?_)
  generalize World.drew _ = wm at *
  refine tk 0 ⟨some 74, .load 26 (.tmp 12), 26, "law.go:186", #[], none⟩ (.agg (K.map (Value.int .u32)).toArray) ?_ (hy := yieldsIf_load_mid (by rfl) _ _ rfl _ _ rfl _ _ (fun w hSw => cel_range hSw.k12) Tryz.underlying26 rfl (by rw [List.length_map, hk]; exact size26))
  simp only [Act.put, List.setIfInBounds_toArray, List.set_cons_zero, List.set_cons_succ]
  refine tk 1 ⟨some 75, .load 24 (.tmp 4), 24, "law.go:186", #[], none⟩ (.agg #[.slice ap n cp, .bool ot]) ?_ (hy := yieldsIf_load_mid (by rfl) _ _ rfl _ _ rfl _ _ (fun w hSw => cel_range hSw.s.p4) Tryz.underlying24 rfl size36)
  simp only [Act.put, List.setIfInBounds_toArray, List.set_cons_zero, List.set_cons_succ]
  refine tk 3 ⟨some 77, .load 28 (.tmp 11), 28, "law.go:186", #[], none⟩ (.agg (Q.map (Value.int .u32)).toArray) ?_ (hy := yieldsIf_load_mid (by rfl) _ _ rfl _ _ rfl _ _ (fun w hSw => cel_range hSw.q11) Tryz.underlying28 rfl (by rw [List.length_map, hQl]; exact size38))
  simp only [Act.put, List.setIfInBounds_toArray, List.set_cons_zero, List.set_cons_succ]
  refine tk 5 ⟨some 79, .fieldAddr 30 (.tmp 5) 1, 0, "law.go:186", #[], none⟩ (.pointer (some ⟨W.heap.size + 1 + 1, 8, none⟩)) ?_
  simp only [Act.put, List.setIfInBounds_toArray, List.set_cons_zero, List.set_cons_succ]
  refine tk 6 ⟨some 80, .load 26 (.tmp 79), 26, "law.go:186", #[⟨5, .data⟩], none⟩ (.agg (o.map (Value.int .u32)).toArray) ?_ (hy := yieldsIf_load_mid (by rfl) _ _ rfl _ _ rfl _ _ (fun w hSw => (HCs.out _ _ hSw.s.c5).2) Tryz.underlying26 rfl (by rw [List.length_map, ho]; exact size26))
  simp only [Act.put, List.setIfInBounds_toArray, List.set_cons_zero, List.set_cons_succ]
  refine wpAnyH_ready (rs := [2]) (by kernel_rfl) (by simp) (AllReadyH.cons (o := ⟨some 76, .call { callee := .value (.func 32), args := #[.tmp 75], argTypes := #[24] }, 36, "law.go:186", #[⟨1, .data⟩], none⟩) rfl (fun KQ hK => ?_) AllReadyH.nil)
  go_simp
  refine (HDo.out _ Yj.out.s.bl).mono ?_
  rintro e wj ⟨ad, cd, rfl, hra, hb⟩
  have Yk := hid (Yj.out.on hb)
  have RA := hid hra
  clear hra
  clear hb Yj
  go_wp2_with fail
  refine hK.out _ _ Yk.out (fun hHeld => ?_)
  clear hK KQ
  try simp only [Act.put, List.setIfInBounds_toArray, List.set_cons_zero, List.set_cons_succ]
  refine wpAnyH_ready (rs := [4]) (by kernel_rfl) (by simp) (AllReadyH.cons (o := ⟨some 78, .call { callee := .value (.func 39), args := #[.tmp 77], argTypes := #[28] }, 95, "law.go:186", #[⟨3, .data⟩, ⟨2, .chain⟩], none⟩) rfl (fun KQ hK => ?_) AllReadyH.nil)
  go_simp
  refine (HO39.out _).mono ?_
  rintro e wk ⟨rfl, hb⟩
  have Yl := hid (Yk.out.on hb)
  have RB := hid (RA.out.on hb)
  clear RA
  clear hb Yk
  go_wp2_with fail
  refine hK.out _ _ Yl.out (fun hHeld => ?_)
  clear hK KQ
  try simp only [Act.put, List.setIfInBounds_toArray, List.set_cons_zero, List.set_cons_succ]
  refine wpAnyH_ready (rs := [7]) (by kernel_rfl) (by simp) (AllReadyH.cons (o := ⟨some 81, .call { callee := .value (.func 38), args := #[.tmp 74, .tmp 76, .tmp 78, .tmp 80], argTypes := #[26, 36, 95, 26] }, 85, "law.go:186", #[⟨0, .data⟩, ⟨2, .data⟩, ⟨4, .data⟩, ⟨6, .data⟩, ⟨4, .chain⟩], none⟩) rfl (fun KQ hK => ?_) AllReadyH.nil)
  go_simp
  refine (HJ38.out _ ad cd Yl.out.s.bl RB.out).mono ?_
  rintro e wl ⟨rfl, hb⟩
  have Ym := hid (Yl.out.on hb)
  clear RB
  clear hb Yl
  go_wp2_with fail
  refine hK.out _ _ Ym.out (fun hHeld => ?_)
  clear hK KQ
  try simp only [Act.put, List.setIfInBounds_toArray, List.set_cons_zero, List.set_cons_succ]
  refine tk 8 ⟨some 73, .move (.tmp 81), 85, "law.go:186", #[⟨7, .data⟩], none⟩ (.tuple #[.string jx, .int .i64 ji]) ?_
  simp only [Act.put, List.setIfInBounds_toArray, List.set_cons_zero, List.set_cons_succ]
  refine tk 9 ⟨some 82, .extract (.tmp 73) 0, 9, "law.go:186", #[⟨8, .data⟩], none⟩ (.string jx) ?_
  simp only [Act.put, List.setIfInBounds_toArray, List.set_cons_zero, List.set_cons_succ]
  refine tk 10 ⟨some 83, .extract (.tmp 73) 1, 3, "law.go:186", #[⟨8, .data⟩, { on := 11, ground := .gcOnly Departure.lateStores }], none⟩ (.int .i64 ji) ?_
  simp only [Act.put, List.setIfInBounds_toArray, List.set_cons_zero, List.set_cons_succ]
  refine wpAnyH_ready (rs := [11]) (by kernel_rfl) (by simp) (AllReadyH.cons (o := ⟨some 19, .assign (.tmp 82), 9, "law.go:186", #[⟨9, .data⟩, ⟨7, .chain⟩, ⟨0, .phase⟩, ⟨1, .phase⟩, ⟨2, .phase⟩, ⟨3, .phase⟩, ⟨4, .phase⟩, ⟨5, .phase⟩, ⟨6, .phase⟩, ⟨7, .phase⟩, ⟨8, .phase⟩, ⟨9, .phase⟩, { on := 10, ground := .textOnly Departure.lateStores }], none⟩) rfl (fun KQ hK => ?_) AllReadyH.nil)
  go_simp
  refine hK.out _ _ Ym.out (fun hHeld => ?_)
  clear hK KQ
  try simp only [Act.put, List.setIfInBounds_toArray, List.set_cons_zero, List.set_cons_succ]
  refine wpAnyH_ready (rs := [12]) (by kernel_rfl) (by simp) (AllReadyH.cons (o := ⟨some 20, .assign (.tmp 83), 3, "law.go:186", #[⟨10, .data⟩, ⟨11, .chain⟩, ⟨0, .phase⟩, ⟨1, .phase⟩, ⟨2, .phase⟩, ⟨3, .phase⟩, ⟨4, .phase⟩, ⟨5, .phase⟩, ⟨6, .phase⟩, ⟨7, .phase⟩, ⟨8, .phase⟩, ⟨9, .phase⟩, ⟨10, .phase⟩, ⟨11, .phase⟩], none⟩) rfl (fun KQ hK => ?_) AllReadyH.nil)
  go_simp
  refine hK.out _ _ Ym.out (fun hHeld => ?_)
  clear hK KQ
  try simp only [Act.put, List.setIfInBounds_toArray, List.set_cons_zero, List.set_cons_succ]
  refine wpAnyH_done (by kernel_rfl) ?_ _
  go_wp2_with (first | (go_at_call 7; refine (HNum.out _ _).mono ?_; rintro e w0 ⟨rfl, hw⟩; subst w0) | (refine wpList_load_mg (by rfl) 24 _ rfl W.heap.size 0 rfl [.slice (some ⟨gq, 0, none⟩) (n + 120) cq, .bool ot] _ (cel_range Ym.out.s.q3) Tryz.underlying24 rfl size36 ?_) | (refine wpList_load_mg (by rfl) 24 _ rfl (W.heap.size + 1) 0 rfl [.slice ap n cp, .bool ot] _ (cel_range Ym.out.s.p4) Tryz.underlying24 rfl size36 ?_) | (go_at_call 40; refine (HKe.out _ Ym.out.s.bl).mono ?_; rintro e wq ⟨rfl, hb⟩; have Yn := hid (below_on Ym.out.s.bl hb); clear hb Ym))
  go_ret
  exact ⟨rfl, Yn.out⟩
end Go.Proofs.YtbpdmkohihgnjaaGreatDoor
