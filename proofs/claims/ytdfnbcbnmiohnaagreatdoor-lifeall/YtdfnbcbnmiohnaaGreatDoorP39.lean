import Derived.Test.YtdfnbcbnmiohnaaGreatDoorP38
import Derived.Test.YtdfnbcbnmiohnaaGreatDoorP01
import Derived.Deep.RegionHeld3
namespace Go.Proofs.YtdfnbcbnmiohnaaGreatDoor
open Go.RowKit
set_option maxRecDepth 100000
set_option maxHeartbeats 4000000
def DS.rmT (d : DS) (x : En) : Int := if x.t = 0 then 23 else if x.t = 1 then spcC x.s x.r else if x.t = 6 then 0 else prtC (d.ent x.o).s
def DS.rmC (d : DS) (q : Int) : Int := if q < (d.m.ns : Int) then d.rmT (d.ent q) else 1
def DS.rmD (d : DS) (q : Int) : DS := if d.rmC q = 0 then d.give q else d
theorem ten_built (g : Nat) (t o r s : Int) (e : Bool) : Tryz.prog.built 127 [(0, .pointer (some ⟨g, 0, none⟩)), (1, .agg #[.int .i64 t, .int .i64 o, .int .i64 r, .int .i64 s, .bool e])] = some #[.pointer (some ⟨g, 0, none⟩), .int .i64 t, .int .i64 o, .int .i64 r, .int .i64 s, .bool e] := by kernel_rfl
theorem wpList_ten {ops : Array Oper} {rest : List Oper} {o : Oper} {a : Act} {w : World} {Q : Exit → Act → World → Prop} (hgd : o.guard = none) (x y : Operand) (ho : o.op = .build 127 #[(0, x), (1, y)]) (g : Nat) (t o' r s : Int) (e : Bool) (hx : a.eval x = .pointer (some ⟨g, 0, none⟩)) (hy : a.eval y = .agg #[.int .i64 t, .int .i64 o', .int .i64 r, .int .i64 s, .bool e])
    (h : wpList Tryz.prog ops Q rest (a.put o.dst (.agg #[.pointer (some ⟨g, 0, none⟩), .int .i64 t, .int .i64 o', .int .i64 r, .int .i64 s, .bool e])) w) : wpList Tryz.prog ops Q (o :: rest) a w :=
  wpList_build_f hgd 127 _ ho #[(0, .pointer (some ⟨g, 0, none⟩)), (1, .agg #[.int .i64 t, .int .i64 o', .int .i64 r, .int .i64 s, .bool e])] (by simp [hx, hy]) _ (ten_built g t o' r s e) h
theorem ent_t {d : DS} (h : d.Ok) (q : Int) : 0 ≤ (d.ent q).t ∧ (d.ent q).t ≤ 6 := by
  unfold DS.ent
  split
  · rename_i hq
    have := (En.ok_iff _).1 (h.ok q.toNat (there_lt hq).2.1)
    exact ⟨this.t0, this.t1⟩
  · decide
theorem rmT_lt (d : DS) (x : En) : 0 ≤ d.rmT x ∧ d.rmT x < 64 := by
  unfold DS.rmT spcC prtC
  repeat' split <;> omega
theorem remove_0 (W : World) (p : Dp) (d : DS) (h : DB W p d) (q : Int) (q0 : 0 ≤ q) (q1 : q < (d.m.ns : Int)) (ht : (d.ent q).t = 0) :
    Calls Tryz.prog 29 #[ptr p.g, .int .u32 q] W fun e W' => e = .returned (.int .u32 (d.rmC q)) ∧ DB W' p (d.rmD q) ∧ ButL p.w W W' := by
  have D0 := hid (DG.start h p.w h.wlt)
  have HI := hid (isPage_any W p d h q)
  rw [decide_eq_true q1] at HI
  have HE := hid (fun u (hw : DB u p d) => entry_any u p d hw q)
  have hn := h.ok.n64
  have kx : IntKind.wrap .i64 q = q := by rw [IntKind.wrap_i64]; omega
  have kw : wrap64 q = q := by unfold wrap64; omega
  have hEE : d.entE q = 0 := by unfold DS.entE DS.there; rw [if_pos (decide_eq_true ⟨q0, q1⟩)]
  rw [hEE] at HE
  have hC : d.rmC q = d.rmT (d.ent q) := by unfold DS.rmC; rw [if_pos q1]
  have HGi := hid (fun u (hw : DB u p d) => give_any u p d hw q)
  have hD : d.rmD q = if d.rmT (d.ent q) = 0 then d.give q else d := by unfold DS.rmD; rw [hC]
  rw [hC, hD]
  have HRu := hid (fun u => rules_any u)
  clear hEE hn q0 q1 hC hD h
  have hl := rmT_lt d (d.ent q)
  generalize d.ent q = X at *
  obtain ⟨t', o, r, s, e⟩ := X
  simp only at ht
  subst ht
  have HFr := hid (fun u => asFree_any u p.g 0 o r s e)
  have HSr := hid (fun u => asSpare_any u p.g 0 o r s e)
  have HSp := hid (fun u => asSpace_any u p.g 0 o r s e)
  have HPa := hid (fun u (hw : DB u p d) => asPart_any u p d hw 0 o r s e)
  have hT : d.rmT ⟨0, o, r, s, e⟩ = 23 := rfl
  rw [hT] at hl ⊢
  clear hT
  generalize d.giveE q = ge at *
  generalize hde : d.give q = dg at *
  clear hde
  skip
  rw [if_neg (by decide)]
  simp only [ptr, En.v, En.cs] at *
  go_enter Tryz.func29, Tryz.ntmps29
  go_upto_region 4 with (first | (go_at_call 68; refine HI.out.mono ?_; rintro e w1 ⟨rfl, rfl⟩) | (go_at_call 45; refine (HE.out _ D0.out.db).mono ?_; rintro e w1 ⟨rfl, hb⟩; have D1 := hid (D0.out.on hb); clear hb) | (refine wpList_store_st rfl 30 _ _ rfl w1.heap.size [.int .i64 0, .int .i64 o, .int .i64 r, .int .i64 s, .bool e] rfl rfl (Cel.new w1 30 En.zero.cs) sizeE rfl rfl ?_; intro w2 hc hb hs; have D2 := hid (D1.out.add hc hb); clear hc hb hs))
  clear D0 D1 HI HE
  generalize w1.heap.size = g5 at *
  have D3 := hid (D2.out.on (Below.refl _ _).drew)
  clear D2
  refine wp_region_held_drew (S := fun w => Cel w g5 30 [.int .i64 0, .int .i64 o, .int .i64 r, .int .i64 s, .bool e]) (by kernel_rfl) (D3.out.get 0 rfl) (fun hHeld => ?_)
  generalize World.drew _ = w3 at *
  refine tk 1 (some 21) (.pointer (some ⟨g5, 0, none⟩)) ?_
  simp only [Act.put, tqA, tqZ, tqS]
  refine tk 2 (some 22) (.int .i64 0) ?_ (hy := Or.inl ⟨by rfl, by intro w hSw; have hc : w.cell? ⟨g5, 0, none⟩ = some (.int .i64 0) := hSw.cell 0; go_simp⟩)
  simp only [Act.put, tqA, tqZ, tqS]
  refine wpAnyH_ready (rs := [0]) (by kernel_rfl) (by simp) (AllReadyH.cons rfl (fun KQ hK => ?_) AllReadyH.nil)
  go_simp
  refine (HRu.out _).mono ?_
  rintro x w4 ⟨gm, rfl, hm, hb⟩
  have D4 := hid (D3.out.on hb)
  have M4 := hid (look_run w4 gm 7 rul 0 (fnv 114) 0 hm rfl)
  clear hm hb D3 HRu
  go_wp2_with fail
  refine hK.out _ _ (D4.out.get 0 rfl) (fun hHeld => ?_)
  clear hK KQ
  try simp only [Act.put, tqA, tqZ, tqS]
  refine wpAnyH_ready (rs := [3]) (by kernel_rfl) (by simp) (AllReadyH.cons rfl (fun KQ hK => ?_) AllReadyH.nil)
  have M5 := M4.out
  go_simp
  refine hK.out _ _ (D4.out.get 0 rfl) (fun hHeld => ?_)
  clear hK KQ M5 M4
  try simp only [Act.put, tqA, tqZ, tqS]
  refine wpAnyH_ready (rs := [4]) (by kernel_rfl) (by simp) (AllReadyH.cons rfl (fun KQ hK => ?_) AllReadyH.nil)
  go_simp
  refine hK.out _ _ (D4.out.get 0 rfl) (fun hHeld => ?_)
  clear hK KQ
  try simp only [Act.put, tqA, tqZ, tqS]
  refine wpAnyH_done (by kernel_rfl) ?_ _
  unfold fnv
  have D5 := hid D4.out
  clear D4
  go_upto_region 6 with (first | (refine wpList_load_mid rfl 30 _ rfl g5 0 rfl _ _ ((D5.out.get 0 rfl).range) underE rfl (by rw [sizeE]; rfl) ?_) | (refine wpList_ten rfl _ _ rfl p.g 0 o r s e rfl rfl ?_) | (go_at_call 114; refine (HFr.out _).mono ?_; rintro x w6 ⟨rfl, hb⟩; have D6 := hid (D5.out.on hb); clear hb))
  clear D5 HFr HSr HSp HPa
  have D7 := hid D6.out
  go_wp2_with fail
  go_ret
  exact ⟨rfl, D7.out.db, D7.out.but⟩
theorem remove_6 (W : World) (p : Dp) (d : DS) (h : DB W p d) (q : Int) (q0 : 0 ≤ q) (q1 : q < (d.m.ns : Int)) (ht : (d.ent q).t = 6) :
    Calls Tryz.prog 29 #[ptr p.g, .int .u32 q] W fun e W' => e = .returned (.int .u32 (d.rmC q)) ∧ DB W' p (d.rmD q) ∧ ButL p.w W W' := by
  have D0 := hid (DG.start h p.w h.wlt)
  have HI := hid (isPage_any W p d h q)
  rw [decide_eq_true q1] at HI
  have HE := hid (fun u (hw : DB u p d) => entry_any u p d hw q)
  have hn := h.ok.n64
  have kx : IntKind.wrap .i64 q = q := by rw [IntKind.wrap_i64]; omega
  have kw : wrap64 q = q := by unfold wrap64; omega
  have hEE : d.entE q = 0 := by unfold DS.entE DS.there; rw [if_pos (decide_eq_true ⟨q0, q1⟩)]
  rw [hEE] at HE
  have hC : d.rmC q = d.rmT (d.ent q) := by unfold DS.rmC; rw [if_pos q1]
  have HGi := hid (fun u (hw : DB u p d) => give_any u p d hw q)
  have hD : d.rmD q = if d.rmT (d.ent q) = 0 then d.give q else d := by unfold DS.rmD; rw [hC]
  rw [hC, hD]
  have HRu := hid (fun u => rules_any u)
  clear hEE hn q0 q1 hC hD h
  have hl := rmT_lt d (d.ent q)
  generalize d.ent q = X at *
  obtain ⟨t', o, r, s, e⟩ := X
  simp only at ht
  subst ht
  have HFr := hid (fun u => asFree_any u p.g 6 o r s e)
  have HSr := hid (fun u => asSpare_any u p.g 6 o r s e)
  have HSp := hid (fun u => asSpace_any u p.g 6 o r s e)
  have HPa := hid (fun u (hw : DB u p d) => asPart_any u p d hw 6 o r s e)
  have hT : d.rmT ⟨6, o, r, s, e⟩ = 0 := rfl
  rw [hT] at hl ⊢
  clear hT
  generalize d.giveE q = ge at *
  generalize hde : d.give q = dg at *
  clear hde
  skip
  rw [if_pos rfl]
  simp only [ptr, En.v, En.cs] at *
  go_enter Tryz.func29, Tryz.ntmps29
  go_upto_region 4 with (first | (go_at_call 68; refine HI.out.mono ?_; rintro e w1 ⟨rfl, rfl⟩) | (go_at_call 45; refine (HE.out _ D0.out.db).mono ?_; rintro e w1 ⟨rfl, hb⟩; have D1 := hid (D0.out.on hb); clear hb) | (refine wpList_store_st rfl 30 _ _ rfl w1.heap.size [.int .i64 6, .int .i64 o, .int .i64 r, .int .i64 s, .bool e] rfl rfl (Cel.new w1 30 En.zero.cs) sizeE rfl rfl ?_; intro w2 hc hb hs; have D2 := hid (D1.out.add hc hb); clear hc hb hs))
  clear D0 D1 HI HE
  generalize w1.heap.size = g5 at *
  have D3 := hid (D2.out.on (Below.refl _ _).drew)
  clear D2
  refine wp_region_held_drew (S := fun w => Cel w g5 30 [.int .i64 6, .int .i64 o, .int .i64 r, .int .i64 s, .bool e]) (by kernel_rfl) (D3.out.get 0 rfl) (fun hHeld => ?_)
  generalize World.drew _ = w3 at *
  refine tk 1 (some 21) (.pointer (some ⟨g5, 0, none⟩)) ?_
  simp only [Act.put, tqA, tqZ, tqS]
  refine tk 2 (some 22) (.int .i64 6) ?_ (hy := Or.inl ⟨by rfl, by intro w hSw; have hc : w.cell? ⟨g5, 0, none⟩ = some (.int .i64 6) := hSw.cell 0; go_simp⟩)
  simp only [Act.put, tqA, tqZ, tqS]
  refine wpAnyH_ready (rs := [0]) (by kernel_rfl) (by simp) (AllReadyH.cons rfl (fun KQ hK => ?_) AllReadyH.nil)
  go_simp
  refine (HRu.out _).mono ?_
  rintro x w4 ⟨gm, rfl, hm, hb⟩
  have D4 := hid (D3.out.on hb)
  have M4 := hid (look_run w4 gm 7 rul 6 (fnv 117) 6 hm rfl)
  clear hm hb D3 HRu
  go_wp2_with fail
  refine hK.out _ _ (D4.out.get 0 rfl) (fun hHeld => ?_)
  clear hK KQ
  try simp only [Act.put, tqA, tqZ, tqS]
  refine wpAnyH_ready (rs := [3]) (by kernel_rfl) (by simp) (AllReadyH.cons rfl (fun KQ hK => ?_) AllReadyH.nil)
  have M5 := M4.out
  go_simp
  refine hK.out _ _ (D4.out.get 0 rfl) (fun hHeld => ?_)
  clear hK KQ M5 M4
  try simp only [Act.put, tqA, tqZ, tqS]
  refine wpAnyH_ready (rs := [4]) (by kernel_rfl) (by simp) (AllReadyH.cons rfl (fun KQ hK => ?_) AllReadyH.nil)
  go_simp
  refine hK.out _ _ (D4.out.get 0 rfl) (fun hHeld => ?_)
  clear hK KQ
  try simp only [Act.put, tqA, tqZ, tqS]
  refine wpAnyH_done (by kernel_rfl) ?_ _
  unfold fnv
  have D5 := hid D4.out
  clear D4
  go_upto_region 6 with (first | (refine wpList_load_mid rfl 30 _ rfl g5 0 rfl _ _ ((D5.out.get 0 rfl).range) underE rfl (by rw [sizeE]; rfl) ?_) | (refine wpList_ten rfl _ _ rfl p.g 6 o r s e rfl rfl ?_) | (go_at_call 117; refine (HSr.out _).mono ?_; rintro x w6 ⟨rfl, hb⟩; have D6 := hid (D5.out.on hb); clear hb))
  clear D5 HFr HSr HSp HPa
  go_wp2_with (first | (go_at_call 70; refine (HGi.out _ D6.out.db).mono ?_; rintro x w7 ⟨rfl, hd, hb⟩; have D7 := hid (D6.out.step hd hb (fun _ hk => hk)); clear hd hb))
  go_ret
  exact ⟨rfl, D7.out.db, D7.out.but⟩
theorem remove_1 (W : World) (p : Dp) (d : DS) (h : DB W p d) (q : Int) (q0 : 0 ≤ q) (q1 : q < (d.m.ns : Int)) (ht : (d.ent q).t = 1) :
    Calls Tryz.prog 29 #[ptr p.g, .int .u32 q] W fun e W' => e = .returned (.int .u32 (d.rmC q)) ∧ DB W' p (d.rmD q) ∧ ButL p.w W W' := by
  have D0 := hid (DG.start h p.w h.wlt)
  have HI := hid (isPage_any W p d h q)
  rw [decide_eq_true q1] at HI
  have HE := hid (fun u (hw : DB u p d) => entry_any u p d hw q)
  have hn := h.ok.n64
  have kx : IntKind.wrap .i64 q = q := by rw [IntKind.wrap_i64]; omega
  have kw : wrap64 q = q := by unfold wrap64; omega
  have hEE : d.entE q = 0 := by unfold DS.entE DS.there; rw [if_pos (decide_eq_true ⟨q0, q1⟩)]
  rw [hEE] at HE
  have hC : d.rmC q = d.rmT (d.ent q) := by unfold DS.rmC; rw [if_pos q1]
  have HGi := hid (fun u (hw : DB u p d) => give_any u p d hw q)
  have hD : d.rmD q = if d.rmT (d.ent q) = 0 then d.give q else d := by unfold DS.rmD; rw [hC]
  rw [hC, hD]
  have HRu := hid (fun u => rules_any u)
  clear hEE hn q0 q1 hC hD h
  have hl := rmT_lt d (d.ent q)
  generalize d.ent q = X at *
  obtain ⟨t', o, r, s, e⟩ := X
  simp only at ht
  subst ht
  have HFr := hid (fun u => asFree_any u p.g 1 o r s e)
  have HSr := hid (fun u => asSpare_any u p.g 1 o r s e)
  have HSp := hid (fun u => asSpace_any u p.g 1 o r s e)
  have HPa := hid (fun u (hw : DB u p d) => asPart_any u p d hw 1 o r s e)
  have hT : d.rmT ⟨1, o, r, s, e⟩ = spcC s r := rfl
  rw [hT] at hl ⊢
  clear hT
  generalize d.giveE q = ge at *
  generalize hde : d.give q = dg at *
  clear hde
  generalize spcC s r = C at *
  by_cases hC : C = 0
  · subst hC
    rw [if_pos rfl]
    simp only [ptr, En.v, En.cs] at *
    go_enter Tryz.func29, Tryz.ntmps29
    go_upto_region 4 with (first | (go_at_call 68; refine HI.out.mono ?_; rintro e w1 ⟨rfl, rfl⟩) | (go_at_call 45; refine (HE.out _ D0.out.db).mono ?_; rintro e w1 ⟨rfl, hb⟩; have D1 := hid (D0.out.on hb); clear hb) | (refine wpList_store_st rfl 30 _ _ rfl w1.heap.size [.int .i64 1, .int .i64 o, .int .i64 r, .int .i64 s, .bool e] rfl rfl (Cel.new w1 30 En.zero.cs) sizeE rfl rfl ?_; intro w2 hc hb hs; have D2 := hid (D1.out.add hc hb); clear hc hb hs))
    clear D0 D1 HI HE
    generalize w1.heap.size = g5 at *
    have D3 := hid (D2.out.on (Below.refl _ _).drew)
    clear D2
    refine wp_region_held_drew (S := fun w => Cel w g5 30 [.int .i64 1, .int .i64 o, .int .i64 r, .int .i64 s, .bool e]) (by kernel_rfl) (D3.out.get 0 rfl) (fun hHeld => ?_)
    generalize World.drew _ = w3 at *
    refine tk 1 (some 21) (.pointer (some ⟨g5, 0, none⟩)) ?_
    simp only [Act.put, tqA, tqZ, tqS]
    refine tk 2 (some 22) (.int .i64 1) ?_ (hy := Or.inl ⟨by rfl, by intro w hSw; have hc : w.cell? ⟨g5, 0, none⟩ = some (.int .i64 1) := hSw.cell 0; go_simp⟩)
    simp only [Act.put, tqA, tqZ, tqS]
    refine wpAnyH_ready (rs := [0]) (by kernel_rfl) (by simp) (AllReadyH.cons rfl (fun KQ hK => ?_) AllReadyH.nil)
    go_simp
    refine (HRu.out _).mono ?_
    rintro x w4 ⟨gm, rfl, hm, hb⟩
    have D4 := hid (D3.out.on hb)
    have M4 := hid (look_run w4 gm 7 rul 1 (fnv 115) 1 hm rfl)
    clear hm hb D3 HRu
    go_wp2_with fail
    refine hK.out _ _ (D4.out.get 0 rfl) (fun hHeld => ?_)
    clear hK KQ
    try simp only [Act.put, tqA, tqZ, tqS]
    refine wpAnyH_ready (rs := [3]) (by kernel_rfl) (by simp) (AllReadyH.cons rfl (fun KQ hK => ?_) AllReadyH.nil)
    have M5 := M4.out
    go_simp
    refine hK.out _ _ (D4.out.get 0 rfl) (fun hHeld => ?_)
    clear hK KQ M5 M4
    try simp only [Act.put, tqA, tqZ, tqS]
    refine wpAnyH_ready (rs := [4]) (by kernel_rfl) (by simp) (AllReadyH.cons rfl (fun KQ hK => ?_) AllReadyH.nil)
    go_simp
    refine hK.out _ _ (D4.out.get 0 rfl) (fun hHeld => ?_)
    clear hK KQ
    try simp only [Act.put, tqA, tqZ, tqS]
    refine wpAnyH_done (by kernel_rfl) ?_ _
    unfold fnv
    have D5 := hid D4.out
    clear D4
    go_upto_region 6 with (first | (refine wpList_load_mid rfl 30 _ rfl g5 0 rfl _ _ ((D5.out.get 0 rfl).range) underE rfl (by rw [sizeE]; rfl) ?_) | (refine wpList_ten rfl _ _ rfl p.g 1 o r s e rfl rfl ?_) | (go_at_call 115; refine (HSp.out _).mono ?_; rintro x w6 ⟨rfl, hb⟩; have D6 := hid (D5.out.on hb); clear hb))
    clear D5 HFr HSr HSp HPa
    go_wp2_with (first | (go_at_call 70; refine (HGi.out _ D6.out.db).mono ?_; rintro x w7 ⟨rfl, hd, hb⟩; have D7 := hid (D6.out.step hd hb (fun _ hk => hk)); clear hd hb))
    go_ret
    exact ⟨rfl, D7.out.db, D7.out.but⟩
  · rw [if_neg hC]
    have hC' : (C == 0) = false := by simpa using hC
    clear hC
    simp only [ptr, En.v, En.cs] at *
    go_enter Tryz.func29, Tryz.ntmps29
    go_upto_region 4 with (first | (go_at_call 68; refine HI.out.mono ?_; rintro e w1 ⟨rfl, rfl⟩) | (go_at_call 45; refine (HE.out _ D0.out.db).mono ?_; rintro e w1 ⟨rfl, hb⟩; have D1 := hid (D0.out.on hb); clear hb) | (refine wpList_store_st rfl 30 _ _ rfl w1.heap.size [.int .i64 1, .int .i64 o, .int .i64 r, .int .i64 s, .bool e] rfl rfl (Cel.new w1 30 En.zero.cs) sizeE rfl rfl ?_; intro w2 hc hb hs; have D2 := hid (D1.out.add hc hb); clear hc hb hs))
    clear D0 D1 HI HE
    generalize w1.heap.size = g5 at *
    have D3 := hid (D2.out.on (Below.refl _ _).drew)
    clear D2
    refine wp_region_held_drew (S := fun w => Cel w g5 30 [.int .i64 1, .int .i64 o, .int .i64 r, .int .i64 s, .bool e]) (by kernel_rfl) (D3.out.get 0 rfl) (fun hHeld => ?_)
    generalize World.drew _ = w3 at *
    refine tk 1 (some 21) (.pointer (some ⟨g5, 0, none⟩)) ?_
    simp only [Act.put, tqA, tqZ, tqS]
    refine tk 2 (some 22) (.int .i64 1) ?_ (hy := Or.inl ⟨by rfl, by intro w hSw; have hc : w.cell? ⟨g5, 0, none⟩ = some (.int .i64 1) := hSw.cell 0; go_simp⟩)
    simp only [Act.put, tqA, tqZ, tqS]
    refine wpAnyH_ready (rs := [0]) (by kernel_rfl) (by simp) (AllReadyH.cons rfl (fun KQ hK => ?_) AllReadyH.nil)
    go_simp
    refine (HRu.out _).mono ?_
    rintro x w4 ⟨gm, rfl, hm, hb⟩
    have D4 := hid (D3.out.on hb)
    have M4 := hid (look_run w4 gm 7 rul 1 (fnv 115) 1 hm rfl)
    clear hm hb D3 HRu
    go_wp2_with fail
    refine hK.out _ _ (D4.out.get 0 rfl) (fun hHeld => ?_)
    clear hK KQ
    try simp only [Act.put, tqA, tqZ, tqS]
    refine wpAnyH_ready (rs := [3]) (by kernel_rfl) (by simp) (AllReadyH.cons rfl (fun KQ hK => ?_) AllReadyH.nil)
    have M5 := M4.out
    go_simp
    refine hK.out _ _ (D4.out.get 0 rfl) (fun hHeld => ?_)
    clear hK KQ M5 M4
    try simp only [Act.put, tqA, tqZ, tqS]
    refine wpAnyH_ready (rs := [4]) (by kernel_rfl) (by simp) (AllReadyH.cons rfl (fun KQ hK => ?_) AllReadyH.nil)
    go_simp
    refine hK.out _ _ (D4.out.get 0 rfl) (fun hHeld => ?_)
    clear hK KQ
    try simp only [Act.put, tqA, tqZ, tqS]
    refine wpAnyH_done (by kernel_rfl) ?_ _
    unfold fnv
    have D5 := hid D4.out
    clear D4
    go_upto_region 6 with (first | (refine wpList_load_mid rfl 30 _ rfl g5 0 rfl _ _ ((D5.out.get 0 rfl).range) underE rfl (by rw [sizeE]; rfl) ?_) | (refine wpList_ten rfl _ _ rfl p.g 1 o r s e rfl rfl ?_) | (go_at_call 115; refine (HSp.out _).mono ?_; rintro x w6 ⟨rfl, hb⟩; have D6 := hid (D5.out.on hb); clear hb))
    clear D5 HFr HSr HSp HPa
    have D7 := hid D6.out
    go_wp2_with fail
    go_ret
    exact ⟨rfl, D7.out.db, D7.out.but⟩
theorem remove_2 (W : World) (p : Dp) (d : DS) (h : DB W p d) (q : Int) (q0 : 0 ≤ q) (q1 : q < (d.m.ns : Int)) (ht : (d.ent q).t = 2) :
    Calls Tryz.prog 29 #[ptr p.g, .int .u32 q] W fun e W' => e = .returned (.int .u32 (d.rmC q)) ∧ DB W' p (d.rmD q) ∧ ButL p.w W W' := by
  have D0 := hid (DG.start h p.w h.wlt)
  have HI := hid (isPage_any W p d h q)
  rw [decide_eq_true q1] at HI
  have HE := hid (fun u (hw : DB u p d) => entry_any u p d hw q)
  have hn := h.ok.n64
  have kx : IntKind.wrap .i64 q = q := by rw [IntKind.wrap_i64]; omega
  have kw : wrap64 q = q := by unfold wrap64; omega
  have hEE : d.entE q = 0 := by unfold DS.entE DS.there; rw [if_pos (decide_eq_true ⟨q0, q1⟩)]
  rw [hEE] at HE
  have hC : d.rmC q = d.rmT (d.ent q) := by unfold DS.rmC; rw [if_pos q1]
  have HGi := hid (fun u (hw : DB u p d) => give_any u p d hw q)
  have hD : d.rmD q = if d.rmT (d.ent q) = 0 then d.give q else d := by unfold DS.rmD; rw [hC]
  rw [hC, hD]
  have HRu := hid (fun u => rules_any u)
  clear hEE hn q0 q1 hC hD h
  have hl := rmT_lt d (d.ent q)
  generalize d.ent q = X at *
  obtain ⟨t', o, r, s, e⟩ := X
  simp only at ht
  subst ht
  have HFr := hid (fun u => asFree_any u p.g 2 o r s e)
  have HSr := hid (fun u => asSpare_any u p.g 2 o r s e)
  have HSp := hid (fun u => asSpace_any u p.g 2 o r s e)
  have HPa := hid (fun u (hw : DB u p d) => asPart_any u p d hw 2 o r s e)
  have hT : d.rmT ⟨2, o, r, s, e⟩ = prtC (d.ent o).s := rfl
  rw [hT] at hl ⊢
  clear hT
  generalize d.giveE q = ge at *
  generalize hde : d.give q = dg at *
  clear hde
  generalize prtC (d.ent o).s = C at *
  by_cases hC : C = 0
  · subst hC
    rw [if_pos rfl]
    simp only [ptr, En.v, En.cs] at *
    go_enter Tryz.func29, Tryz.ntmps29
    go_upto_region 4 with (first | (go_at_call 68; refine HI.out.mono ?_; rintro e w1 ⟨rfl, rfl⟩) | (go_at_call 45; refine (HE.out _ D0.out.db).mono ?_; rintro e w1 ⟨rfl, hb⟩; have D1 := hid (D0.out.on hb); clear hb) | (refine wpList_store_st rfl 30 _ _ rfl w1.heap.size [.int .i64 2, .int .i64 o, .int .i64 r, .int .i64 s, .bool e] rfl rfl (Cel.new w1 30 En.zero.cs) sizeE rfl rfl ?_; intro w2 hc hb hs; have D2 := hid (D1.out.add hc hb); clear hc hb hs))
    clear D0 D1 HI HE
    generalize w1.heap.size = g5 at *
    have D3 := hid (D2.out.on (Below.refl _ _).drew)
    clear D2
    refine wp_region_held_drew (S := fun w => Cel w g5 30 [.int .i64 2, .int .i64 o, .int .i64 r, .int .i64 s, .bool e]) (by kernel_rfl) (D3.out.get 0 rfl) (fun hHeld => ?_)
    generalize World.drew _ = w3 at *
    refine tk 1 (some 21) (.pointer (some ⟨g5, 0, none⟩)) ?_
    simp only [Act.put, tqA, tqZ, tqS]
    refine tk 2 (some 22) (.int .i64 2) ?_ (hy := Or.inl ⟨by rfl, by intro w hSw; have hc : w.cell? ⟨g5, 0, none⟩ = some (.int .i64 2) := hSw.cell 0; go_simp⟩)
    simp only [Act.put, tqA, tqZ, tqS]
    refine wpAnyH_ready (rs := [0]) (by kernel_rfl) (by simp) (AllReadyH.cons rfl (fun KQ hK => ?_) AllReadyH.nil)
    go_simp
    refine (HRu.out _).mono ?_
    rintro x w4 ⟨gm, rfl, hm, hb⟩
    have D4 := hid (D3.out.on hb)
    have M4 := hid (look_run w4 gm 7 rul 2 (fnv 116) 2 hm rfl)
    clear hm hb D3 HRu
    go_wp2_with fail
    refine hK.out _ _ (D4.out.get 0 rfl) (fun hHeld => ?_)
    clear hK KQ
    try simp only [Act.put, tqA, tqZ, tqS]
    refine wpAnyH_ready (rs := [3]) (by kernel_rfl) (by simp) (AllReadyH.cons rfl (fun KQ hK => ?_) AllReadyH.nil)
    have M5 := M4.out
    go_simp
    refine hK.out _ _ (D4.out.get 0 rfl) (fun hHeld => ?_)
    clear hK KQ M5 M4
    try simp only [Act.put, tqA, tqZ, tqS]
    refine wpAnyH_ready (rs := [4]) (by kernel_rfl) (by simp) (AllReadyH.cons rfl (fun KQ hK => ?_) AllReadyH.nil)
    go_simp
    refine hK.out _ _ (D4.out.get 0 rfl) (fun hHeld => ?_)
    clear hK KQ
    try simp only [Act.put, tqA, tqZ, tqS]
    refine wpAnyH_done (by kernel_rfl) ?_ _
    unfold fnv
    have D5 := hid D4.out
    clear D4
    go_upto_region 6 with (first | (refine wpList_load_mid rfl 30 _ rfl g5 0 rfl _ _ ((D5.out.get 0 rfl).range) underE rfl (by rw [sizeE]; rfl) ?_) | (refine wpList_ten rfl _ _ rfl p.g 2 o r s e rfl rfl ?_) | (go_at_call 116; refine (HPa.out _ D5.out.db).mono ?_; rintro x w6 ⟨rfl, hb⟩; have D6 := hid (D5.out.on hb); clear hb))
    clear D5 HFr HSr HSp HPa
    go_wp2_with (first | (go_at_call 70; refine (HGi.out _ D6.out.db).mono ?_; rintro x w7 ⟨rfl, hd, hb⟩; have D7 := hid (D6.out.step hd hb (fun _ hk => hk)); clear hd hb))
    go_ret
    exact ⟨rfl, D7.out.db, D7.out.but⟩
  · rw [if_neg hC]
    have hC' : (C == 0) = false := by simpa using hC
    clear hC
    simp only [ptr, En.v, En.cs] at *
    go_enter Tryz.func29, Tryz.ntmps29
    go_upto_region 4 with (first | (go_at_call 68; refine HI.out.mono ?_; rintro e w1 ⟨rfl, rfl⟩) | (go_at_call 45; refine (HE.out _ D0.out.db).mono ?_; rintro e w1 ⟨rfl, hb⟩; have D1 := hid (D0.out.on hb); clear hb) | (refine wpList_store_st rfl 30 _ _ rfl w1.heap.size [.int .i64 2, .int .i64 o, .int .i64 r, .int .i64 s, .bool e] rfl rfl (Cel.new w1 30 En.zero.cs) sizeE rfl rfl ?_; intro w2 hc hb hs; have D2 := hid (D1.out.add hc hb); clear hc hb hs))
    clear D0 D1 HI HE
    generalize w1.heap.size = g5 at *
    have D3 := hid (D2.out.on (Below.refl _ _).drew)
    clear D2
    refine wp_region_held_drew (S := fun w => Cel w g5 30 [.int .i64 2, .int .i64 o, .int .i64 r, .int .i64 s, .bool e]) (by kernel_rfl) (D3.out.get 0 rfl) (fun hHeld => ?_)
    generalize World.drew _ = w3 at *
    refine tk 1 (some 21) (.pointer (some ⟨g5, 0, none⟩)) ?_
    simp only [Act.put, tqA, tqZ, tqS]
    refine tk 2 (some 22) (.int .i64 2) ?_ (hy := Or.inl ⟨by rfl, by intro w hSw; have hc : w.cell? ⟨g5, 0, none⟩ = some (.int .i64 2) := hSw.cell 0; go_simp⟩)
    simp only [Act.put, tqA, tqZ, tqS]
    refine wpAnyH_ready (rs := [0]) (by kernel_rfl) (by simp) (AllReadyH.cons rfl (fun KQ hK => ?_) AllReadyH.nil)
    go_simp
    refine (HRu.out _).mono ?_
    rintro x w4 ⟨gm, rfl, hm, hb⟩
    have D4 := hid (D3.out.on hb)
    have M4 := hid (look_run w4 gm 7 rul 2 (fnv 116) 2 hm rfl)
    clear hm hb D3 HRu
    go_wp2_with fail
    refine hK.out _ _ (D4.out.get 0 rfl) (fun hHeld => ?_)
    clear hK KQ
    try simp only [Act.put, tqA, tqZ, tqS]
    refine wpAnyH_ready (rs := [3]) (by kernel_rfl) (by simp) (AllReadyH.cons rfl (fun KQ hK => ?_) AllReadyH.nil)
    have M5 := M4.out
    go_simp
    refine hK.out _ _ (D4.out.get 0 rfl) (fun hHeld => ?_)
    clear hK KQ M5 M4
    try simp only [Act.put, tqA, tqZ, tqS]
    refine wpAnyH_ready (rs := [4]) (by kernel_rfl) (by simp) (AllReadyH.cons rfl (fun KQ hK => ?_) AllReadyH.nil)
    go_simp
    refine hK.out _ _ (D4.out.get 0 rfl) (fun hHeld => ?_)
    clear hK KQ
    try simp only [Act.put, tqA, tqZ, tqS]
    refine wpAnyH_done (by kernel_rfl) ?_ _
    unfold fnv
    have D5 := hid D4.out
    clear D4
    go_upto_region 6 with (first | (refine wpList_load_mid rfl 30 _ rfl g5 0 rfl _ _ ((D5.out.get 0 rfl).range) underE rfl (by rw [sizeE]; rfl) ?_) | (refine wpList_ten rfl _ _ rfl p.g 2 o r s e rfl rfl ?_) | (go_at_call 116; refine (HPa.out _ D5.out.db).mono ?_; rintro x w6 ⟨rfl, hb⟩; have D6 := hid (D5.out.on hb); clear hb))
    clear D5 HFr HSr HSp HPa
    have D7 := hid D6.out
    go_wp2_with fail
    go_ret
    exact ⟨rfl, D7.out.db, D7.out.but⟩
theorem remove_3 (W : World) (p : Dp) (d : DS) (h : DB W p d) (q : Int) (q0 : 0 ≤ q) (q1 : q < (d.m.ns : Int)) (ht : (d.ent q).t = 3) :
    Calls Tryz.prog 29 #[ptr p.g, .int .u32 q] W fun e W' => e = .returned (.int .u32 (d.rmC q)) ∧ DB W' p (d.rmD q) ∧ ButL p.w W W' := by
  have D0 := hid (DG.start h p.w h.wlt)
  have HI := hid (isPage_any W p d h q)
  rw [decide_eq_true q1] at HI
  have HE := hid (fun u (hw : DB u p d) => entry_any u p d hw q)
  have hn := h.ok.n64
  have kx : IntKind.wrap .i64 q = q := by rw [IntKind.wrap_i64]; omega
  have kw : wrap64 q = q := by unfold wrap64; omega
  have hEE : d.entE q = 0 := by unfold DS.entE DS.there; rw [if_pos (decide_eq_true ⟨q0, q1⟩)]
  rw [hEE] at HE
  have hC : d.rmC q = d.rmT (d.ent q) := by unfold DS.rmC; rw [if_pos q1]
  have HGi := hid (fun u (hw : DB u p d) => give_any u p d hw q)
  have hD : d.rmD q = if d.rmT (d.ent q) = 0 then d.give q else d := by unfold DS.rmD; rw [hC]
  rw [hC, hD]
  have HRu := hid (fun u => rules_any u)
  clear hEE hn q0 q1 hC hD h
  have hl := rmT_lt d (d.ent q)
  generalize d.ent q = X at *
  obtain ⟨t', o, r, s, e⟩ := X
  simp only at ht
  subst ht
  have HFr := hid (fun u => asFree_any u p.g 3 o r s e)
  have HSr := hid (fun u => asSpare_any u p.g 3 o r s e)
  have HSp := hid (fun u => asSpace_any u p.g 3 o r s e)
  have HPa := hid (fun u (hw : DB u p d) => asPart_any u p d hw 3 o r s e)
  have hT : d.rmT ⟨3, o, r, s, e⟩ = prtC (d.ent o).s := rfl
  rw [hT] at hl ⊢
  clear hT
  generalize d.giveE q = ge at *
  generalize hde : d.give q = dg at *
  clear hde
  generalize prtC (d.ent o).s = C at *
  by_cases hC : C = 0
  · subst hC
    rw [if_pos rfl]
    simp only [ptr, En.v, En.cs] at *
    go_enter Tryz.func29, Tryz.ntmps29
    go_upto_region 4 with (first | (go_at_call 68; refine HI.out.mono ?_; rintro e w1 ⟨rfl, rfl⟩) | (go_at_call 45; refine (HE.out _ D0.out.db).mono ?_; rintro e w1 ⟨rfl, hb⟩; have D1 := hid (D0.out.on hb); clear hb) | (refine wpList_store_st rfl 30 _ _ rfl w1.heap.size [.int .i64 3, .int .i64 o, .int .i64 r, .int .i64 s, .bool e] rfl rfl (Cel.new w1 30 En.zero.cs) sizeE rfl rfl ?_; intro w2 hc hb hs; have D2 := hid (D1.out.add hc hb); clear hc hb hs))
    clear D0 D1 HI HE
    generalize w1.heap.size = g5 at *
    have D3 := hid (D2.out.on (Below.refl _ _).drew)
    clear D2
    refine wp_region_held_drew (S := fun w => Cel w g5 30 [.int .i64 3, .int .i64 o, .int .i64 r, .int .i64 s, .bool e]) (by kernel_rfl) (D3.out.get 0 rfl) (fun hHeld => ?_)
    generalize World.drew _ = w3 at *
    refine tk 1 (some 21) (.pointer (some ⟨g5, 0, none⟩)) ?_
    simp only [Act.put, tqA, tqZ, tqS]
    refine tk 2 (some 22) (.int .i64 3) ?_ (hy := Or.inl ⟨by rfl, by intro w hSw; have hc : w.cell? ⟨g5, 0, none⟩ = some (.int .i64 3) := hSw.cell 0; go_simp⟩)
    simp only [Act.put, tqA, tqZ, tqS]
    refine wpAnyH_ready (rs := [0]) (by kernel_rfl) (by simp) (AllReadyH.cons rfl (fun KQ hK => ?_) AllReadyH.nil)
    go_simp
    refine (HRu.out _).mono ?_
    rintro x w4 ⟨gm, rfl, hm, hb⟩
    have D4 := hid (D3.out.on hb)
    have M4 := hid (look_run w4 gm 7 rul 3 (fnv 116) 3 hm rfl)
    clear hm hb D3 HRu
    go_wp2_with fail
    refine hK.out _ _ (D4.out.get 0 rfl) (fun hHeld => ?_)
    clear hK KQ
    try simp only [Act.put, tqA, tqZ, tqS]
    refine wpAnyH_ready (rs := [3]) (by kernel_rfl) (by simp) (AllReadyH.cons rfl (fun KQ hK => ?_) AllReadyH.nil)
    have M5 := M4.out
    go_simp
    refine hK.out _ _ (D4.out.get 0 rfl) (fun hHeld => ?_)
    clear hK KQ M5 M4
    try simp only [Act.put, tqA, tqZ, tqS]
    refine wpAnyH_ready (rs := [4]) (by kernel_rfl) (by simp) (AllReadyH.cons rfl (fun KQ hK => ?_) AllReadyH.nil)
    go_simp
    refine hK.out _ _ (D4.out.get 0 rfl) (fun hHeld => ?_)
    clear hK KQ
    try simp only [Act.put, tqA, tqZ, tqS]
    refine wpAnyH_done (by kernel_rfl) ?_ _
    unfold fnv
    have D5 := hid D4.out
    clear D4
    go_upto_region 6 with (first | (refine wpList_load_mid rfl 30 _ rfl g5 0 rfl _ _ ((D5.out.get 0 rfl).range) underE rfl (by rw [sizeE]; rfl) ?_) | (refine wpList_ten rfl _ _ rfl p.g 3 o r s e rfl rfl ?_) | (go_at_call 116; refine (HPa.out _ D5.out.db).mono ?_; rintro x w6 ⟨rfl, hb⟩; have D6 := hid (D5.out.on hb); clear hb))
    clear D5 HFr HSr HSp HPa
    go_wp2_with (first | (go_at_call 70; refine (HGi.out _ D6.out.db).mono ?_; rintro x w7 ⟨rfl, hd, hb⟩; have D7 := hid (D6.out.step hd hb (fun _ hk => hk)); clear hd hb))
    go_ret
    exact ⟨rfl, D7.out.db, D7.out.but⟩
  · rw [if_neg hC]
    have hC' : (C == 0) = false := by simpa using hC
    clear hC
    simp only [ptr, En.v, En.cs] at *
    go_enter Tryz.func29, Tryz.ntmps29
    go_upto_region 4 with (first | (go_at_call 68; refine HI.out.mono ?_; rintro e w1 ⟨rfl, rfl⟩) | (go_at_call 45; refine (HE.out _ D0.out.db).mono ?_; rintro e w1 ⟨rfl, hb⟩; have D1 := hid (D0.out.on hb); clear hb) | (refine wpList_store_st rfl 30 _ _ rfl w1.heap.size [.int .i64 3, .int .i64 o, .int .i64 r, .int .i64 s, .bool e] rfl rfl (Cel.new w1 30 En.zero.cs) sizeE rfl rfl ?_; intro w2 hc hb hs; have D2 := hid (D1.out.add hc hb); clear hc hb hs))
    clear D0 D1 HI HE
    generalize w1.heap.size = g5 at *
    have D3 := hid (D2.out.on (Below.refl _ _).drew)
    clear D2
    refine wp_region_held_drew (S := fun w => Cel w g5 30 [.int .i64 3, .int .i64 o, .int .i64 r, .int .i64 s, .bool e]) (by kernel_rfl) (D3.out.get 0 rfl) (fun hHeld => ?_)
    generalize World.drew _ = w3 at *
    refine tk 1 (some 21) (.pointer (some ⟨g5, 0, none⟩)) ?_
    simp only [Act.put, tqA, tqZ, tqS]
    refine tk 2 (some 22) (.int .i64 3) ?_ (hy := Or.inl ⟨by rfl, by intro w hSw; have hc : w.cell? ⟨g5, 0, none⟩ = some (.int .i64 3) := hSw.cell 0; go_simp⟩)
    simp only [Act.put, tqA, tqZ, tqS]
    refine wpAnyH_ready (rs := [0]) (by kernel_rfl) (by simp) (AllReadyH.cons rfl (fun KQ hK => ?_) AllReadyH.nil)
    go_simp
    refine (HRu.out _).mono ?_
    rintro x w4 ⟨gm, rfl, hm, hb⟩
    have D4 := hid (D3.out.on hb)
    have M4 := hid (look_run w4 gm 7 rul 3 (fnv 116) 3 hm rfl)
    clear hm hb D3 HRu
    go_wp2_with fail
    refine hK.out _ _ (D4.out.get 0 rfl) (fun hHeld => ?_)
    clear hK KQ
    try simp only [Act.put, tqA, tqZ, tqS]
    refine wpAnyH_ready (rs := [3]) (by kernel_rfl) (by simp) (AllReadyH.cons rfl (fun KQ hK => ?_) AllReadyH.nil)
    have M5 := M4.out
    go_simp
    refine hK.out _ _ (D4.out.get 0 rfl) (fun hHeld => ?_)
    clear hK KQ M5 M4
    try simp only [Act.put, tqA, tqZ, tqS]
    refine wpAnyH_ready (rs := [4]) (by kernel_rfl) (by simp) (AllReadyH.cons rfl (fun KQ hK => ?_) AllReadyH.nil)
    go_simp
    refine hK.out _ _ (D4.out.get 0 rfl) (fun hHeld => ?_)
    clear hK KQ
    try simp only [Act.put, tqA, tqZ, tqS]
    refine wpAnyH_done (by kernel_rfl) ?_ _
    unfold fnv
    have D5 := hid D4.out
    clear D4
    go_upto_region 6 with (first | (refine wpList_load_mid rfl 30 _ rfl g5 0 rfl _ _ ((D5.out.get 0 rfl).range) underE rfl (by rw [sizeE]; rfl) ?_) | (refine wpList_ten rfl _ _ rfl p.g 3 o r s e rfl rfl ?_) | (go_at_call 116; refine (HPa.out _ D5.out.db).mono ?_; rintro x w6 ⟨rfl, hb⟩; have D6 := hid (D5.out.on hb); clear hb))
    clear D5 HFr HSr HSp HPa
    have D7 := hid D6.out
    go_wp2_with fail
    go_ret
    exact ⟨rfl, D7.out.db, D7.out.but⟩
theorem remove_4 (W : World) (p : Dp) (d : DS) (h : DB W p d) (q : Int) (q0 : 0 ≤ q) (q1 : q < (d.m.ns : Int)) (ht : (d.ent q).t = 4) :
    Calls Tryz.prog 29 #[ptr p.g, .int .u32 q] W fun e W' => e = .returned (.int .u32 (d.rmC q)) ∧ DB W' p (d.rmD q) ∧ ButL p.w W W' := by
  have D0 := hid (DG.start h p.w h.wlt)
  have HI := hid (isPage_any W p d h q)
  rw [decide_eq_true q1] at HI
  have HE := hid (fun u (hw : DB u p d) => entry_any u p d hw q)
  have hn := h.ok.n64
  have kx : IntKind.wrap .i64 q = q := by rw [IntKind.wrap_i64]; omega
  have kw : wrap64 q = q := by unfold wrap64; omega
  have hEE : d.entE q = 0 := by unfold DS.entE DS.there; rw [if_pos (decide_eq_true ⟨q0, q1⟩)]
  rw [hEE] at HE
  have hC : d.rmC q = d.rmT (d.ent q) := by unfold DS.rmC; rw [if_pos q1]
  have HGi := hid (fun u (hw : DB u p d) => give_any u p d hw q)
  have hD : d.rmD q = if d.rmT (d.ent q) = 0 then d.give q else d := by unfold DS.rmD; rw [hC]
  rw [hC, hD]
  have HRu := hid (fun u => rules_any u)
  clear hEE hn q0 q1 hC hD h
  have hl := rmT_lt d (d.ent q)
  generalize d.ent q = X at *
  obtain ⟨t', o, r, s, e⟩ := X
  simp only at ht
  subst ht
  have HFr := hid (fun u => asFree_any u p.g 4 o r s e)
  have HSr := hid (fun u => asSpare_any u p.g 4 o r s e)
  have HSp := hid (fun u => asSpace_any u p.g 4 o r s e)
  have HPa := hid (fun u (hw : DB u p d) => asPart_any u p d hw 4 o r s e)
  have hT : d.rmT ⟨4, o, r, s, e⟩ = prtC (d.ent o).s := rfl
  rw [hT] at hl ⊢
  clear hT
  generalize d.giveE q = ge at *
  generalize hde : d.give q = dg at *
  clear hde
  generalize prtC (d.ent o).s = C at *
  by_cases hC : C = 0
  · subst hC
    rw [if_pos rfl]
    simp only [ptr, En.v, En.cs] at *
    go_enter Tryz.func29, Tryz.ntmps29
    go_upto_region 4 with (first | (go_at_call 68; refine HI.out.mono ?_; rintro e w1 ⟨rfl, rfl⟩) | (go_at_call 45; refine (HE.out _ D0.out.db).mono ?_; rintro e w1 ⟨rfl, hb⟩; have D1 := hid (D0.out.on hb); clear hb) | (refine wpList_store_st rfl 30 _ _ rfl w1.heap.size [.int .i64 4, .int .i64 o, .int .i64 r, .int .i64 s, .bool e] rfl rfl (Cel.new w1 30 En.zero.cs) sizeE rfl rfl ?_; intro w2 hc hb hs; have D2 := hid (D1.out.add hc hb); clear hc hb hs))
    clear D0 D1 HI HE
    generalize w1.heap.size = g5 at *
    have D3 := hid (D2.out.on (Below.refl _ _).drew)
    clear D2
    refine wp_region_held_drew (S := fun w => Cel w g5 30 [.int .i64 4, .int .i64 o, .int .i64 r, .int .i64 s, .bool e]) (by kernel_rfl) (D3.out.get 0 rfl) (fun hHeld => ?_)
    generalize World.drew _ = w3 at *
    refine tk 1 (some 21) (.pointer (some ⟨g5, 0, none⟩)) ?_
    simp only [Act.put, tqA, tqZ, tqS]
    refine tk 2 (some 22) (.int .i64 4) ?_ (hy := Or.inl ⟨by rfl, by intro w hSw; have hc : w.cell? ⟨g5, 0, none⟩ = some (.int .i64 4) := hSw.cell 0; go_simp⟩)
    simp only [Act.put, tqA, tqZ, tqS]
    refine wpAnyH_ready (rs := [0]) (by kernel_rfl) (by simp) (AllReadyH.cons rfl (fun KQ hK => ?_) AllReadyH.nil)
    go_simp
    refine (HRu.out _).mono ?_
    rintro x w4 ⟨gm, rfl, hm, hb⟩
    have D4 := hid (D3.out.on hb)
    have M4 := hid (look_run w4 gm 7 rul 4 (fnv 116) 4 hm rfl)
    clear hm hb D3 HRu
    go_wp2_with fail
    refine hK.out _ _ (D4.out.get 0 rfl) (fun hHeld => ?_)
    clear hK KQ
    try simp only [Act.put, tqA, tqZ, tqS]
    refine wpAnyH_ready (rs := [3]) (by kernel_rfl) (by simp) (AllReadyH.cons rfl (fun KQ hK => ?_) AllReadyH.nil)
    have M5 := M4.out
    go_simp
    refine hK.out _ _ (D4.out.get 0 rfl) (fun hHeld => ?_)
    clear hK KQ M5 M4
    try simp only [Act.put, tqA, tqZ, tqS]
    refine wpAnyH_ready (rs := [4]) (by kernel_rfl) (by simp) (AllReadyH.cons rfl (fun KQ hK => ?_) AllReadyH.nil)
    go_simp
    refine hK.out _ _ (D4.out.get 0 rfl) (fun hHeld => ?_)
    clear hK KQ
    try simp only [Act.put, tqA, tqZ, tqS]
    refine wpAnyH_done (by kernel_rfl) ?_ _
    unfold fnv
    have D5 := hid D4.out
    clear D4
    go_upto_region 6 with (first | (refine wpList_load_mid rfl 30 _ rfl g5 0 rfl _ _ ((D5.out.get 0 rfl).range) underE rfl (by rw [sizeE]; rfl) ?_) | (refine wpList_ten rfl _ _ rfl p.g 4 o r s e rfl rfl ?_) | (go_at_call 116; refine (HPa.out _ D5.out.db).mono ?_; rintro x w6 ⟨rfl, hb⟩; have D6 := hid (D5.out.on hb); clear hb))
    clear D5 HFr HSr HSp HPa
    go_wp2_with (first | (go_at_call 70; refine (HGi.out _ D6.out.db).mono ?_; rintro x w7 ⟨rfl, hd, hb⟩; have D7 := hid (D6.out.step hd hb (fun _ hk => hk)); clear hd hb))
    go_ret
    exact ⟨rfl, D7.out.db, D7.out.but⟩
  · rw [if_neg hC]
    have hC' : (C == 0) = false := by simpa using hC
    clear hC
    simp only [ptr, En.v, En.cs] at *
    go_enter Tryz.func29, Tryz.ntmps29
    go_upto_region 4 with (first | (go_at_call 68; refine HI.out.mono ?_; rintro e w1 ⟨rfl, rfl⟩) | (go_at_call 45; refine (HE.out _ D0.out.db).mono ?_; rintro e w1 ⟨rfl, hb⟩; have D1 := hid (D0.out.on hb); clear hb) | (refine wpList_store_st rfl 30 _ _ rfl w1.heap.size [.int .i64 4, .int .i64 o, .int .i64 r, .int .i64 s, .bool e] rfl rfl (Cel.new w1 30 En.zero.cs) sizeE rfl rfl ?_; intro w2 hc hb hs; have D2 := hid (D1.out.add hc hb); clear hc hb hs))
    clear D0 D1 HI HE
    generalize w1.heap.size = g5 at *
    have D3 := hid (D2.out.on (Below.refl _ _).drew)
    clear D2
    refine wp_region_held_drew (S := fun w => Cel w g5 30 [.int .i64 4, .int .i64 o, .int .i64 r, .int .i64 s, .bool e]) (by kernel_rfl) (D3.out.get 0 rfl) (fun hHeld => ?_)
    generalize World.drew _ = w3 at *
    refine tk 1 (some 21) (.pointer (some ⟨g5, 0, none⟩)) ?_
    simp only [Act.put, tqA, tqZ, tqS]
    refine tk 2 (some 22) (.int .i64 4) ?_ (hy := Or.inl ⟨by rfl, by intro w hSw; have hc : w.cell? ⟨g5, 0, none⟩ = some (.int .i64 4) := hSw.cell 0; go_simp⟩)
    simp only [Act.put, tqA, tqZ, tqS]
    refine wpAnyH_ready (rs := [0]) (by kernel_rfl) (by simp) (AllReadyH.cons rfl (fun KQ hK => ?_) AllReadyH.nil)
    go_simp
    refine (HRu.out _).mono ?_
    rintro x w4 ⟨gm, rfl, hm, hb⟩
    have D4 := hid (D3.out.on hb)
    have M4 := hid (look_run w4 gm 7 rul 4 (fnv 116) 4 hm rfl)
    clear hm hb D3 HRu
    go_wp2_with fail
    refine hK.out _ _ (D4.out.get 0 rfl) (fun hHeld => ?_)
    clear hK KQ
    try simp only [Act.put, tqA, tqZ, tqS]
    refine wpAnyH_ready (rs := [3]) (by kernel_rfl) (by simp) (AllReadyH.cons rfl (fun KQ hK => ?_) AllReadyH.nil)
    have M5 := M4.out
    go_simp
    refine hK.out _ _ (D4.out.get 0 rfl) (fun hHeld => ?_)
    clear hK KQ M5 M4
    try simp only [Act.put, tqA, tqZ, tqS]
    refine wpAnyH_ready (rs := [4]) (by kernel_rfl) (by simp) (AllReadyH.cons rfl (fun KQ hK => ?_) AllReadyH.nil)
    go_simp
    refine hK.out _ _ (D4.out.get 0 rfl) (fun hHeld => ?_)
    clear hK KQ
    try simp only [Act.put, tqA, tqZ, tqS]
    refine wpAnyH_done (by kernel_rfl) ?_ _
    unfold fnv
    have D5 := hid D4.out
    clear D4
    go_upto_region 6 with (first | (refine wpList_load_mid rfl 30 _ rfl g5 0 rfl _ _ ((D5.out.get 0 rfl).range) underE rfl (by rw [sizeE]; rfl) ?_) | (refine wpList_ten rfl _ _ rfl p.g 4 o r s e rfl rfl ?_) | (go_at_call 116; refine (HPa.out _ D5.out.db).mono ?_; rintro x w6 ⟨rfl, hb⟩; have D6 := hid (D5.out.on hb); clear hb))
    clear D5 HFr HSr HSp HPa
    have D7 := hid D6.out
    go_wp2_with fail
    go_ret
    exact ⟨rfl, D7.out.db, D7.out.but⟩
theorem remove_5 (W : World) (p : Dp) (d : DS) (h : DB W p d) (q : Int) (q0 : 0 ≤ q) (q1 : q < (d.m.ns : Int)) (ht : (d.ent q).t = 5) :
    Calls Tryz.prog 29 #[ptr p.g, .int .u32 q] W fun e W' => e = .returned (.int .u32 (d.rmC q)) ∧ DB W' p (d.rmD q) ∧ ButL p.w W W' := by
  have D0 := hid (DG.start h p.w h.wlt)
  have HI := hid (isPage_any W p d h q)
  rw [decide_eq_true q1] at HI
  have HE := hid (fun u (hw : DB u p d) => entry_any u p d hw q)
  have hn := h.ok.n64
  have kx : IntKind.wrap .i64 q = q := by rw [IntKind.wrap_i64]; omega
  have kw : wrap64 q = q := by unfold wrap64; omega
  have hEE : d.entE q = 0 := by unfold DS.entE DS.there; rw [if_pos (decide_eq_true ⟨q0, q1⟩)]
  rw [hEE] at HE
  have hC : d.rmC q = d.rmT (d.ent q) := by unfold DS.rmC; rw [if_pos q1]
  have HGi := hid (fun u (hw : DB u p d) => give_any u p d hw q)
  have hD : d.rmD q = if d.rmT (d.ent q) = 0 then d.give q else d := by unfold DS.rmD; rw [hC]
  rw [hC, hD]
  have HRu := hid (fun u => rules_any u)
  clear hEE hn q0 q1 hC hD h
  have hl := rmT_lt d (d.ent q)
  generalize d.ent q = X at *
  obtain ⟨t', o, r, s, e⟩ := X
  simp only at ht
  subst ht
  have HFr := hid (fun u => asFree_any u p.g 5 o r s e)
  have HSr := hid (fun u => asSpare_any u p.g 5 o r s e)
  have HSp := hid (fun u => asSpace_any u p.g 5 o r s e)
  have HPa := hid (fun u (hw : DB u p d) => asPart_any u p d hw 5 o r s e)
  have hT : d.rmT ⟨5, o, r, s, e⟩ = prtC (d.ent o).s := rfl
  rw [hT] at hl ⊢
  clear hT
  generalize d.giveE q = ge at *
  generalize hde : d.give q = dg at *
  clear hde
  generalize prtC (d.ent o).s = C at *
  by_cases hC : C = 0
  · subst hC
    rw [if_pos rfl]
    simp only [ptr, En.v, En.cs] at *
    go_enter Tryz.func29, Tryz.ntmps29
    go_upto_region 4 with (first | (go_at_call 68; refine HI.out.mono ?_; rintro e w1 ⟨rfl, rfl⟩) | (go_at_call 45; refine (HE.out _ D0.out.db).mono ?_; rintro e w1 ⟨rfl, hb⟩; have D1 := hid (D0.out.on hb); clear hb) | (refine wpList_store_st rfl 30 _ _ rfl w1.heap.size [.int .i64 5, .int .i64 o, .int .i64 r, .int .i64 s, .bool e] rfl rfl (Cel.new w1 30 En.zero.cs) sizeE rfl rfl ?_; intro w2 hc hb hs; have D2 := hid (D1.out.add hc hb); clear hc hb hs))
    clear D0 D1 HI HE
    generalize w1.heap.size = g5 at *
    have D3 := hid (D2.out.on (Below.refl _ _).drew)
    clear D2
    refine wp_region_held_drew (S := fun w => Cel w g5 30 [.int .i64 5, .int .i64 o, .int .i64 r, .int .i64 s, .bool e]) (by kernel_rfl) (D3.out.get 0 rfl) (fun hHeld => ?_)
    generalize World.drew _ = w3 at *
    refine tk 1 (some 21) (.pointer (some ⟨g5, 0, none⟩)) ?_
    simp only [Act.put, tqA, tqZ, tqS]
    refine tk 2 (some 22) (.int .i64 5) ?_ (hy := Or.inl ⟨by rfl, by intro w hSw; have hc : w.cell? ⟨g5, 0, none⟩ = some (.int .i64 5) := hSw.cell 0; go_simp⟩)
    simp only [Act.put, tqA, tqZ, tqS]
    refine wpAnyH_ready (rs := [0]) (by kernel_rfl) (by simp) (AllReadyH.cons rfl (fun KQ hK => ?_) AllReadyH.nil)
    go_simp
    refine (HRu.out _).mono ?_
    rintro x w4 ⟨gm, rfl, hm, hb⟩
    have D4 := hid (D3.out.on hb)
    have M4 := hid (look_run w4 gm 7 rul 5 (fnv 116) 5 hm rfl)
    clear hm hb D3 HRu
    go_wp2_with fail
    refine hK.out _ _ (D4.out.get 0 rfl) (fun hHeld => ?_)
    clear hK KQ
    try simp only [Act.put, tqA, tqZ, tqS]
    refine wpAnyH_ready (rs := [3]) (by kernel_rfl) (by simp) (AllReadyH.cons rfl (fun KQ hK => ?_) AllReadyH.nil)
    have M5 := M4.out
    go_simp
    refine hK.out _ _ (D4.out.get 0 rfl) (fun hHeld => ?_)
    clear hK KQ M5 M4
    try simp only [Act.put, tqA, tqZ, tqS]
    refine wpAnyH_ready (rs := [4]) (by kernel_rfl) (by simp) (AllReadyH.cons rfl (fun KQ hK => ?_) AllReadyH.nil)
    go_simp
    refine hK.out _ _ (D4.out.get 0 rfl) (fun hHeld => ?_)
    clear hK KQ
    try simp only [Act.put, tqA, tqZ, tqS]
    refine wpAnyH_done (by kernel_rfl) ?_ _
    unfold fnv
    have D5 := hid D4.out
    clear D4
    go_upto_region 6 with (first | (refine wpList_load_mid rfl 30 _ rfl g5 0 rfl _ _ ((D5.out.get 0 rfl).range) underE rfl (by rw [sizeE]; rfl) ?_) | (refine wpList_ten rfl _ _ rfl p.g 5 o r s e rfl rfl ?_) | (go_at_call 116; refine (HPa.out _ D5.out.db).mono ?_; rintro x w6 ⟨rfl, hb⟩; have D6 := hid (D5.out.on hb); clear hb))
    clear D5 HFr HSr HSp HPa
    go_wp2_with (first | (go_at_call 70; refine (HGi.out _ D6.out.db).mono ?_; rintro x w7 ⟨rfl, hd, hb⟩; have D7 := hid (D6.out.step hd hb (fun _ hk => hk)); clear hd hb))
    go_ret
    exact ⟨rfl, D7.out.db, D7.out.but⟩
  · rw [if_neg hC]
    have hC' : (C == 0) = false := by simpa using hC
    clear hC
    simp only [ptr, En.v, En.cs] at *
    go_enter Tryz.func29, Tryz.ntmps29
    go_upto_region 4 with (first | (go_at_call 68; refine HI.out.mono ?_; rintro e w1 ⟨rfl, rfl⟩) | (go_at_call 45; refine (HE.out _ D0.out.db).mono ?_; rintro e w1 ⟨rfl, hb⟩; have D1 := hid (D0.out.on hb); clear hb) | (refine wpList_store_st rfl 30 _ _ rfl w1.heap.size [.int .i64 5, .int .i64 o, .int .i64 r, .int .i64 s, .bool e] rfl rfl (Cel.new w1 30 En.zero.cs) sizeE rfl rfl ?_; intro w2 hc hb hs; have D2 := hid (D1.out.add hc hb); clear hc hb hs))
    clear D0 D1 HI HE
    generalize w1.heap.size = g5 at *
    have D3 := hid (D2.out.on (Below.refl _ _).drew)
    clear D2
    refine wp_region_held_drew (S := fun w => Cel w g5 30 [.int .i64 5, .int .i64 o, .int .i64 r, .int .i64 s, .bool e]) (by kernel_rfl) (D3.out.get 0 rfl) (fun hHeld => ?_)
    generalize World.drew _ = w3 at *
    refine tk 1 (some 21) (.pointer (some ⟨g5, 0, none⟩)) ?_
    simp only [Act.put, tqA, tqZ, tqS]
    refine tk 2 (some 22) (.int .i64 5) ?_ (hy := Or.inl ⟨by rfl, by intro w hSw; have hc : w.cell? ⟨g5, 0, none⟩ = some (.int .i64 5) := hSw.cell 0; go_simp⟩)
    simp only [Act.put, tqA, tqZ, tqS]
    refine wpAnyH_ready (rs := [0]) (by kernel_rfl) (by simp) (AllReadyH.cons rfl (fun KQ hK => ?_) AllReadyH.nil)
    go_simp
    refine (HRu.out _).mono ?_
    rintro x w4 ⟨gm, rfl, hm, hb⟩
    have D4 := hid (D3.out.on hb)
    have M4 := hid (look_run w4 gm 7 rul 5 (fnv 116) 5 hm rfl)
    clear hm hb D3 HRu
    go_wp2_with fail
    refine hK.out _ _ (D4.out.get 0 rfl) (fun hHeld => ?_)
    clear hK KQ
    try simp only [Act.put, tqA, tqZ, tqS]
    refine wpAnyH_ready (rs := [3]) (by kernel_rfl) (by simp) (AllReadyH.cons rfl (fun KQ hK => ?_) AllReadyH.nil)
    have M5 := M4.out
    go_simp
    refine hK.out _ _ (D4.out.get 0 rfl) (fun hHeld => ?_)
    clear hK KQ M5 M4
    try simp only [Act.put, tqA, tqZ, tqS]
    refine wpAnyH_ready (rs := [4]) (by kernel_rfl) (by simp) (AllReadyH.cons rfl (fun KQ hK => ?_) AllReadyH.nil)
    go_simp
    refine hK.out _ _ (D4.out.get 0 rfl) (fun hHeld => ?_)
    clear hK KQ
    try simp only [Act.put, tqA, tqZ, tqS]
    refine wpAnyH_done (by kernel_rfl) ?_ _
    unfold fnv
    have D5 := hid D4.out
    clear D4
    go_upto_region 6 with (first | (refine wpList_load_mid rfl 30 _ rfl g5 0 rfl _ _ ((D5.out.get 0 rfl).range) underE rfl (by rw [sizeE]; rfl) ?_) | (refine wpList_ten rfl _ _ rfl p.g 5 o r s e rfl rfl ?_) | (go_at_call 116; refine (HPa.out _ D5.out.db).mono ?_; rintro x w6 ⟨rfl, hb⟩; have D6 := hid (D5.out.on hb); clear hb))
    clear D5 HFr HSr HSp HPa
    have D7 := hid D6.out
    go_wp2_with fail
    go_ret
    exact ⟨rfl, D7.out.db, D7.out.but⟩
theorem remove_any (W : World) (p : Dp) (d : DS) (h : DB W p d) (q : Int) (q0 : 0 ≤ q) :
    Calls Tryz.prog 29 #[ptr p.g, .int .u32 q] W fun e W' => e = .returned (.int .u32 (d.rmC q)) ∧ DB W' p (d.rmD q) ∧ ButL p.w W W' := by
  by_cases q1 : q < (d.m.ns : Int)
  · have ht := ent_t h.ok q
    have hc : (d.ent q).t = 0 ∨ (d.ent q).t = 1 ∨ (d.ent q).t = 2 ∨ (d.ent q).t = 3 ∨ (d.ent q).t = 4 ∨ (d.ent q).t = 5 ∨ (d.ent q).t = 6 := by omega
    rcases hc with e | e | e | e | e | e | e
    · exact remove_0 W p d h q q0 q1 e
    · exact remove_1 W p d h q q0 q1 e
    · exact remove_2 W p d h q q0 q1 e
    · exact remove_3 W p d h q q0 q1 e
    · exact remove_4 W p d h q q0 q1 e
    · exact remove_5 W p d h q q0 q1 e
    · exact remove_6 W p d h q q0 q1 e
  · have HI := hid (isPage_any W p d h q)
    rw [decide_eq_false q1] at HI
    have D0 := hid (DG.start h p.w h.wlt)
    have hC : d.rmC q = 1 := by unfold DS.rmC; rw [if_neg q1]
    have hD : d.rmD q = d := by unfold DS.rmD; rw [hC]; rfl
    rw [hC, hD]
    clear hC hD q1 q0 h
    simp only [ptr] at *
    go_enter Tryz.func29, Tryz.ntmps29
    go_wp2_with (first | (go_at_call 68; refine HI.out.mono ?_; rintro e w1 ⟨rfl, rfl⟩))
    go_ret
    exact ⟨rfl, D0.out.db, D0.out.but⟩
end Go.Proofs.YtdfnbcbnmiohnaaGreatDoor
