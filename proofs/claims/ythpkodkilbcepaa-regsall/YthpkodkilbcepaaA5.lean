/- RegsAll: one call (18): Get, Flags, Unpack. -/
import Derived.Test.YthpkodkilbcepaaA4
namespace Go.Proofs.Ythpkodkilbcepaa
open Go.RowKit
set_option maxHeartbeats 4000000
set_option maxRecDepth 100000
attribute [-simp] Try.isAgg27 Try.sizeOf27 Try.isAgg25 Try.isAgg23 Try.isAgg46 Try.sizeOf46
theorem cel_new25 (w : World) : Cel (w.alloc (.cells #[.int .u32 0, .int .u32 0, .int .u32 0, .int .u32 0, .int .u32 0, .int .u32 0, .int .u32 0, .int .u32 0, .int .u32 0, .int .u32 0, .int .u32 0, .int .u32 0, .int .u32 0, .int .u32 0, .int .u32 0, .int .u32 0, .bool false, .bool false, .bool false] 25)) w.heap.size 25 F.zero.cs := by rw [zc]; exact Cel.new w 25 F.zero.cs
theorem OB.but {W wr w' : World} {q : Oq} {g : Nat} (h : OB W wr q) (hb : ButL [g] wr w') (hg : W.heap.size < g) : OB W w' q :=
  ⟨h.cel.but hb (by rw [List.mem_singleton]; omega), h.below.trans (hb.below (by simp; omega) h.below.size)⟩
structure OF (W wr : World) (q : Oq) (ga : Nat) (t : TypeId) (fu : F) : Prop where
  ob : OB W wr q
  a : Cel wr ga t fu.cs
theorem OF.on {W wr w' : World} {q : Oq} {ga : Nat} {t : TypeId} {fu : F} (h : OF W wr q ga t fu) (hb : Below wr.heap.size wr w') : OF W w' q ga t fu := ⟨h.ob.on hb, h.a.on hb⟩
theorem OF.but {W wr w' : World} {q : Oq} {ga g : Nat} {t : TypeId} {fu : F} (h : OF W wr q ga t fu) (hb : ButL [g] wr w') (hg : W.heap.size < g) (hn : ga ≠ g) : OF W w' q ga t fu :=
  ⟨h.ob.but hb hg, h.a.but hb (by rw [List.mem_singleton]; exact hn)⟩
structure OG (W wr : World) (q : Oq) (ga gb : Nat) (fu : F) : Prop where
  ob : OB W wr q
  a : Cel wr ga 27 fu.cs
  b : Cel wr gb 25 fu.cs
theorem OG.on {W wr w' : World} {q : Oq} {ga gb : Nat} {fu : F} (h : OG W wr q ga gb fu) (hb : Below wr.heap.size wr w') : OG W w' q ga gb fu := ⟨h.ob.on hb, h.a.on hb, h.b.on hb⟩
theorem unpack_two (W : World) (ao : Option Addr) (n c b o : Nat) (X : Nat → Int) (hx : WX W ao n b o X) : ∃ fu er, (∀ w, Below W.heap.size W w → Calls Try.prog 15 #[.slice ao n c] w fun e W' => e = .returned (.tuple #[F.v fu, .int .i64 er]) ∧ Below w.heap.size w W') ∧
    (∀ w, Below W.heap.size W w → Calls Try.prog 33 #[.slice ao n c] w fun e W' => e = .returned (.tuple #[F.v fu, .int .i64 er]) ∧ Below w.heap.size w W') := by
  by_cases h17 : n = 17
  · subst h17
    obtain ⟨hao, hb0⟩ := hx.ao (by omega)
    subst hao
    have hw : W17 W b o X := ⟨hb0, fun k hk => (hx.at' k hk).1⟩
    obtain ⟨f', er, hf⟩ := flaggedV_form (up X (X 15)) (X 16)
    have hv : unpackV X = .tuple #[F.v f', .int .i64 er] := hf
    exact ⟨f', er, fun w hb => by rw [← hv]; exact unpack_yes w b o c X (hw.on hb) (hx.at' 16 (by omega)).2.1, fun w hb => by rw [← hv]; exact runpack_yes w b o c X (hw.on hb)⟩
  · exact ⟨F.zero, 80, fun w _ => unpack_no w ao n c h17, fun w _ => runpack_no w ao n c h17⟩
theorem play_unpack (W : World) (q : Oq) (hk : q.k = 6) (b o : Nat) (X : Nat → Int) (hx : WX W q.ao q.n b o X) : Calls Try.prog 18 #[.agg q.cs.toArray] W fun e W' => e = .returned (.bool true) ∧ Below W.heap.size W W' := by
  have HO := hid (ob_new W q)
  have y0 := HO.out.y0
  rw [hk] at y0
  obtain ⟨fu, er, hu, hr⟩ := unpack_two W q.ao q.n q.cp b o X hx
  have HU := hid hu
  have HR := hid hr
  have yw := HO.out.yw
  clear hu hr hx
  generalize hc : q.cs.toArray = C at *
  clear hc hk
  go_enter Try.func18, Try.ntmps18
  go_upto_region 1 with fail
  generalize hX : W.alloc _ = X at *
  clear hX
  go_upto_region 19 with fail
  clear y0
  go_wp2_with fail
  refine (HR.out _ HO.out.below).mono ?_
  rintro e w1 ⟨rfl, hb1⟩
  have HO1 := hid (HO.out.on hb1)
  have HO1' := hid (HO1.out.on (below_one w1 (.cells #[.int .u32 0, .int .u32 0, .int .u32 0, .int .u32 0, .int .u32 0, .int .u32 0, .int .u32 0, .int .u32 0, .int .u32 0, .int .u32 0, .int .u32 0, .int .u32 0, .int .u32 0, .int .u32 0, .int .u32 0, .int .u32 0, .bool false, .bool false, .bool false] 25)))
  have HN1 := hid (cel_new25 w1)
  clear hb1 HO HR yw
  go_upto_region 20 with (refine wpList_store_g rfl _ _ rfl w1.heap.size F.zero fu rfl rfl HN1.out ?_; intro w2 hc2 hb2 hs2; have HO2 : Hid (OF W w2 q w1.heap.size 25 fu) := hid ⟨HO1'.out.but hb2 HO1.out.cel.lt, hc2⟩; have HL2 := hid HO1.out.cel.lt; clear hc2 hb2 hs2 HO1' HN1 HO1)
  generalize hg15 : w1.heap.size = g15 at *
  clear hg15
  have yw := HO2.out.ob.yw
  go_wp2_with fail
  refine (HU.out _ HO2.out.ob.below).mono ?_
  rintro e w3 ⟨rfl, hb3⟩
  have HO3 := hid (HO2.out.on hb3)
  have HO3' := hid (HO3.out.on (below_one w3 (.cells #[.int .u32 0, .int .u32 0, .int .u32 0, .int .u32 0, .int .u32 0, .int .u32 0, .int .u32 0, .int .u32 0, .int .u32 0, .int .u32 0, .int .u32 0, .int .u32 0, .int .u32 0, .int .u32 0, .int .u32 0, .int .u32 0, .bool false, .bool false, .bool false] 27)))
  have HN3 := hid (cel_new27 w3)
  clear hb3 HO2 HU yw
  go_upto_region 21 with (refine wpList_store_f rfl _ _ rfl w3.heap.size F.zero fu rfl rfl HN3.out ?_; intro w4 hc4 hb4 hs4; have HO4 : Hid (OG W w4 q w3.heap.size g15 fu) := hid ⟨(HO3'.out.but hb4 HO3.out.ob.cel.lt (by have := HO3.out.a.lt; omega)).ob, hc4, (HO3'.out.but hb4 HO3.out.ob.cel.lt (by have := HO3.out.a.lt; omega)).a⟩; clear hc4 hb4 hs4 HO3' HN3 HO3)
  generalize hg17 : w3.heap.size = g17 at *
  clear hg17
  go_wp2_with (first | (refine wpList_load_f rfl _ rfl g17 fu rfl HO4.out.a ?_) | (refine wpList_load_g rfl _ rfl g15 fu rfl HO4.out.b ?_))
  refine (same_self_any _ _).mono ?_
  rintro e w5 ⟨rfl, hb5⟩
  have HB5 := hid (below_on HO4.out.ob.below hb5)
  clear hb5 HO4
  go_wp2_with fail
  go_ret
  exact ⟨rfl, HB5.out⟩
theorem play_flags (W : World) (q : Oq) (hk : q.k = 4) (ha : 0 ≤ q.a) : Calls Try.prog 18 #[.agg q.cs.toArray] W fun e W' => e = .returned (.bool true) ∧ Below W.heap.size W W' := by
  have HO := hid (ob_new W q)
  have y0 := HO.out.y0
  rw [hk] at y0
  have HF1 := hid fun w => flagged_any w q.f q.a ha
  have HF2 := hid fun w => rflagged_any w q.f q.a
  obtain ⟨fu, er, hf⟩ := flaggedV_form q.f q.a
  rw [hf] at HF1 HF2
  clear hf ha
  generalize hc : q.cs.toArray = C at *
  clear hc hk
  go_enter Try.func18, Try.ntmps18
  go_upto_region 1 with fail
  generalize hX : W.alloc _ = X at *
  clear hX
  go_upto_region 13 with fail
  clear y0
  have HD := hid (HO.out.on (Below.refl _ _).drew)
  clear HO
  refine wp_region_held_drew (S := fun x => OB W x q) (by kernel_rfl) HD.out (fun hHeld => ?_)
  generalize hx0 : X.drew = x0 at *
  clear hx0
  refine wpAnyH_take (i := 0) (oi := { dst := some 114, op := Op.fieldAddr 55 (Operand.tmp 1) 1, type := 0, pos := "law.go:62", after := #[], guard := none }) (v := .pointer (some ⟨W.heap.size, 1, none⟩)) rfl (by kernel_rfl) (by kernel_rfl) (by kernel_rfl) (fun _ _ _ h => h) (Or.inl ⟨by rfl, by intro w hSw; go_simp⟩) (by assumption) ?_
  simp only [Act.put, List.setIfInBounds_toArray, List.set_cons_zero, List.set_cons_succ]
  refine wpAnyH_take (i := 1) (oi := { dst := some 115, op := Op.load 25 (Operand.tmp 114), type := 25, pos := "law.go:62", after := #[{ on := 0, ground := Ground.data }], guard := none }) (v := q.f.v) rfl (by kernel_rfl) (by kernel_rfl) (by kernel_rfl) (fun _ _ _ h => h) (yieldsIf_load_mid (by rfl) 25 _ rfl W.heap.size 1 rfl q.f.cs _ (fun w hSw => hSw.rng) under25 rfl (by rw [size25, F.len])) (by assumption) ?_
  simp only [Act.put, List.setIfInBounds_toArray, List.set_cons_zero, List.set_cons_succ]
  refine wpAnyH_take (i := 3) (oi := { dst := some 117, op := Op.fieldAddr 55 (Operand.tmp 1) 3, type := 0, pos := "law.go:62", after := #[], guard := none }) (v := .pointer (some ⟨W.heap.size, 21, none⟩)) rfl (by kernel_rfl) (by kernel_rfl) (by kernel_rfl) (fun _ _ _ h => h) (Or.inl ⟨by rfl, by intro w hSw; go_simp⟩) (by assumption) ?_
  simp only [Act.put, List.setIfInBounds_toArray, List.set_cons_zero, List.set_cons_succ]
  refine wpAnyH_take (i := 4) (oi := { dst := some 118, op := Op.load 22 (Operand.tmp 117), type := 22, pos := "law.go:62", after := #[{ on := 3, ground := Ground.data }], guard := none }) (v := .int .u32 q.a) rfl (by kernel_rfl) (by kernel_rfl) (by kernel_rfl) (fun _ _ _ h => h) (Or.inl ⟨by rfl, by intro w hSw; have y := hSw.ya; go_simp⟩) (by assumption) ?_
  simp only [Act.put, List.setIfInBounds_toArray, List.set_cons_zero, List.set_cons_succ]
  refine wpAnyH_ready (rs := [2, 9]) (by kernel_rfl) (by simp) (AllReadyH.cons (o := { dst := some 116, op := Op.call { callee := Callee.value (Operand.func 9), args := #[Operand.tmp 115], argTypes := #[25] }, type := 27, pos := "law.go:62", after := #[{ on := 1, ground := Ground.data }], guard := none }) rfl (fun KQ hK => ?_) (AllReadyH.cons (o := { dst := some 11, op := Op.alloc 27, type := 0, pos := "law.go:62", after := #[], guard := none }) rfl (fun KQ hK => ?_) AllReadyH.nil))
  · go_simp
    refine (file_any _ _).mono ?_
    rintro e w1 ⟨rfl, hb2⟩
    have HP3 := hid (HD.out.on hb2)
    clear hb2
    go_wp2_with fail
    refine hK.out _ _ HP3.out (fun hHeld => ?_)
    clear hK KQ
    try simp only [Act.put, List.setIfInBounds_toArray, List.set_cons_zero, List.set_cons_succ]
    refine wpAnyH_ready (rs := [5, 9]) (by kernel_rfl) (by simp) (AllReadyH.cons (o := { dst := some 119, op := Op.call { callee := Callee.value (Operand.func 16), args := #[Operand.tmp 116, Operand.tmp 118], argTypes := #[27, 22] }, type := 40, pos := "law.go:62", after := #[{ on := 2, ground := Ground.data }, { on := 4, ground := Ground.data }, { on := 2, ground := Ground.chain }], guard := none }) rfl (fun KQ hK => ?_) (AllReadyH.cons (o := { dst := some 11, op := Op.alloc 27, type := 0, pos := "law.go:62", after := #[], guard := none }) rfl (fun KQ hK => ?_) AllReadyH.nil))
    · go_simp
      refine (HF1.out _).mono ?_
      rintro e w4 ⟨rfl, hb5⟩
      have HP6 := hid (HP3.out.on hb5)
      clear hb5
      go_wp2_with fail
      refine hK.out _ _ HP6.out (fun hHeld => ?_)
      clear hK KQ
      try simp only [Act.put, List.setIfInBounds_toArray, List.set_cons_zero, List.set_cons_succ]
      refine wpAnyH_take (i := 6) (oi := { dst := some 113, op := Op.move (Operand.tmp 119), type := 40, pos := "law.go:62", after := #[{ on := 5, ground := Ground.data }], guard := none }) (v := .tuple #[fu.v, .int .i64 er]) rfl (by kernel_rfl) (by kernel_rfl) (by kernel_rfl) (fun _ _ _ h => h) (Or.inl ⟨by rfl, by intro w hSw; go_simp⟩) (by assumption) ?_
      simp only [Act.put, List.setIfInBounds_toArray, List.set_cons_zero, List.set_cons_succ]
      refine wpAnyH_take (i := 7) (oi := { dst := some 120, op := Op.extract (Operand.tmp 113) 0, type := 27, pos := "law.go:62", after := #[{ on := 6, ground := Ground.data }], guard := none }) (v := fu.v) rfl (by kernel_rfl) (by kernel_rfl) (by kernel_rfl) (fun _ _ _ h => h) (Or.inl ⟨by rfl, by intro w hSw; go_simp⟩) (by assumption) ?_
      simp only [Act.put, List.setIfInBounds_toArray, List.set_cons_zero, List.set_cons_succ]
      refine wpAnyH_take (i := 8) (oi := { dst := some 121, op := Op.extract (Operand.tmp 113) 1, type := 39, pos := "law.go:62", after := #[{ on := 6, ground := Ground.data }, { on := 10, ground := Ground.gcOnly Departure.lateStores }], guard := none }) (v := .int .i64 er) rfl (by kernel_rfl) (by kernel_rfl) (by kernel_rfl) (fun _ _ _ h => h) (Or.inl ⟨by rfl, by intro w hSw; go_simp⟩) (by assumption) ?_
      simp only [Act.put, List.setIfInBounds_toArray, List.set_cons_zero, List.set_cons_succ]
      refine wpAnyH_ready (rs := [9]) (by kernel_rfl) (by simp) (AllReadyH.cons (o := { dst := some 11, op := Op.alloc 27, type := 0, pos := "law.go:62", after := #[], guard := none }) rfl (fun KQ hK => ?_) AllReadyH.nil)
      go_simp
      have HT10 := hid HP6.out.cel.lt
      have HP7 := hid (HP6.out.on (below_one w4 (.cells #[.int .u32 0, .int .u32 0, .int .u32 0, .int .u32 0, .int .u32 0, .int .u32 0, .int .u32 0, .int .u32 0, .int .u32 0, .int .u32 0, .int .u32 0, .int .u32 0, .int .u32 0, .int .u32 0, .int .u32 0, .int .u32 0, .bool false, .bool false, .bool false] 27)))
      have HG8 := hid (cel_new27 w4)
      clear HP6
      generalize hy : w4.alloc _ = y9 at *
      clear hy
      generalize hg : w4.heap.size = g11 at *
      clear hg
      refine hK.out _ _ HP7.out (fun hHeld => ?_)
      clear hK KQ
      try simp only [Act.put, List.setIfInBounds_toArray, List.set_cons_zero, List.set_cons_succ]
      refine wpAnyH_ready (rs := [10]) (by kernel_rfl) (by simp) (AllReadyH.cons (o := { dst := none, op := Op.store 27 (Operand.tmp 11) (Operand.tmp 120), type := 0, pos := "law.go:62", after := #[{ on := 9, ground := Ground.data }, { on := 7, ground := Ground.data }, { on := 5, ground := Ground.chain }, { on := 0, ground := Ground.phase }, { on := 1, ground := Ground.phase }, { on := 2, ground := Ground.phase }, { on := 3, ground := Ground.phase }, { on := 4, ground := Ground.phase }, { on := 5, ground := Ground.phase }, { on := 6, ground := Ground.phase }, { on := 7, ground := Ground.phase }, { on := 8, ground := Ground.textOnly Departure.lateStores }, { on := 9, ground := Ground.phase }], guard := none }) rfl (fun KQ hK => ?_) AllReadyH.nil)
      rw [if_pos (by rfl)]
      refine wp_store_st 27 _ _ rfl g11 fu.cs rfl rfl HG8.out (by rw [size27, F.len]) (by rw [F.len, F.len]) fu.all ?_
      have HP11 := hid (HP7.out.but (ButL.setRow y9 g11 fu.cs.toArray (by simp)) HT10.out)
      have HK12 : Hid (OF W (y9.setRow g11 fu.cs.toArray) q g11 27 fu) := hid ⟨HP11.out, HG8.out.set fu.cs⟩
      clear HP7 HG8
      generalize hy : y9.setRow g11 _ = y13 at *
      clear hy
      refine hK.out _ _ HP11.out (fun hHeld => ?_)
      clear hK KQ
      try simp only [Act.put]
      refine wpAnyH_ready (rs := [11]) (by kernel_rfl) (by simp) (AllReadyH.cons (o := { dst := some 12, op := Op.assign (Operand.tmp 121), type := 39, pos := "law.go:62", after := #[{ on := 8, ground := Ground.data }, { on := 10, ground := Ground.chain }, { on := 0, ground := Ground.phase }, { on := 1, ground := Ground.phase }, { on := 2, ground := Ground.phase }, { on := 3, ground := Ground.phase }, { on := 4, ground := Ground.phase }, { on := 5, ground := Ground.phase }, { on := 6, ground := Ground.phase }, { on := 7, ground := Ground.phase }, { on := 8, ground := Ground.phase }, { on := 9, ground := Ground.phase }, { on := 10, ground := Ground.phase }], guard := none }) rfl (fun KQ hK => ?_) AllReadyH.nil)
      go_simp
      refine hK.out _ _ HP11.out (fun hHeld => ?_)
      clear hK KQ
      try simp only [Act.put, List.setIfInBounds_toArray, List.set_cons_zero, List.set_cons_succ]
      refine wpAnyH_done (by kernel_rfl) ?_ _
      go_upto_region 14 with fail
      have yA := HK12.out.ob.ya
      go_wp2_with (first | (refine wpList_load_mid rfl 25 _ rfl W.heap.size 1 rfl q.f.cs _ HK12.out.ob.rng under25 rfl (by rw [size25, F.len]) ?_) | fail)
      refine (HF2.out _).mono ?_
      rintro e v1 ⟨rfl, hv1⟩
      have HO1 := hid (HK12.out.on hv1)
      have HO1' := hid (HO1.out.on (below_one v1 (.cells #[.int .u32 0, .int .u32 0, .int .u32 0, .int .u32 0, .int .u32 0, .int .u32 0, .int .u32 0, .int .u32 0, .int .u32 0, .int .u32 0, .int .u32 0, .int .u32 0, .int .u32 0, .int .u32 0, .int .u32 0, .int .u32 0, .bool false, .bool false, .bool false] 25)))
      have HN1 := hid (cel_new25 v1)
      clear hv1 HK12 yA
      go_upto_region 15 with (refine wpList_store_g rfl _ _ rfl v1.heap.size F.zero fu rfl rfl HN1.out ?_; intro v2 hc2 hb2 hs2; have HO2 : Hid (OG W v2 q g11 v1.heap.size fu) := hid ⟨(HO1'.out.but hb2 HO1.out.ob.cel.lt (by have := HO1.out.a.lt; omega)).ob, (HO1'.out.but hb2 HO1.out.ob.cel.lt (by have := HO1.out.a.lt; omega)).a, hc2⟩; clear hc2 hb2 hs2 HO1' HN1 HO1)
      generalize hg13 : v1.heap.size = g13 at *
      clear hg13
      have HE := hid (HO2.out.on (Below.refl _ _).drew)
      clear HO2
      refine wp_region_held_drew (S := fun x => OG W x q g11 g13 fu) (by kernel_rfl) HE.out (fun hHeld => ?_)
      refine wpAnyH_take (i := 0) (oi := { dst := some 130, op := Op.fieldAddr 55 (Operand.tmp 1) 1, type := 0, pos := "law.go:64", after := #[], guard := none }) (v := .pointer (some ⟨W.heap.size, 1, none⟩)) rfl (by kernel_rfl) (by kernel_rfl) (by kernel_rfl) (fun _ _ _ h => h) (Or.inl ⟨by rfl, by intro w hSw; go_simp⟩) (by assumption) ?_
      simp only [Act.put, List.setIfInBounds_toArray, List.set_cons_zero, List.set_cons_succ]
      refine wpAnyH_take (i := 1) (oi := { dst := some 131, op := Op.load 25 (Operand.tmp 130), type := 25, pos := "law.go:64", after := #[{ on := 0, ground := Ground.data }], guard := none }) (v := q.f.v) rfl (by kernel_rfl) (by kernel_rfl) (by kernel_rfl) (fun _ _ _ h => h) (yieldsIf_load_mid (by rfl) 25 _ rfl W.heap.size 1 rfl q.f.cs _ (fun w hSw => hSw.ob.rng) under25 rfl (by rw [size25, F.len])) (by assumption) ?_
      simp only [Act.put, List.setIfInBounds_toArray, List.set_cons_zero, List.set_cons_succ]
      refine wpAnyH_take (i := 4) (oi := { dst := some 134, op := Op.fieldAddr 55 (Operand.tmp 1) 1, type := 0, pos := "law.go:64", after := #[], guard := none }) (v := .pointer (some ⟨W.heap.size, 1, none⟩)) rfl (by kernel_rfl) (by kernel_rfl) (by kernel_rfl) (fun _ _ _ h => h) (Or.inl ⟨by rfl, by intro w hSw; go_simp⟩) (by assumption) ?_
      simp only [Act.put, List.setIfInBounds_toArray, List.set_cons_zero, List.set_cons_succ]
      refine wpAnyH_take (i := 5) (oi := { dst := some 135, op := Op.load 25 (Operand.tmp 134), type := 25, pos := "law.go:64", after := #[{ on := 4, ground := Ground.data }], guard := none }) (v := q.f.v) rfl (by kernel_rfl) (by kernel_rfl) (by kernel_rfl) (fun _ _ _ h => h) (yieldsIf_load_mid (by rfl) 25 _ rfl W.heap.size 1 rfl q.f.cs _ (fun w hSw => hSw.ob.rng) under25 rfl (by rw [size25, F.len])) (by assumption) ?_
      simp only [Act.put, List.setIfInBounds_toArray, List.set_cons_zero, List.set_cons_succ]
      refine wpAnyH_ready (rs := [2]) (by kernel_rfl) (by simp) (AllReadyH.cons (o := { dst := some 132, op := Op.call { callee := Callee.value (Operand.func 9), args := #[Operand.tmp 131], argTypes := #[25] }, type := 27, pos := "law.go:64", after := #[{ on := 1, ground := Ground.data }], guard := none }) rfl (fun KQ hK => ?_) AllReadyH.nil)
      go_simp
      refine (file_any _ _).mono ?_
      rintro e wc1 ⟨rfl, hb1⟩
      have HD1 := hid (HE.out.on hb1)
      clear hb1 HE
      go_wp2_with fail
      refine hK.out _ _ HD1.out (fun hHeld => ?_)
      clear hK KQ
      try simp only [Act.put, List.setIfInBounds_toArray, List.set_cons_zero, List.set_cons_succ]
      refine wpAnyH_ready (rs := [3]) (by kernel_rfl) (by simp) (AllReadyH.cons (o := { dst := some 133, op := Op.call { callee := Callee.value (Operand.func 17), args := #[Operand.tmp 132], argTypes := #[27] }, type := 22, pos := "law.go:64", after := #[{ on := 2, ground := Ground.data }, { on := 2, ground := Ground.chain }], guard := none }) rfl (fun KQ hK => ?_) AllReadyH.nil)
      go_simp
      refine (flags_any _ _).mono ?_
      rintro e wc2 ⟨rfl, hb2⟩
      have HD2 := hid (HD1.out.on hb2)
      clear hb2 HD1
      go_wp2_with fail
      refine hK.out _ _ HD2.out (fun hHeld => ?_)
      clear hK KQ
      try simp only [Act.put, List.setIfInBounds_toArray, List.set_cons_zero, List.set_cons_succ]
      refine wpAnyH_ready (rs := [6]) (by kernel_rfl) (by simp) (AllReadyH.cons (o := { dst := some 136, op := Op.call { callee := Callee.value (Operand.func 31), args := #[Operand.tmp 135], argTypes := #[25] }, type := 22, pos := "law.go:64", after := #[{ on := 5, ground := Ground.data }, { on := 3, ground := Ground.chain }], guard := none }) rfl (fun KQ hK => ?_) AllReadyH.nil)
      go_simp
      refine (rflags_any _ _).mono ?_
      rintro e wc3 ⟨rfl, hb3⟩
      have HD3 := hid (HD2.out.on hb3)
      clear hb3 HD2
      go_wp2_with fail
      refine hK.out _ _ HD3.out (fun hHeld => ?_)
      clear hK KQ
      try simp only [Act.put, List.setIfInBounds_toArray, List.set_cons_zero, List.set_cons_succ]
      refine wpAnyH_take (i := 7) (oi := { dst := some 137, op := Op.binOp BinOp.eql 22 (Operand.tmp 133) (Operand.tmp 136) 22, type := 4, pos := "law.go:64", after := #[{ on := 3, ground := Ground.data }, { on := 6, ground := Ground.data }], guard := none }) (v := .bool true) rfl (by kernel_rfl) (by kernel_rfl) (by kernel_rfl) (fun _ _ _ h => h) (Or.inl ⟨by rfl, by intro w hSw; go_simp⟩) (by assumption) ?_
      simp only [Act.put, List.setIfInBounds_toArray, List.set_cons_zero, List.set_cons_succ]
      refine wpAnyH_take (i := 8) (oi := { dst := some 138, op := Op.move (Operand.tmp 137), type := 4, pos := "law.go:64", after := #[{ on := 7, ground := Ground.data }, { on := 6, ground := Ground.chain }], guard := none }) (v := .bool true) rfl (by kernel_rfl) (by kernel_rfl) (by kernel_rfl) (fun _ _ _ h => h) (Or.inl ⟨by rfl, by intro w hSw; go_simp⟩) (by assumption) ?_
      simp only [Act.put, List.setIfInBounds_toArray, List.set_cons_zero, List.set_cons_succ]
      refine wpAnyH_take (i := 9) (oi := { dst := some 139, op := Op.load 27 (Operand.tmp 11), type := 27, pos := "law.go:64", after := #[{ on := 8, ground := Ground.guard }], guard := some (8, true) }) (v := fu.v) rfl (by kernel_rfl) (by kernel_rfl) (by kernel_rfl) (fun _ _ _ h => h) (yieldsIf_load_mid (by rfl) 27 _ rfl g11 0 rfl fu.cs _ (fun w hSw => hSw.a.range) under27 rfl (by rw [size27, F.len])) (by assumption) ?_
      simp only [Act.put, List.setIfInBounds_toArray, List.set_cons_zero, List.set_cons_succ]
      refine wpAnyH_take (i := 10) (oi := { dst := some 140, op := Op.load 25 (Operand.tmp 13), type := 25, pos := "law.go:64", after := #[{ on := 8, ground := Ground.guard }], guard := some (8, true) }) (v := fu.v) rfl (by kernel_rfl) (by kernel_rfl) (by kernel_rfl) (fun _ _ _ h => h) (yieldsIf_load_mid (by rfl) 25 _ rfl g13 0 rfl fu.cs _ (fun w hSw => hSw.b.range) under25 rfl (by rw [size25, F.len])) (by assumption) ?_
      simp only [Act.put, List.setIfInBounds_toArray, List.set_cons_zero, List.set_cons_succ]
      refine wpAnyH_ready (rs := [11]) (by kernel_rfl) (by simp) (AllReadyH.cons (o := { dst := some 141, op := Op.call { callee := Callee.value (Operand.func 27), args := #[Operand.tmp 139, Operand.tmp 140], argTypes := #[27, 25] }, type := 4, pos := "law.go:64", after := #[{ on := 9, ground := Ground.data }, { on := 10, ground := Ground.data }, { on := 8, ground := Ground.chain }, { on := 8, ground := Ground.guard }], guard := some (8, true) }) rfl (fun KQ hK => ?_) AllReadyH.nil)
      go_simp
      refine (same_self_any _ _).mono ?_
      rintro e wc4 ⟨rfl, hb4⟩
      have HD4 := hid (HD3.out.on hb4)
      clear hb4 HD3
      go_wp2_with fail
      refine hK.out _ _ HD4.out (fun hHeld => ?_)
      clear hK KQ
      try simp only [Act.put, List.setIfInBounds_toArray, List.set_cons_zero, List.set_cons_succ]
      refine wpAnyH_take (i := 12) (oi := { dst := some 142, op := Op.pick (Operand.tmp 138) (Operand.tmp 141) (Operand.const (Value.bool false)), type := 4, pos := "law.go:64", after := #[{ on := 8, ground := Ground.data }, { on := 11, ground := Ground.data }], guard := none }) (v := .bool true) rfl (by kernel_rfl) (by kernel_rfl) (by kernel_rfl) (fun _ _ _ h => h) (Or.inl ⟨by rfl, by intro w hSw; go_simp⟩) (by assumption) ?_
      simp only [Act.put, List.setIfInBounds_toArray, List.set_cons_zero, List.set_cons_succ]
      refine wpAnyH_take (i := 13) (oi := { dst := some 143, op := Op.move (Operand.tmp 142), type := 4, pos := "law.go:64", after := #[{ on := 12, ground := Ground.data }, { on := 11, ground := Ground.chain }], guard := none }) (v := .bool true) rfl (by kernel_rfl) (by kernel_rfl) (by kernel_rfl) (fun _ _ _ h => h) (Or.inl ⟨by rfl, by intro w hSw; go_simp⟩) (by assumption) ?_
      simp only [Act.put, List.setIfInBounds_toArray, List.set_cons_zero, List.set_cons_succ]
      refine wpAnyH_take (i := 14) (oi := { dst := some 144, op := Op.move (Operand.tmp 12), type := 39, pos := "law.go:64", after := #[{ on := 13, ground := Ground.guard }], guard := some (13, true) }) (v := .int .i64 er) rfl (by kernel_rfl) (by kernel_rfl) (by kernel_rfl) (fun _ _ _ h => h) (Or.inl ⟨by rfl, by intro w hSw; go_simp⟩) (by assumption) ?_
      simp only [Act.put, List.setIfInBounds_toArray, List.set_cons_zero, List.set_cons_succ]
      refine wpAnyH_take (i := 15) (oi := { dst := some 145, op := Op.move (Operand.tmp 14), type := 3, pos := "law.go:64", after := #[{ on := 13, ground := Ground.guard }], guard := some (13, true) }) (v := .int .i64 er) rfl (by kernel_rfl) (by kernel_rfl) (by kernel_rfl) (fun _ _ _ h => h) (Or.inl ⟨by rfl, by intro w hSw; go_simp⟩) (by assumption) ?_
      simp only [Act.put, List.setIfInBounds_toArray, List.set_cons_zero, List.set_cons_succ]
      refine wpAnyH_take (i := 16) (oi := { dst := some 146, op := Op.binOp BinOp.eql 3 (Operand.tmp 144) (Operand.tmp 145) 3, type := 4, pos := "law.go:64", after := #[{ on := 14, ground := Ground.data }, { on := 15, ground := Ground.data }, { on := 13, ground := Ground.guard }], guard := some (13, true) }) (v := .bool true) rfl (by kernel_rfl) (by kernel_rfl) (by kernel_rfl) (fun _ _ _ h => h) (Or.inl ⟨by rfl, by intro w hSw; go_simp⟩) (by assumption) ?_
      simp only [Act.put, List.setIfInBounds_toArray, List.set_cons_zero, List.set_cons_succ]
      refine wpAnyH_take (i := 17) (oi := { dst := some 147, op := Op.pick (Operand.tmp 143) (Operand.tmp 146) (Operand.const (Value.bool false)), type := 4, pos := "law.go:64", after := #[{ on := 13, ground := Ground.data }, { on := 16, ground := Ground.data }], guard := none }) (v := .bool true) rfl (by kernel_rfl) (by kernel_rfl) (by kernel_rfl) (fun _ _ _ h => h) (Or.inl ⟨by rfl, by intro w hSw; go_simp⟩) (by assumption) ?_
      simp only [Act.put, List.setIfInBounds_toArray, List.set_cons_zero, List.set_cons_succ]
      refine wpAnyH_ready (rs := [18]) (by kernel_rfl) (by simp) (AllReadyH.cons (o := { dst := some 2, op := Op.assign (Operand.tmp 147), type := 4, pos := "law.go:64", after := #[{ on := 17, ground := Ground.data }, { on := 13, ground := Ground.chain }, { on := 0, ground := Ground.phase }, { on := 1, ground := Ground.phase }, { on := 2, ground := Ground.phase }, { on := 3, ground := Ground.phase }, { on := 4, ground := Ground.phase }, { on := 5, ground := Ground.phase }, { on := 6, ground := Ground.phase }, { on := 7, ground := Ground.phase }, { on := 8, ground := Ground.phase }, { on := 9, ground := Ground.phase }, { on := 10, ground := Ground.phase }, { on := 11, ground := Ground.phase }, { on := 12, ground := Ground.phase }, { on := 13, ground := Ground.phase }, { on := 14, ground := Ground.phase }, { on := 15, ground := Ground.phase }, { on := 16, ground := Ground.phase }, { on := 17, ground := Ground.phase }], guard := none }) rfl (fun KQ hK => ?_) AllReadyH.nil)
      go_simp
      refine hK.out _ _ HD4.out (fun hHeld => ?_)
      clear hK KQ
      try simp only [Act.put, List.setIfInBounds_toArray, List.set_cons_zero, List.set_cons_succ]
      refine wpAnyH_done (by kernel_rfl) ?_ _
      go_wp2_with fail
      go_ret
      exact ⟨rfl, HD4.out.ob.below⟩
    · go_simp
      have HT17 := hid HP3.out.cel.lt
      have HP14 := hid (HP3.out.on (below_one w1 (.cells #[.int .u32 0, .int .u32 0, .int .u32 0, .int .u32 0, .int .u32 0, .int .u32 0, .int .u32 0, .int .u32 0, .int .u32 0, .int .u32 0, .int .u32 0, .int .u32 0, .int .u32 0, .int .u32 0, .int .u32 0, .int .u32 0, .bool false, .bool false, .bool false] 27)))
      have HG15 := hid (cel_new27 w1)
      clear HP3
      generalize hy : w1.alloc _ = y16 at *
      clear hy
      generalize hg : w1.heap.size = g11 at *
      clear hg
      refine hK.out _ _ HP14.out (fun hHeld => ?_)
      clear hK KQ
      try simp only [Act.put, List.setIfInBounds_toArray, List.set_cons_zero, List.set_cons_succ]
      refine wpAnyH_ready (rs := [5]) (by kernel_rfl) (by simp) (AllReadyH.cons (o := { dst := some 119, op := Op.call { callee := Callee.value (Operand.func 16), args := #[Operand.tmp 116, Operand.tmp 118], argTypes := #[27, 22] }, type := 40, pos := "law.go:62", after := #[{ on := 2, ground := Ground.data }, { on := 4, ground := Ground.data }, { on := 2, ground := Ground.chain }], guard := none }) rfl (fun KQ hK => ?_) AllReadyH.nil)
      go_simp
      refine (HF1.out _).mono ?_
      rintro e w18 ⟨rfl, hb19⟩
      have HP20 := hid (HP14.out.on hb19)
      have HG21 := hid (HG15.out.on hb19)
      clear hb19
      go_wp2_with fail
      refine hK.out _ _ HP20.out (fun hHeld => ?_)
      clear hK KQ
      try simp only [Act.put, List.setIfInBounds_toArray, List.set_cons_zero, List.set_cons_succ]
      refine wpAnyH_take (i := 6) (oi := { dst := some 113, op := Op.move (Operand.tmp 119), type := 40, pos := "law.go:62", after := #[{ on := 5, ground := Ground.data }], guard := none }) (v := .tuple #[fu.v, .int .i64 er]) rfl (by kernel_rfl) (by kernel_rfl) (by kernel_rfl) (fun _ _ _ h => h) (Or.inl ⟨by rfl, by intro w hSw; go_simp⟩) (by assumption) ?_
      simp only [Act.put, List.setIfInBounds_toArray, List.set_cons_zero, List.set_cons_succ]
      refine wpAnyH_take (i := 7) (oi := { dst := some 120, op := Op.extract (Operand.tmp 113) 0, type := 27, pos := "law.go:62", after := #[{ on := 6, ground := Ground.data }], guard := none }) (v := fu.v) rfl (by kernel_rfl) (by kernel_rfl) (by kernel_rfl) (fun _ _ _ h => h) (Or.inl ⟨by rfl, by intro w hSw; go_simp⟩) (by assumption) ?_
      simp only [Act.put, List.setIfInBounds_toArray, List.set_cons_zero, List.set_cons_succ]
      refine wpAnyH_take (i := 8) (oi := { dst := some 121, op := Op.extract (Operand.tmp 113) 1, type := 39, pos := "law.go:62", after := #[{ on := 6, ground := Ground.data }, { on := 10, ground := Ground.gcOnly Departure.lateStores }], guard := none }) (v := .int .i64 er) rfl (by kernel_rfl) (by kernel_rfl) (by kernel_rfl) (fun _ _ _ h => h) (Or.inl ⟨by rfl, by intro w hSw; go_simp⟩) (by assumption) ?_
      simp only [Act.put, List.setIfInBounds_toArray, List.set_cons_zero, List.set_cons_succ]
      refine wpAnyH_ready (rs := [10]) (by kernel_rfl) (by simp) (AllReadyH.cons (o := { dst := none, op := Op.store 27 (Operand.tmp 11) (Operand.tmp 120), type := 0, pos := "law.go:62", after := #[{ on := 9, ground := Ground.data }, { on := 7, ground := Ground.data }, { on := 5, ground := Ground.chain }, { on := 0, ground := Ground.phase }, { on := 1, ground := Ground.phase }, { on := 2, ground := Ground.phase }, { on := 3, ground := Ground.phase }, { on := 4, ground := Ground.phase }, { on := 5, ground := Ground.phase }, { on := 6, ground := Ground.phase }, { on := 7, ground := Ground.phase }, { on := 8, ground := Ground.textOnly Departure.lateStores }, { on := 9, ground := Ground.phase }], guard := none }) rfl (fun KQ hK => ?_) AllReadyH.nil)
      rw [if_pos (by rfl)]
      refine wp_store_st 27 _ _ rfl g11 fu.cs rfl rfl HG21.out (by rw [size27, F.len]) (by rw [F.len, F.len]) fu.all ?_
      have HP22 := hid (HP20.out.but (ButL.setRow w18 g11 fu.cs.toArray (by simp)) HT17.out)
      have HK23 : Hid (OF W (w18.setRow g11 fu.cs.toArray) q g11 27 fu) := hid ⟨HP22.out, HG21.out.set fu.cs⟩
      clear HP20 HG21
      generalize hy : w18.setRow g11 _ = y24 at *
      clear hy
      refine hK.out _ _ HP22.out (fun hHeld => ?_)
      clear hK KQ
      try simp only [Act.put]
      refine wpAnyH_ready (rs := [11]) (by kernel_rfl) (by simp) (AllReadyH.cons (o := { dst := some 12, op := Op.assign (Operand.tmp 121), type := 39, pos := "law.go:62", after := #[{ on := 8, ground := Ground.data }, { on := 10, ground := Ground.chain }, { on := 0, ground := Ground.phase }, { on := 1, ground := Ground.phase }, { on := 2, ground := Ground.phase }, { on := 3, ground := Ground.phase }, { on := 4, ground := Ground.phase }, { on := 5, ground := Ground.phase }, { on := 6, ground := Ground.phase }, { on := 7, ground := Ground.phase }, { on := 8, ground := Ground.phase }, { on := 9, ground := Ground.phase }, { on := 10, ground := Ground.phase }], guard := none }) rfl (fun KQ hK => ?_) AllReadyH.nil)
      go_simp
      refine hK.out _ _ HP22.out (fun hHeld => ?_)
      clear hK KQ
      try simp only [Act.put, List.setIfInBounds_toArray, List.set_cons_zero, List.set_cons_succ]
      refine wpAnyH_done (by kernel_rfl) ?_ _
      go_upto_region 14 with fail
      have yA := HK23.out.ob.ya
      go_wp2_with (first | (refine wpList_load_mid rfl 25 _ rfl W.heap.size 1 rfl q.f.cs _ HK23.out.ob.rng under25 rfl (by rw [size25, F.len]) ?_) | fail)
      refine (HF2.out _).mono ?_
      rintro e v1 ⟨rfl, hv1⟩
      have HO1 := hid (HK23.out.on hv1)
      have HO1' := hid (HO1.out.on (below_one v1 (.cells #[.int .u32 0, .int .u32 0, .int .u32 0, .int .u32 0, .int .u32 0, .int .u32 0, .int .u32 0, .int .u32 0, .int .u32 0, .int .u32 0, .int .u32 0, .int .u32 0, .int .u32 0, .int .u32 0, .int .u32 0, .int .u32 0, .bool false, .bool false, .bool false] 25)))
      have HN1 := hid (cel_new25 v1)
      clear hv1 HK23 yA
      go_upto_region 15 with (refine wpList_store_g rfl _ _ rfl v1.heap.size F.zero fu rfl rfl HN1.out ?_; intro v2 hc2 hb2 hs2; have HO2 : Hid (OG W v2 q g11 v1.heap.size fu) := hid ⟨(HO1'.out.but hb2 HO1.out.ob.cel.lt (by have := HO1.out.a.lt; omega)).ob, (HO1'.out.but hb2 HO1.out.ob.cel.lt (by have := HO1.out.a.lt; omega)).a, hc2⟩; clear hc2 hb2 hs2 HO1' HN1 HO1)
      generalize hg13 : v1.heap.size = g13 at *
      clear hg13
      have HE := hid (HO2.out.on (Below.refl _ _).drew)
      clear HO2
      refine wp_region_held_drew (S := fun x => OG W x q g11 g13 fu) (by kernel_rfl) HE.out (fun hHeld => ?_)
      refine wpAnyH_take (i := 0) (oi := { dst := some 130, op := Op.fieldAddr 55 (Operand.tmp 1) 1, type := 0, pos := "law.go:64", after := #[], guard := none }) (v := .pointer (some ⟨W.heap.size, 1, none⟩)) rfl (by kernel_rfl) (by kernel_rfl) (by kernel_rfl) (fun _ _ _ h => h) (Or.inl ⟨by rfl, by intro w hSw; go_simp⟩) (by assumption) ?_
      simp only [Act.put, List.setIfInBounds_toArray, List.set_cons_zero, List.set_cons_succ]
      refine wpAnyH_take (i := 1) (oi := { dst := some 131, op := Op.load 25 (Operand.tmp 130), type := 25, pos := "law.go:64", after := #[{ on := 0, ground := Ground.data }], guard := none }) (v := q.f.v) rfl (by kernel_rfl) (by kernel_rfl) (by kernel_rfl) (fun _ _ _ h => h) (yieldsIf_load_mid (by rfl) 25 _ rfl W.heap.size 1 rfl q.f.cs _ (fun w hSw => hSw.ob.rng) under25 rfl (by rw [size25, F.len])) (by assumption) ?_
      simp only [Act.put, List.setIfInBounds_toArray, List.set_cons_zero, List.set_cons_succ]
      refine wpAnyH_take (i := 4) (oi := { dst := some 134, op := Op.fieldAddr 55 (Operand.tmp 1) 1, type := 0, pos := "law.go:64", after := #[], guard := none }) (v := .pointer (some ⟨W.heap.size, 1, none⟩)) rfl (by kernel_rfl) (by kernel_rfl) (by kernel_rfl) (fun _ _ _ h => h) (Or.inl ⟨by rfl, by intro w hSw; go_simp⟩) (by assumption) ?_
      simp only [Act.put, List.setIfInBounds_toArray, List.set_cons_zero, List.set_cons_succ]
      refine wpAnyH_take (i := 5) (oi := { dst := some 135, op := Op.load 25 (Operand.tmp 134), type := 25, pos := "law.go:64", after := #[{ on := 4, ground := Ground.data }], guard := none }) (v := q.f.v) rfl (by kernel_rfl) (by kernel_rfl) (by kernel_rfl) (fun _ _ _ h => h) (yieldsIf_load_mid (by rfl) 25 _ rfl W.heap.size 1 rfl q.f.cs _ (fun w hSw => hSw.ob.rng) under25 rfl (by rw [size25, F.len])) (by assumption) ?_
      simp only [Act.put, List.setIfInBounds_toArray, List.set_cons_zero, List.set_cons_succ]
      refine wpAnyH_ready (rs := [2]) (by kernel_rfl) (by simp) (AllReadyH.cons (o := { dst := some 132, op := Op.call { callee := Callee.value (Operand.func 9), args := #[Operand.tmp 131], argTypes := #[25] }, type := 27, pos := "law.go:64", after := #[{ on := 1, ground := Ground.data }], guard := none }) rfl (fun KQ hK => ?_) AllReadyH.nil)
      go_simp
      refine (file_any _ _).mono ?_
      rintro e wc5 ⟨rfl, hb5⟩
      have HD5 := hid (HE.out.on hb5)
      clear hb5 HE
      go_wp2_with fail
      refine hK.out _ _ HD5.out (fun hHeld => ?_)
      clear hK KQ
      try simp only [Act.put, List.setIfInBounds_toArray, List.set_cons_zero, List.set_cons_succ]
      refine wpAnyH_ready (rs := [3]) (by kernel_rfl) (by simp) (AllReadyH.cons (o := { dst := some 133, op := Op.call { callee := Callee.value (Operand.func 17), args := #[Operand.tmp 132], argTypes := #[27] }, type := 22, pos := "law.go:64", after := #[{ on := 2, ground := Ground.data }, { on := 2, ground := Ground.chain }], guard := none }) rfl (fun KQ hK => ?_) AllReadyH.nil)
      go_simp
      refine (flags_any _ _).mono ?_
      rintro e wc6 ⟨rfl, hb6⟩
      have HD6 := hid (HD5.out.on hb6)
      clear hb6 HD5
      go_wp2_with fail
      refine hK.out _ _ HD6.out (fun hHeld => ?_)
      clear hK KQ
      try simp only [Act.put, List.setIfInBounds_toArray, List.set_cons_zero, List.set_cons_succ]
      refine wpAnyH_ready (rs := [6]) (by kernel_rfl) (by simp) (AllReadyH.cons (o := { dst := some 136, op := Op.call { callee := Callee.value (Operand.func 31), args := #[Operand.tmp 135], argTypes := #[25] }, type := 22, pos := "law.go:64", after := #[{ on := 5, ground := Ground.data }, { on := 3, ground := Ground.chain }], guard := none }) rfl (fun KQ hK => ?_) AllReadyH.nil)
      go_simp
      refine (rflags_any _ _).mono ?_
      rintro e wc7 ⟨rfl, hb7⟩
      have HD7 := hid (HD6.out.on hb7)
      clear hb7 HD6
      go_wp2_with fail
      refine hK.out _ _ HD7.out (fun hHeld => ?_)
      clear hK KQ
      try simp only [Act.put, List.setIfInBounds_toArray, List.set_cons_zero, List.set_cons_succ]
      refine wpAnyH_take (i := 7) (oi := { dst := some 137, op := Op.binOp BinOp.eql 22 (Operand.tmp 133) (Operand.tmp 136) 22, type := 4, pos := "law.go:64", after := #[{ on := 3, ground := Ground.data }, { on := 6, ground := Ground.data }], guard := none }) (v := .bool true) rfl (by kernel_rfl) (by kernel_rfl) (by kernel_rfl) (fun _ _ _ h => h) (Or.inl ⟨by rfl, by intro w hSw; go_simp⟩) (by assumption) ?_
      simp only [Act.put, List.setIfInBounds_toArray, List.set_cons_zero, List.set_cons_succ]
      refine wpAnyH_take (i := 8) (oi := { dst := some 138, op := Op.move (Operand.tmp 137), type := 4, pos := "law.go:64", after := #[{ on := 7, ground := Ground.data }, { on := 6, ground := Ground.chain }], guard := none }) (v := .bool true) rfl (by kernel_rfl) (by kernel_rfl) (by kernel_rfl) (fun _ _ _ h => h) (Or.inl ⟨by rfl, by intro w hSw; go_simp⟩) (by assumption) ?_
      simp only [Act.put, List.setIfInBounds_toArray, List.set_cons_zero, List.set_cons_succ]
      refine wpAnyH_take (i := 9) (oi := { dst := some 139, op := Op.load 27 (Operand.tmp 11), type := 27, pos := "law.go:64", after := #[{ on := 8, ground := Ground.guard }], guard := some (8, true) }) (v := fu.v) rfl (by kernel_rfl) (by kernel_rfl) (by kernel_rfl) (fun _ _ _ h => h) (yieldsIf_load_mid (by rfl) 27 _ rfl g11 0 rfl fu.cs _ (fun w hSw => hSw.a.range) under27 rfl (by rw [size27, F.len])) (by assumption) ?_
      simp only [Act.put, List.setIfInBounds_toArray, List.set_cons_zero, List.set_cons_succ]
      refine wpAnyH_take (i := 10) (oi := { dst := some 140, op := Op.load 25 (Operand.tmp 13), type := 25, pos := "law.go:64", after := #[{ on := 8, ground := Ground.guard }], guard := some (8, true) }) (v := fu.v) rfl (by kernel_rfl) (by kernel_rfl) (by kernel_rfl) (fun _ _ _ h => h) (yieldsIf_load_mid (by rfl) 25 _ rfl g13 0 rfl fu.cs _ (fun w hSw => hSw.b.range) under25 rfl (by rw [size25, F.len])) (by assumption) ?_
      simp only [Act.put, List.setIfInBounds_toArray, List.set_cons_zero, List.set_cons_succ]
      refine wpAnyH_ready (rs := [11]) (by kernel_rfl) (by simp) (AllReadyH.cons (o := { dst := some 141, op := Op.call { callee := Callee.value (Operand.func 27), args := #[Operand.tmp 139, Operand.tmp 140], argTypes := #[27, 25] }, type := 4, pos := "law.go:64", after := #[{ on := 9, ground := Ground.data }, { on := 10, ground := Ground.data }, { on := 8, ground := Ground.chain }, { on := 8, ground := Ground.guard }], guard := some (8, true) }) rfl (fun KQ hK => ?_) AllReadyH.nil)
      go_simp
      refine (same_self_any _ _).mono ?_
      rintro e wc8 ⟨rfl, hb8⟩
      have HD8 := hid (HD7.out.on hb8)
      clear hb8 HD7
      go_wp2_with fail
      refine hK.out _ _ HD8.out (fun hHeld => ?_)
      clear hK KQ
      try simp only [Act.put, List.setIfInBounds_toArray, List.set_cons_zero, List.set_cons_succ]
      refine wpAnyH_take (i := 12) (oi := { dst := some 142, op := Op.pick (Operand.tmp 138) (Operand.tmp 141) (Operand.const (Value.bool false)), type := 4, pos := "law.go:64", after := #[{ on := 8, ground := Ground.data }, { on := 11, ground := Ground.data }], guard := none }) (v := .bool true) rfl (by kernel_rfl) (by kernel_rfl) (by kernel_rfl) (fun _ _ _ h => h) (Or.inl ⟨by rfl, by intro w hSw; go_simp⟩) (by assumption) ?_
      simp only [Act.put, List.setIfInBounds_toArray, List.set_cons_zero, List.set_cons_succ]
      refine wpAnyH_take (i := 13) (oi := { dst := some 143, op := Op.move (Operand.tmp 142), type := 4, pos := "law.go:64", after := #[{ on := 12, ground := Ground.data }, { on := 11, ground := Ground.chain }], guard := none }) (v := .bool true) rfl (by kernel_rfl) (by kernel_rfl) (by kernel_rfl) (fun _ _ _ h => h) (Or.inl ⟨by rfl, by intro w hSw; go_simp⟩) (by assumption) ?_
      simp only [Act.put, List.setIfInBounds_toArray, List.set_cons_zero, List.set_cons_succ]
      refine wpAnyH_take (i := 14) (oi := { dst := some 144, op := Op.move (Operand.tmp 12), type := 39, pos := "law.go:64", after := #[{ on := 13, ground := Ground.guard }], guard := some (13, true) }) (v := .int .i64 er) rfl (by kernel_rfl) (by kernel_rfl) (by kernel_rfl) (fun _ _ _ h => h) (Or.inl ⟨by rfl, by intro w hSw; go_simp⟩) (by assumption) ?_
      simp only [Act.put, List.setIfInBounds_toArray, List.set_cons_zero, List.set_cons_succ]
      refine wpAnyH_take (i := 15) (oi := { dst := some 145, op := Op.move (Operand.tmp 14), type := 3, pos := "law.go:64", after := #[{ on := 13, ground := Ground.guard }], guard := some (13, true) }) (v := .int .i64 er) rfl (by kernel_rfl) (by kernel_rfl) (by kernel_rfl) (fun _ _ _ h => h) (Or.inl ⟨by rfl, by intro w hSw; go_simp⟩) (by assumption) ?_
      simp only [Act.put, List.setIfInBounds_toArray, List.set_cons_zero, List.set_cons_succ]
      refine wpAnyH_take (i := 16) (oi := { dst := some 146, op := Op.binOp BinOp.eql 3 (Operand.tmp 144) (Operand.tmp 145) 3, type := 4, pos := "law.go:64", after := #[{ on := 14, ground := Ground.data }, { on := 15, ground := Ground.data }, { on := 13, ground := Ground.guard }], guard := some (13, true) }) (v := .bool true) rfl (by kernel_rfl) (by kernel_rfl) (by kernel_rfl) (fun _ _ _ h => h) (Or.inl ⟨by rfl, by intro w hSw; go_simp⟩) (by assumption) ?_
      simp only [Act.put, List.setIfInBounds_toArray, List.set_cons_zero, List.set_cons_succ]
      refine wpAnyH_take (i := 17) (oi := { dst := some 147, op := Op.pick (Operand.tmp 143) (Operand.tmp 146) (Operand.const (Value.bool false)), type := 4, pos := "law.go:64", after := #[{ on := 13, ground := Ground.data }, { on := 16, ground := Ground.data }], guard := none }) (v := .bool true) rfl (by kernel_rfl) (by kernel_rfl) (by kernel_rfl) (fun _ _ _ h => h) (Or.inl ⟨by rfl, by intro w hSw; go_simp⟩) (by assumption) ?_
      simp only [Act.put, List.setIfInBounds_toArray, List.set_cons_zero, List.set_cons_succ]
      refine wpAnyH_ready (rs := [18]) (by kernel_rfl) (by simp) (AllReadyH.cons (o := { dst := some 2, op := Op.assign (Operand.tmp 147), type := 4, pos := "law.go:64", after := #[{ on := 17, ground := Ground.data }, { on := 13, ground := Ground.chain }, { on := 0, ground := Ground.phase }, { on := 1, ground := Ground.phase }, { on := 2, ground := Ground.phase }, { on := 3, ground := Ground.phase }, { on := 4, ground := Ground.phase }, { on := 5, ground := Ground.phase }, { on := 6, ground := Ground.phase }, { on := 7, ground := Ground.phase }, { on := 8, ground := Ground.phase }, { on := 9, ground := Ground.phase }, { on := 10, ground := Ground.phase }, { on := 11, ground := Ground.phase }, { on := 12, ground := Ground.phase }, { on := 13, ground := Ground.phase }, { on := 14, ground := Ground.phase }, { on := 15, ground := Ground.phase }, { on := 16, ground := Ground.phase }, { on := 17, ground := Ground.phase }], guard := none }) rfl (fun KQ hK => ?_) AllReadyH.nil)
      go_simp
      refine hK.out _ _ HD8.out (fun hHeld => ?_)
      clear hK KQ
      try simp only [Act.put, List.setIfInBounds_toArray, List.set_cons_zero, List.set_cons_succ]
      refine wpAnyH_done (by kernel_rfl) ?_ _
      go_wp2_with fail
      go_ret
      exact ⟨rfl, HD8.out.ob.below⟩
  · go_simp
    have HT28 := hid HD.out.cel.lt
    have HP25 := hid (HD.out.on (below_one x0 (.cells #[.int .u32 0, .int .u32 0, .int .u32 0, .int .u32 0, .int .u32 0, .int .u32 0, .int .u32 0, .int .u32 0, .int .u32 0, .int .u32 0, .int .u32 0, .int .u32 0, .int .u32 0, .int .u32 0, .int .u32 0, .int .u32 0, .bool false, .bool false, .bool false] 27)))
    have HG26 := hid (cel_new27 x0)
    clear HD
    generalize hy : x0.alloc _ = y27 at *
    clear hy
    generalize hg : x0.heap.size = g11 at *
    clear hg
    refine hK.out _ _ HP25.out (fun hHeld => ?_)
    clear hK KQ
    try simp only [Act.put, List.setIfInBounds_toArray, List.set_cons_zero, List.set_cons_succ]
    refine wpAnyH_ready (rs := [2]) (by kernel_rfl) (by simp) (AllReadyH.cons (o := { dst := some 116, op := Op.call { callee := Callee.value (Operand.func 9), args := #[Operand.tmp 115], argTypes := #[25] }, type := 27, pos := "law.go:62", after := #[{ on := 1, ground := Ground.data }], guard := none }) rfl (fun KQ hK => ?_) AllReadyH.nil)
    go_simp
    refine (file_any _ _).mono ?_
    rintro e w29 ⟨rfl, hb30⟩
    have HP31 := hid (HP25.out.on hb30)
    have HG32 := hid (HG26.out.on hb30)
    clear hb30
    go_wp2_with fail
    refine hK.out _ _ HP31.out (fun hHeld => ?_)
    clear hK KQ
    try simp only [Act.put, List.setIfInBounds_toArray, List.set_cons_zero, List.set_cons_succ]
    refine wpAnyH_ready (rs := [5]) (by kernel_rfl) (by simp) (AllReadyH.cons (o := { dst := some 119, op := Op.call { callee := Callee.value (Operand.func 16), args := #[Operand.tmp 116, Operand.tmp 118], argTypes := #[27, 22] }, type := 40, pos := "law.go:62", after := #[{ on := 2, ground := Ground.data }, { on := 4, ground := Ground.data }, { on := 2, ground := Ground.chain }], guard := none }) rfl (fun KQ hK => ?_) AllReadyH.nil)
    go_simp
    refine (HF1.out _).mono ?_
    rintro e w33 ⟨rfl, hb34⟩
    have HP35 := hid (HP31.out.on hb34)
    have HG36 := hid (HG32.out.on hb34)
    clear hb34
    go_wp2_with fail
    refine hK.out _ _ HP35.out (fun hHeld => ?_)
    clear hK KQ
    try simp only [Act.put, List.setIfInBounds_toArray, List.set_cons_zero, List.set_cons_succ]
    refine wpAnyH_take (i := 6) (oi := { dst := some 113, op := Op.move (Operand.tmp 119), type := 40, pos := "law.go:62", after := #[{ on := 5, ground := Ground.data }], guard := none }) (v := .tuple #[fu.v, .int .i64 er]) rfl (by kernel_rfl) (by kernel_rfl) (by kernel_rfl) (fun _ _ _ h => h) (Or.inl ⟨by rfl, by intro w hSw; go_simp⟩) (by assumption) ?_
    simp only [Act.put, List.setIfInBounds_toArray, List.set_cons_zero, List.set_cons_succ]
    refine wpAnyH_take (i := 7) (oi := { dst := some 120, op := Op.extract (Operand.tmp 113) 0, type := 27, pos := "law.go:62", after := #[{ on := 6, ground := Ground.data }], guard := none }) (v := fu.v) rfl (by kernel_rfl) (by kernel_rfl) (by kernel_rfl) (fun _ _ _ h => h) (Or.inl ⟨by rfl, by intro w hSw; go_simp⟩) (by assumption) ?_
    simp only [Act.put, List.setIfInBounds_toArray, List.set_cons_zero, List.set_cons_succ]
    refine wpAnyH_take (i := 8) (oi := { dst := some 121, op := Op.extract (Operand.tmp 113) 1, type := 39, pos := "law.go:62", after := #[{ on := 6, ground := Ground.data }, { on := 10, ground := Ground.gcOnly Departure.lateStores }], guard := none }) (v := .int .i64 er) rfl (by kernel_rfl) (by kernel_rfl) (by kernel_rfl) (fun _ _ _ h => h) (Or.inl ⟨by rfl, by intro w hSw; go_simp⟩) (by assumption) ?_
    simp only [Act.put, List.setIfInBounds_toArray, List.set_cons_zero, List.set_cons_succ]
    refine wpAnyH_ready (rs := [10]) (by kernel_rfl) (by simp) (AllReadyH.cons (o := { dst := none, op := Op.store 27 (Operand.tmp 11) (Operand.tmp 120), type := 0, pos := "law.go:62", after := #[{ on := 9, ground := Ground.data }, { on := 7, ground := Ground.data }, { on := 5, ground := Ground.chain }, { on := 0, ground := Ground.phase }, { on := 1, ground := Ground.phase }, { on := 2, ground := Ground.phase }, { on := 3, ground := Ground.phase }, { on := 4, ground := Ground.phase }, { on := 5, ground := Ground.phase }, { on := 6, ground := Ground.phase }, { on := 7, ground := Ground.phase }, { on := 8, ground := Ground.textOnly Departure.lateStores }, { on := 9, ground := Ground.phase }], guard := none }) rfl (fun KQ hK => ?_) AllReadyH.nil)
    rw [if_pos (by rfl)]
    refine wp_store_st 27 _ _ rfl g11 fu.cs rfl rfl HG36.out (by rw [size27, F.len]) (by rw [F.len, F.len]) fu.all ?_
    have HP37 := hid (HP35.out.but (ButL.setRow w33 g11 fu.cs.toArray (by simp)) HT28.out)
    have HK38 : Hid (OF W (w33.setRow g11 fu.cs.toArray) q g11 27 fu) := hid ⟨HP37.out, HG36.out.set fu.cs⟩
    clear HP35 HG36
    generalize hy : w33.setRow g11 _ = y39 at *
    clear hy
    refine hK.out _ _ HP37.out (fun hHeld => ?_)
    clear hK KQ
    try simp only [Act.put]
    refine wpAnyH_ready (rs := [11]) (by kernel_rfl) (by simp) (AllReadyH.cons (o := { dst := some 12, op := Op.assign (Operand.tmp 121), type := 39, pos := "law.go:62", after := #[{ on := 8, ground := Ground.data }, { on := 10, ground := Ground.chain }, { on := 0, ground := Ground.phase }, { on := 1, ground := Ground.phase }, { on := 2, ground := Ground.phase }, { on := 3, ground := Ground.phase }, { on := 4, ground := Ground.phase }, { on := 5, ground := Ground.phase }, { on := 6, ground := Ground.phase }, { on := 7, ground := Ground.phase }, { on := 8, ground := Ground.phase }, { on := 9, ground := Ground.phase }, { on := 10, ground := Ground.phase }], guard := none }) rfl (fun KQ hK => ?_) AllReadyH.nil)
    go_simp
    refine hK.out _ _ HP37.out (fun hHeld => ?_)
    clear hK KQ
    try simp only [Act.put, List.setIfInBounds_toArray, List.set_cons_zero, List.set_cons_succ]
    refine wpAnyH_done (by kernel_rfl) ?_ _
    go_upto_region 14 with fail
    have yA := HK38.out.ob.ya
    go_wp2_with (first | (refine wpList_load_mid rfl 25 _ rfl W.heap.size 1 rfl q.f.cs _ HK38.out.ob.rng under25 rfl (by rw [size25, F.len]) ?_) | fail)
    refine (HF2.out _).mono ?_
    rintro e v1 ⟨rfl, hv1⟩
    have HO1 := hid (HK38.out.on hv1)
    have HO1' := hid (HO1.out.on (below_one v1 (.cells #[.int .u32 0, .int .u32 0, .int .u32 0, .int .u32 0, .int .u32 0, .int .u32 0, .int .u32 0, .int .u32 0, .int .u32 0, .int .u32 0, .int .u32 0, .int .u32 0, .int .u32 0, .int .u32 0, .int .u32 0, .int .u32 0, .bool false, .bool false, .bool false] 25)))
    have HN1 := hid (cel_new25 v1)
    clear hv1 HK38 yA
    go_upto_region 15 with (refine wpList_store_g rfl _ _ rfl v1.heap.size F.zero fu rfl rfl HN1.out ?_; intro v2 hc2 hb2 hs2; have HO2 : Hid (OG W v2 q g11 v1.heap.size fu) := hid ⟨(HO1'.out.but hb2 HO1.out.ob.cel.lt (by have := HO1.out.a.lt; omega)).ob, (HO1'.out.but hb2 HO1.out.ob.cel.lt (by have := HO1.out.a.lt; omega)).a, hc2⟩; clear hc2 hb2 hs2 HO1' HN1 HO1)
    generalize hg13 : v1.heap.size = g13 at *
    clear hg13
    have HE := hid (HO2.out.on (Below.refl _ _).drew)
    clear HO2
    refine wp_region_held_drew (S := fun x => OG W x q g11 g13 fu) (by kernel_rfl) HE.out (fun hHeld => ?_)
    refine wpAnyH_take (i := 0) (oi := { dst := some 130, op := Op.fieldAddr 55 (Operand.tmp 1) 1, type := 0, pos := "law.go:64", after := #[], guard := none }) (v := .pointer (some ⟨W.heap.size, 1, none⟩)) rfl (by kernel_rfl) (by kernel_rfl) (by kernel_rfl) (fun _ _ _ h => h) (Or.inl ⟨by rfl, by intro w hSw; go_simp⟩) (by assumption) ?_
    simp only [Act.put, List.setIfInBounds_toArray, List.set_cons_zero, List.set_cons_succ]
    refine wpAnyH_take (i := 1) (oi := { dst := some 131, op := Op.load 25 (Operand.tmp 130), type := 25, pos := "law.go:64", after := #[{ on := 0, ground := Ground.data }], guard := none }) (v := q.f.v) rfl (by kernel_rfl) (by kernel_rfl) (by kernel_rfl) (fun _ _ _ h => h) (yieldsIf_load_mid (by rfl) 25 _ rfl W.heap.size 1 rfl q.f.cs _ (fun w hSw => hSw.ob.rng) under25 rfl (by rw [size25, F.len])) (by assumption) ?_
    simp only [Act.put, List.setIfInBounds_toArray, List.set_cons_zero, List.set_cons_succ]
    refine wpAnyH_take (i := 4) (oi := { dst := some 134, op := Op.fieldAddr 55 (Operand.tmp 1) 1, type := 0, pos := "law.go:64", after := #[], guard := none }) (v := .pointer (some ⟨W.heap.size, 1, none⟩)) rfl (by kernel_rfl) (by kernel_rfl) (by kernel_rfl) (fun _ _ _ h => h) (Or.inl ⟨by rfl, by intro w hSw; go_simp⟩) (by assumption) ?_
    simp only [Act.put, List.setIfInBounds_toArray, List.set_cons_zero, List.set_cons_succ]
    refine wpAnyH_take (i := 5) (oi := { dst := some 135, op := Op.load 25 (Operand.tmp 134), type := 25, pos := "law.go:64", after := #[{ on := 4, ground := Ground.data }], guard := none }) (v := q.f.v) rfl (by kernel_rfl) (by kernel_rfl) (by kernel_rfl) (fun _ _ _ h => h) (yieldsIf_load_mid (by rfl) 25 _ rfl W.heap.size 1 rfl q.f.cs _ (fun w hSw => hSw.ob.rng) under25 rfl (by rw [size25, F.len])) (by assumption) ?_
    simp only [Act.put, List.setIfInBounds_toArray, List.set_cons_zero, List.set_cons_succ]
    refine wpAnyH_ready (rs := [2]) (by kernel_rfl) (by simp) (AllReadyH.cons (o := { dst := some 132, op := Op.call { callee := Callee.value (Operand.func 9), args := #[Operand.tmp 131], argTypes := #[25] }, type := 27, pos := "law.go:64", after := #[{ on := 1, ground := Ground.data }], guard := none }) rfl (fun KQ hK => ?_) AllReadyH.nil)
    go_simp
    refine (file_any _ _).mono ?_
    rintro e wc9 ⟨rfl, hb9⟩
    have HD9 := hid (HE.out.on hb9)
    clear hb9 HE
    go_wp2_with fail
    refine hK.out _ _ HD9.out (fun hHeld => ?_)
    clear hK KQ
    try simp only [Act.put, List.setIfInBounds_toArray, List.set_cons_zero, List.set_cons_succ]
    refine wpAnyH_ready (rs := [3]) (by kernel_rfl) (by simp) (AllReadyH.cons (o := { dst := some 133, op := Op.call { callee := Callee.value (Operand.func 17), args := #[Operand.tmp 132], argTypes := #[27] }, type := 22, pos := "law.go:64", after := #[{ on := 2, ground := Ground.data }, { on := 2, ground := Ground.chain }], guard := none }) rfl (fun KQ hK => ?_) AllReadyH.nil)
    go_simp
    refine (flags_any _ _).mono ?_
    rintro e wc10 ⟨rfl, hb10⟩
    have HD10 := hid (HD9.out.on hb10)
    clear hb10 HD9
    go_wp2_with fail
    refine hK.out _ _ HD10.out (fun hHeld => ?_)
    clear hK KQ
    try simp only [Act.put, List.setIfInBounds_toArray, List.set_cons_zero, List.set_cons_succ]
    refine wpAnyH_ready (rs := [6]) (by kernel_rfl) (by simp) (AllReadyH.cons (o := { dst := some 136, op := Op.call { callee := Callee.value (Operand.func 31), args := #[Operand.tmp 135], argTypes := #[25] }, type := 22, pos := "law.go:64", after := #[{ on := 5, ground := Ground.data }, { on := 3, ground := Ground.chain }], guard := none }) rfl (fun KQ hK => ?_) AllReadyH.nil)
    go_simp
    refine (rflags_any _ _).mono ?_
    rintro e wc11 ⟨rfl, hb11⟩
    have HD11 := hid (HD10.out.on hb11)
    clear hb11 HD10
    go_wp2_with fail
    refine hK.out _ _ HD11.out (fun hHeld => ?_)
    clear hK KQ
    try simp only [Act.put, List.setIfInBounds_toArray, List.set_cons_zero, List.set_cons_succ]
    refine wpAnyH_take (i := 7) (oi := { dst := some 137, op := Op.binOp BinOp.eql 22 (Operand.tmp 133) (Operand.tmp 136) 22, type := 4, pos := "law.go:64", after := #[{ on := 3, ground := Ground.data }, { on := 6, ground := Ground.data }], guard := none }) (v := .bool true) rfl (by kernel_rfl) (by kernel_rfl) (by kernel_rfl) (fun _ _ _ h => h) (Or.inl ⟨by rfl, by intro w hSw; go_simp⟩) (by assumption) ?_
    simp only [Act.put, List.setIfInBounds_toArray, List.set_cons_zero, List.set_cons_succ]
    refine wpAnyH_take (i := 8) (oi := { dst := some 138, op := Op.move (Operand.tmp 137), type := 4, pos := "law.go:64", after := #[{ on := 7, ground := Ground.data }, { on := 6, ground := Ground.chain }], guard := none }) (v := .bool true) rfl (by kernel_rfl) (by kernel_rfl) (by kernel_rfl) (fun _ _ _ h => h) (Or.inl ⟨by rfl, by intro w hSw; go_simp⟩) (by assumption) ?_
    simp only [Act.put, List.setIfInBounds_toArray, List.set_cons_zero, List.set_cons_succ]
    refine wpAnyH_take (i := 9) (oi := { dst := some 139, op := Op.load 27 (Operand.tmp 11), type := 27, pos := "law.go:64", after := #[{ on := 8, ground := Ground.guard }], guard := some (8, true) }) (v := fu.v) rfl (by kernel_rfl) (by kernel_rfl) (by kernel_rfl) (fun _ _ _ h => h) (yieldsIf_load_mid (by rfl) 27 _ rfl g11 0 rfl fu.cs _ (fun w hSw => hSw.a.range) under27 rfl (by rw [size27, F.len])) (by assumption) ?_
    simp only [Act.put, List.setIfInBounds_toArray, List.set_cons_zero, List.set_cons_succ]
    refine wpAnyH_take (i := 10) (oi := { dst := some 140, op := Op.load 25 (Operand.tmp 13), type := 25, pos := "law.go:64", after := #[{ on := 8, ground := Ground.guard }], guard := some (8, true) }) (v := fu.v) rfl (by kernel_rfl) (by kernel_rfl) (by kernel_rfl) (fun _ _ _ h => h) (yieldsIf_load_mid (by rfl) 25 _ rfl g13 0 rfl fu.cs _ (fun w hSw => hSw.b.range) under25 rfl (by rw [size25, F.len])) (by assumption) ?_
    simp only [Act.put, List.setIfInBounds_toArray, List.set_cons_zero, List.set_cons_succ]
    refine wpAnyH_ready (rs := [11]) (by kernel_rfl) (by simp) (AllReadyH.cons (o := { dst := some 141, op := Op.call { callee := Callee.value (Operand.func 27), args := #[Operand.tmp 139, Operand.tmp 140], argTypes := #[27, 25] }, type := 4, pos := "law.go:64", after := #[{ on := 9, ground := Ground.data }, { on := 10, ground := Ground.data }, { on := 8, ground := Ground.chain }, { on := 8, ground := Ground.guard }], guard := some (8, true) }) rfl (fun KQ hK => ?_) AllReadyH.nil)
    go_simp
    refine (same_self_any _ _).mono ?_
    rintro e wc12 ⟨rfl, hb12⟩
    have HD12 := hid (HD11.out.on hb12)
    clear hb12 HD11
    go_wp2_with fail
    refine hK.out _ _ HD12.out (fun hHeld => ?_)
    clear hK KQ
    try simp only [Act.put, List.setIfInBounds_toArray, List.set_cons_zero, List.set_cons_succ]
    refine wpAnyH_take (i := 12) (oi := { dst := some 142, op := Op.pick (Operand.tmp 138) (Operand.tmp 141) (Operand.const (Value.bool false)), type := 4, pos := "law.go:64", after := #[{ on := 8, ground := Ground.data }, { on := 11, ground := Ground.data }], guard := none }) (v := .bool true) rfl (by kernel_rfl) (by kernel_rfl) (by kernel_rfl) (fun _ _ _ h => h) (Or.inl ⟨by rfl, by intro w hSw; go_simp⟩) (by assumption) ?_
    simp only [Act.put, List.setIfInBounds_toArray, List.set_cons_zero, List.set_cons_succ]
    refine wpAnyH_take (i := 13) (oi := { dst := some 143, op := Op.move (Operand.tmp 142), type := 4, pos := "law.go:64", after := #[{ on := 12, ground := Ground.data }, { on := 11, ground := Ground.chain }], guard := none }) (v := .bool true) rfl (by kernel_rfl) (by kernel_rfl) (by kernel_rfl) (fun _ _ _ h => h) (Or.inl ⟨by rfl, by intro w hSw; go_simp⟩) (by assumption) ?_
    simp only [Act.put, List.setIfInBounds_toArray, List.set_cons_zero, List.set_cons_succ]
    refine wpAnyH_take (i := 14) (oi := { dst := some 144, op := Op.move (Operand.tmp 12), type := 39, pos := "law.go:64", after := #[{ on := 13, ground := Ground.guard }], guard := some (13, true) }) (v := .int .i64 er) rfl (by kernel_rfl) (by kernel_rfl) (by kernel_rfl) (fun _ _ _ h => h) (Or.inl ⟨by rfl, by intro w hSw; go_simp⟩) (by assumption) ?_
    simp only [Act.put, List.setIfInBounds_toArray, List.set_cons_zero, List.set_cons_succ]
    refine wpAnyH_take (i := 15) (oi := { dst := some 145, op := Op.move (Operand.tmp 14), type := 3, pos := "law.go:64", after := #[{ on := 13, ground := Ground.guard }], guard := some (13, true) }) (v := .int .i64 er) rfl (by kernel_rfl) (by kernel_rfl) (by kernel_rfl) (fun _ _ _ h => h) (Or.inl ⟨by rfl, by intro w hSw; go_simp⟩) (by assumption) ?_
    simp only [Act.put, List.setIfInBounds_toArray, List.set_cons_zero, List.set_cons_succ]
    refine wpAnyH_take (i := 16) (oi := { dst := some 146, op := Op.binOp BinOp.eql 3 (Operand.tmp 144) (Operand.tmp 145) 3, type := 4, pos := "law.go:64", after := #[{ on := 14, ground := Ground.data }, { on := 15, ground := Ground.data }, { on := 13, ground := Ground.guard }], guard := some (13, true) }) (v := .bool true) rfl (by kernel_rfl) (by kernel_rfl) (by kernel_rfl) (fun _ _ _ h => h) (Or.inl ⟨by rfl, by intro w hSw; go_simp⟩) (by assumption) ?_
    simp only [Act.put, List.setIfInBounds_toArray, List.set_cons_zero, List.set_cons_succ]
    refine wpAnyH_take (i := 17) (oi := { dst := some 147, op := Op.pick (Operand.tmp 143) (Operand.tmp 146) (Operand.const (Value.bool false)), type := 4, pos := "law.go:64", after := #[{ on := 13, ground := Ground.data }, { on := 16, ground := Ground.data }], guard := none }) (v := .bool true) rfl (by kernel_rfl) (by kernel_rfl) (by kernel_rfl) (fun _ _ _ h => h) (Or.inl ⟨by rfl, by intro w hSw; go_simp⟩) (by assumption) ?_
    simp only [Act.put, List.setIfInBounds_toArray, List.set_cons_zero, List.set_cons_succ]
    refine wpAnyH_ready (rs := [18]) (by kernel_rfl) (by simp) (AllReadyH.cons (o := { dst := some 2, op := Op.assign (Operand.tmp 147), type := 4, pos := "law.go:64", after := #[{ on := 17, ground := Ground.data }, { on := 13, ground := Ground.chain }, { on := 0, ground := Ground.phase }, { on := 1, ground := Ground.phase }, { on := 2, ground := Ground.phase }, { on := 3, ground := Ground.phase }, { on := 4, ground := Ground.phase }, { on := 5, ground := Ground.phase }, { on := 6, ground := Ground.phase }, { on := 7, ground := Ground.phase }, { on := 8, ground := Ground.phase }, { on := 9, ground := Ground.phase }, { on := 10, ground := Ground.phase }, { on := 11, ground := Ground.phase }, { on := 12, ground := Ground.phase }, { on := 13, ground := Ground.phase }, { on := 14, ground := Ground.phase }, { on := 15, ground := Ground.phase }, { on := 16, ground := Ground.phase }, { on := 17, ground := Ground.phase }], guard := none }) rfl (fun KQ hK => ?_) AllReadyH.nil)
    go_simp
    refine hK.out _ _ HD12.out (fun hHeld => ?_)
    clear hK KQ
    try simp only [Act.put, List.setIfInBounds_toArray, List.set_cons_zero, List.set_cons_succ]
    refine wpAnyH_done (by kernel_rfl) ?_ _
    go_wp2_with fail
    go_ret
    exact ⟨rfl, HD12.out.ob.below⟩
end Go.Proofs.Ythpkodkilbcepaa
