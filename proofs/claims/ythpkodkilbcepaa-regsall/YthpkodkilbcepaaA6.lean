/- RegsAll: one call (18): Get and Set. -/
import Derived.Test.YthpkodkilbcepaaA5
namespace Go.Proofs.Ythpkodkilbcepaa
open Go.RowKit
set_option maxHeartbeats 4000000
set_option maxRecDepth 100000
attribute [-simp] Try.isAgg27 Try.sizeOf27 Try.isAgg25 Try.isAgg23 Try.isAgg46 Try.sizeOf46
theorem wpList_load_gg {ops : Array Oper} {rest : List Oper} {o : Oper} {a : Act} {w : World} {Q : Exit → Act → World → Prop} (hw : Region.wanted o (yielded ops a.tmps) = true) (x : Operand) (ho : o.op = .load 25 x)
    (g : Nat) {t : TypeId} (f : F) (hx : a.eval x = .pointer (some ⟨g, 0, none⟩)) (hg : Cel w g t f.cs)
    (h : wpList Try.prog ops Q rest (a.put o.dst f.v) w) : wpList Try.prog ops Q (o :: rest) a w := by
  rw [wpList, if_pos hw]
  exact .inl (wp_load_mid 25 x ho g 0 hx _ _ hg.range under25 rfl (by rw [size25, F.len]) h)
theorem get_two (f : F) (r : Int) : ∃ v ev : Int, (∀ w, Calls Try.prog 13 #[f.v, .int .i64 r] w fun e W' => e = .returned (.tuple #[.int .u32 v, .int .i64 ev]) ∧ Below w.heap.size w W') ∧ (∀ w, Calls Try.prog 25 #[f.v, .int .i64 r] w fun e W' => e = .returned (.tuple #[.int .u32 v, .int .i64 ev]) ∧ Below w.heap.size w W') := by
  by_cases h : 0 ≤ r ∧ r < 15
  · exact ⟨_, _, fun w => by have := get_any w f r; rwa [if_pos h] at this, fun w => by have := rget_any w f r; rwa [if_pos h] at this⟩
  · exact ⟨_, _, fun w => by have := get_any w f r; rwa [if_neg h] at this, fun w => by have := rget_any w f r; rwa [if_neg h] at this⟩
theorem set_two (f : F) (r v : Int) : ∃ (fu : F) (er : Int), (∀ w, Calls Try.prog 12 #[f.v, .int .i64 r, .int .u32 v] w fun e W' => e = .returned (.tuple #[fu.v, .int .i64 er]) ∧ Below w.heap.size w W') ∧ (∀ w, Calls Try.prog 26 #[f.v, .int .i64 r, .int .u32 v] w fun e W' => e = .returned (.tuple #[fu.v, .int .i64 er]) ∧ Below w.heap.size w W') := by
  by_cases h : 0 ≤ r ∧ r < 15
  · exact ⟨_, _, fun w => by have := set_any w f r v; rwa [if_pos h] at this, fun w => by have := rset_any w f r v; rwa [if_pos h] at this⟩
  · exact ⟨_, _, fun w => by have := set_any w f r v; rwa [if_neg h] at this, fun w => by have := rset_any w f r v; rwa [if_neg h] at this⟩
theorem play_get (W : World) (q : Oq) (hk : q.k = 1) : Calls Try.prog 18 #[.agg q.cs.toArray] W fun e W' => e = .returned (.bool true) ∧ Below W.heap.size W W' := by
  have HO := hid (ob_new W q)
  have y0 := HO.out.y0
  rw [hk] at y0
  obtain ⟨v, ev, hg1, hg2⟩ := get_two q.f q.r
  obtain ⟨fu, er, hs1, hs2⟩ := set_two q.f q.r q.a
  have HG1 := hid hg1
  have HG2 := hid hg2
  have HF1 := hid hs1
  have HF2 := hid hs2
  clear hg1 hg2 hs1 hs2
  generalize hc : q.cs.toArray = C at *
  clear hc hk
  go_enter Try.func18, Try.ntmps18
  go_upto_region 1 with fail
  generalize hX : W.alloc _ = X at *
  clear hX
  go_upto_region 3 with fail
  clear y0
  have HD := hid (HO.out.on (Below.refl _ _).drew)
  clear HO
  refine wp_region_held_drew (S := fun x => OB W x q) (by kernel_rfl) HD.out (fun hHeld => ?_)
  refine wpAnyH_take (i := 0) (oi := { dst := some 24, op := Op.fieldAddr 55 (Operand.tmp 1) 1, type := 0, pos := "law.go:52", after := #[], guard := none }) (v := .pointer (some ⟨W.heap.size, 1, none⟩)) rfl (by kernel_rfl) (by kernel_rfl) (by kernel_rfl) (fun _ _ _ h => h) (Or.inl ⟨by rfl, by intro w hSw; go_simp⟩) (by assumption) ?_
  simp only [Act.put, List.setIfInBounds_toArray, List.set_cons_zero, List.set_cons_succ]
  refine wpAnyH_take (i := 1) (oi := { dst := some 25, op := Op.load 25 (Operand.tmp 24), type := 25, pos := "law.go:52", after := #[{ on := 0, ground := Ground.data }], guard := none }) (v := q.f.v) rfl (by kernel_rfl) (by kernel_rfl) (by kernel_rfl) (fun _ _ _ h => h) (yieldsIf_load_mid (by rfl) 25 _ rfl W.heap.size 1 rfl q.f.cs _ (fun w hSw => hSw.rng) under25 rfl (by rw [size25, F.len])) (by assumption) ?_
  simp only [Act.put, List.setIfInBounds_toArray, List.set_cons_zero, List.set_cons_succ]
  refine wpAnyH_take (i := 3) (oi := { dst := some 27, op := Op.fieldAddr 55 (Operand.tmp 1) 2, type := 0, pos := "law.go:52", after := #[], guard := none }) (v := .pointer (some ⟨W.heap.size, 20, none⟩)) rfl (by kernel_rfl) (by kernel_rfl) (by kernel_rfl) (fun _ _ _ h => h) (Or.inl ⟨by rfl, by intro w hSw; go_simp⟩) (by assumption) ?_
  simp only [Act.put, List.setIfInBounds_toArray, List.set_cons_zero, List.set_cons_succ]
  refine wpAnyH_take (i := 4) (oi := { dst := some 28, op := Op.load 3 (Operand.tmp 27), type := 3, pos := "law.go:52", after := #[{ on := 3, ground := Ground.data }], guard := none }) (v := .int .i64 q.r) rfl (by kernel_rfl) (by kernel_rfl) (by kernel_rfl) (fun _ _ _ h => h) (Or.inl ⟨by rfl, by intro w hSw; have y := hSw.yr; go_simp⟩) (by assumption) ?_
  simp only [Act.put, List.setIfInBounds_toArray, List.set_cons_zero, List.set_cons_succ]
  refine wpAnyH_ready (rs := [2]) (by kernel_rfl) (by simp) (AllReadyH.cons (o := { dst := some 26, op := Op.call { callee := Callee.value (Operand.func 9), args := #[Operand.tmp 25], argTypes := #[25] }, type := 27, pos := "law.go:52", after := #[{ on := 1, ground := Ground.data }], guard := none }) rfl (fun KQ hK => ?_) AllReadyH.nil)
  go_simp
  refine (file_any _ _).mono ?_
  rintro e wc1 ⟨rfl, hb1⟩
  have HD1 := hid (HD.out.on hb1)
  clear hb1 HD
  go_wp2_with fail
  refine hK.out _ _ HD1.out (fun hHeld => ?_)
  clear hK KQ
  try simp only [Act.put, List.setIfInBounds_toArray, List.set_cons_zero, List.set_cons_succ]
  refine wpAnyH_ready (rs := [5]) (by kernel_rfl) (by simp) (AllReadyH.cons (o := { dst := some 29, op := Op.call { callee := Callee.value (Operand.func 13), args := #[Operand.tmp 26, Operand.tmp 28], argTypes := #[27, 3] }, type := 42, pos := "law.go:52", after := #[{ on := 2, ground := Ground.data }, { on := 4, ground := Ground.data }, { on := 2, ground := Ground.chain }], guard := none }) rfl (fun KQ hK => ?_) AllReadyH.nil)
  go_simp
  refine (HG1.out _).mono ?_
  rintro e wc2 ⟨rfl, hb2⟩
  have HD2 := hid (HD1.out.on hb2)
  clear hb2 HD1
  go_wp2_with fail
  refine hK.out _ _ HD2.out (fun hHeld => ?_)
  clear hK KQ
  try simp only [Act.put, List.setIfInBounds_toArray, List.set_cons_zero, List.set_cons_succ]
  refine wpAnyH_take (i := 6) (oi := { dst := some 23, op := Op.move (Operand.tmp 29), type := 42, pos := "law.go:52", after := #[{ on := 5, ground := Ground.data }], guard := none }) (v := .tuple #[.int .u32 v, .int .i64 ev]) rfl (by kernel_rfl) (by kernel_rfl) (by kernel_rfl) (fun _ _ _ h => h) (Or.inl ⟨by rfl, by intro w hSw; go_simp⟩) (by assumption) ?_
  simp only [Act.put, List.setIfInBounds_toArray, List.set_cons_zero, List.set_cons_succ]
  refine wpAnyH_take (i := 7) (oi := { dst := some 30, op := Op.extract (Operand.tmp 23) 0, type := 22, pos := "law.go:52", after := #[{ on := 6, ground := Ground.data }], guard := none }) (v := .int .u32 v) rfl (by kernel_rfl) (by kernel_rfl) (by kernel_rfl) (fun _ _ _ h => h) (Or.inl ⟨by rfl, by intro w hSw; go_simp⟩) (by assumption) ?_
  simp only [Act.put, List.setIfInBounds_toArray, List.set_cons_zero, List.set_cons_succ]
  refine wpAnyH_take (i := 8) (oi := { dst := some 31, op := Op.extract (Operand.tmp 23) 1, type := 39, pos := "law.go:52", after := #[{ on := 6, ground := Ground.data }, { on := 9, ground := Ground.gcOnly Departure.lateStores }], guard := none }) (v := .int .i64 ev) rfl (by kernel_rfl) (by kernel_rfl) (by kernel_rfl) (fun _ _ _ h => h) (Or.inl ⟨by rfl, by intro w hSw; go_simp⟩) (by assumption) ?_
  simp only [Act.put, List.setIfInBounds_toArray, List.set_cons_zero, List.set_cons_succ]
  refine wpAnyH_ready (rs := [9]) (by kernel_rfl) (by simp) (AllReadyH.cons (o := { dst := some 3, op := Op.assign (Operand.tmp 30), type := 22, pos := "law.go:52", after := #[{ on := 7, ground := Ground.data }, { on := 5, ground := Ground.chain }, { on := 0, ground := Ground.phase }, { on := 1, ground := Ground.phase }, { on := 2, ground := Ground.phase }, { on := 3, ground := Ground.phase }, { on := 4, ground := Ground.phase }, { on := 5, ground := Ground.phase }, { on := 6, ground := Ground.phase }, { on := 7, ground := Ground.phase }, { on := 8, ground := Ground.textOnly Departure.lateStores }], guard := none }) rfl (fun KQ hK => ?_) AllReadyH.nil)
  go_simp
  refine hK.out _ _ HD2.out (fun hHeld => ?_)
  clear hK KQ
  try simp only [Act.put, List.setIfInBounds_toArray, List.set_cons_zero, List.set_cons_succ]
  refine wpAnyH_ready (rs := [10]) (by kernel_rfl) (by simp) (AllReadyH.cons (o := { dst := some 4, op := Op.assign (Operand.tmp 31), type := 39, pos := "law.go:52", after := #[{ on := 8, ground := Ground.data }, { on := 9, ground := Ground.chain }, { on := 0, ground := Ground.phase }, { on := 1, ground := Ground.phase }, { on := 2, ground := Ground.phase }, { on := 3, ground := Ground.phase }, { on := 4, ground := Ground.phase }, { on := 5, ground := Ground.phase }, { on := 6, ground := Ground.phase }, { on := 7, ground := Ground.phase }, { on := 8, ground := Ground.phase }, { on := 9, ground := Ground.phase }], guard := none }) rfl (fun KQ hK => ?_) AllReadyH.nil)
  go_simp
  refine hK.out _ _ HD2.out (fun hHeld => ?_)
  clear hK KQ
  try simp only [Act.put, List.setIfInBounds_toArray, List.set_cons_zero, List.set_cons_succ]
  refine wpAnyH_done (by kernel_rfl) ?_ _
  go_upto_region 4 with fail
  have yr := HD2.out.yr
  go_wp2_with (first | (refine wpList_load_mid rfl 25 _ rfl W.heap.size 1 rfl q.f.cs _ HD2.out.rng under25 rfl (by rw [size25, F.len]) ?_) | fail)
  refine (HG2.out _).mono ?_
  rintro e u1 ⟨rfl, hu1⟩
  have HO1 := hid (HD2.out.on hu1)
  clear hu1 HD2 yr HG1 HG2
  go_upto_region 5 with fail
  have HD := hid (HO1.out.on (Below.refl _ _).drew)
  clear HO1
  refine wp_region_held_drew (S := fun x => OB W x q) (by kernel_rfl) HD.out (fun hHeld => ?_)
  generalize hx0 : u1.drew = x0 at *
  clear hx0
  refine wpAnyH_take (i := 0) (oi := { dst := some 41, op := Op.fieldAddr 55 (Operand.tmp 1) 1, type := 0, pos := "law.go:54", after := #[], guard := none }) (v := .pointer (some ⟨W.heap.size, 1, none⟩)) rfl (by kernel_rfl) (by kernel_rfl) (by kernel_rfl) (fun _ _ _ h => h) (Or.inl ⟨by rfl, by intro w hSw; go_simp⟩) (by assumption) ?_
  simp only [Act.put, List.setIfInBounds_toArray, List.set_cons_zero, List.set_cons_succ]
  refine wpAnyH_take (i := 1) (oi := { dst := some 42, op := Op.load 25 (Operand.tmp 41), type := 25, pos := "law.go:54", after := #[{ on := 0, ground := Ground.data }], guard := none }) (v := q.f.v) rfl (by kernel_rfl) (by kernel_rfl) (by kernel_rfl) (fun _ _ _ h => h) (yieldsIf_load_mid (by rfl) 25 _ rfl W.heap.size 1 rfl q.f.cs _ (fun w hSw => hSw.rng) under25 rfl (by rw [size25, F.len])) (by assumption) ?_
  simp only [Act.put, List.setIfInBounds_toArray, List.set_cons_zero, List.set_cons_succ]
  refine wpAnyH_take (i := 3) (oi := { dst := some 44, op := Op.fieldAddr 55 (Operand.tmp 1) 2, type := 0, pos := "law.go:54", after := #[], guard := none }) (v := .pointer (some ⟨W.heap.size, 20, none⟩)) rfl (by kernel_rfl) (by kernel_rfl) (by kernel_rfl) (fun _ _ _ h => h) (Or.inl ⟨by rfl, by intro w hSw; go_simp⟩) (by assumption) ?_
  simp only [Act.put, List.setIfInBounds_toArray, List.set_cons_zero, List.set_cons_succ]
  refine wpAnyH_take (i := 4) (oi := { dst := some 45, op := Op.load 3 (Operand.tmp 44), type := 3, pos := "law.go:54", after := #[{ on := 3, ground := Ground.data }], guard := none }) (v := .int .i64 q.r) rfl (by kernel_rfl) (by kernel_rfl) (by kernel_rfl) (fun _ _ _ h => h) (Or.inl ⟨by rfl, by intro w hSw; have y := hSw.yr; go_simp⟩) (by assumption) ?_
  simp only [Act.put, List.setIfInBounds_toArray, List.set_cons_zero, List.set_cons_succ]
  refine wpAnyH_take (i := 5) (oi := { dst := some 46, op := Op.fieldAddr 55 (Operand.tmp 1) 3, type := 0, pos := "law.go:54", after := #[], guard := none }) (v := .pointer (some ⟨W.heap.size, 21, none⟩)) rfl (by kernel_rfl) (by kernel_rfl) (by kernel_rfl) (fun _ _ _ h => h) (Or.inl ⟨by rfl, by intro w hSw; go_simp⟩) (by assumption) ?_
  simp only [Act.put, List.setIfInBounds_toArray, List.set_cons_zero, List.set_cons_succ]
  refine wpAnyH_take (i := 6) (oi := { dst := some 47, op := Op.load 22 (Operand.tmp 46), type := 22, pos := "law.go:54", after := #[{ on := 5, ground := Ground.data }], guard := none }) (v := .int .u32 q.a) rfl (by kernel_rfl) (by kernel_rfl) (by kernel_rfl) (fun _ _ _ h => h) (Or.inl ⟨by rfl, by intro w hSw; have y := hSw.ya; go_simp⟩) (by assumption) ?_
  simp only [Act.put, List.setIfInBounds_toArray, List.set_cons_zero, List.set_cons_succ]
  refine wpAnyH_ready (rs := [2, 11]) (by kernel_rfl) (by simp) (AllReadyH.cons (o := { dst := some 43, op := Op.call { callee := Callee.value (Operand.func 9), args := #[Operand.tmp 42], argTypes := #[25] }, type := 27, pos := "law.go:54", after := #[{ on := 1, ground := Ground.data }], guard := none }) rfl (fun KQ hK => ?_) (AllReadyH.cons (o := { dst := some 7, op := Op.alloc 27, type := 0, pos := "law.go:54", after := #[], guard := none }) rfl (fun KQ hK => ?_) AllReadyH.nil))
  · go_simp
    refine (file_any _ _).mono ?_
    rintro e w1 ⟨rfl, hb2⟩
    have HP3 := hid (HD.out.on hb2)
    clear hb2
    go_wp2_with fail
    refine hK.out _ _ HP3.out (fun hHeld => ?_)
    clear hK KQ
    try simp only [Act.put, List.setIfInBounds_toArray, List.set_cons_zero, List.set_cons_succ]
    refine wpAnyH_ready (rs := [7, 11]) (by kernel_rfl) (by simp) (AllReadyH.cons (o := { dst := some 48, op := Op.call { callee := Callee.value (Operand.func 12), args := #[Operand.tmp 43, Operand.tmp 45, Operand.tmp 47], argTypes := #[27, 3, 22] }, type := 40, pos := "law.go:54", after := #[{ on := 2, ground := Ground.data }, { on := 4, ground := Ground.data }, { on := 6, ground := Ground.data }, { on := 2, ground := Ground.chain }], guard := none }) rfl (fun KQ hK => ?_) (AllReadyH.cons (o := { dst := some 7, op := Op.alloc 27, type := 0, pos := "law.go:54", after := #[], guard := none }) rfl (fun KQ hK => ?_) AllReadyH.nil))
    · go_simp
      refine (HF1.out _).mono ?_
      rintro e w4 ⟨rfl, hb5⟩
      have HP6 := hid (HP3.out.on hb5)
      clear hb5
      go_wp2_with fail
      refine hK.out _ _ HP6.out (fun hHeld => ?_)
      clear hK KQ
      try simp only [Act.put, List.setIfInBounds_toArray, List.set_cons_zero, List.set_cons_succ]
      refine wpAnyH_take (i := 8) (oi := { dst := some 40, op := Op.move (Operand.tmp 48), type := 40, pos := "law.go:54", after := #[{ on := 7, ground := Ground.data }], guard := none }) (v := .tuple #[fu.v, .int .i64 er]) rfl (by kernel_rfl) (by kernel_rfl) (by kernel_rfl) (fun _ _ _ h => h) (Or.inl ⟨by rfl, by intro w hSw; go_simp⟩) (by assumption) ?_
      simp only [Act.put, List.setIfInBounds_toArray, List.set_cons_zero, List.set_cons_succ]
      refine wpAnyH_take (i := 9) (oi := { dst := some 49, op := Op.extract (Operand.tmp 40) 0, type := 27, pos := "law.go:54", after := #[{ on := 8, ground := Ground.data }], guard := none }) (v := fu.v) rfl (by kernel_rfl) (by kernel_rfl) (by kernel_rfl) (fun _ _ _ h => h) (Or.inl ⟨by rfl, by intro w hSw; go_simp⟩) (by assumption) ?_
      simp only [Act.put, List.setIfInBounds_toArray, List.set_cons_zero, List.set_cons_succ]
      refine wpAnyH_take (i := 10) (oi := { dst := some 50, op := Op.extract (Operand.tmp 40) 1, type := 39, pos := "law.go:54", after := #[{ on := 8, ground := Ground.data }, { on := 12, ground := Ground.gcOnly Departure.lateStores }], guard := none }) (v := .int .i64 er) rfl (by kernel_rfl) (by kernel_rfl) (by kernel_rfl) (fun _ _ _ h => h) (Or.inl ⟨by rfl, by intro w hSw; go_simp⟩) (by assumption) ?_
      simp only [Act.put, List.setIfInBounds_toArray, List.set_cons_zero, List.set_cons_succ]
      refine wpAnyH_ready (rs := [11]) (by kernel_rfl) (by simp) (AllReadyH.cons (o := { dst := some 7, op := Op.alloc 27, type := 0, pos := "law.go:54", after := #[], guard := none }) rfl (fun KQ hK => ?_) AllReadyH.nil)
      go_simp
      have HT10 := hid HP6.out.cel.lt
      have HP7 := hid (HP6.out.on (below_one w4 (.cells #[.int .u32 0, .int .u32 0, .int .u32 0, .int .u32 0, .int .u32 0, .int .u32 0, .int .u32 0, .int .u32 0, .int .u32 0, .int .u32 0, .int .u32 0, .int .u32 0, .int .u32 0, .int .u32 0, .int .u32 0, .int .u32 0, .bool false, .bool false, .bool false] 27)))
      have HG8 := hid (cel_new27 w4)
      clear HP6
      generalize hy : w4.alloc _ = y9 at *
      clear hy
      generalize hg : w4.heap.size = g7 at *
      clear hg
      refine hK.out _ _ HP7.out (fun hHeld => ?_)
      clear hK KQ
      try simp only [Act.put, List.setIfInBounds_toArray, List.set_cons_zero, List.set_cons_succ]
      refine wpAnyH_ready (rs := [12]) (by kernel_rfl) (by simp) (AllReadyH.cons (o := { dst := none, op := Op.store 27 (Operand.tmp 7) (Operand.tmp 49), type := 0, pos := "law.go:54", after := #[{ on := 11, ground := Ground.data }, { on := 9, ground := Ground.data }, { on := 7, ground := Ground.chain }, { on := 0, ground := Ground.phase }, { on := 1, ground := Ground.phase }, { on := 2, ground := Ground.phase }, { on := 3, ground := Ground.phase }, { on := 4, ground := Ground.phase }, { on := 5, ground := Ground.phase }, { on := 6, ground := Ground.phase }, { on := 7, ground := Ground.phase }, { on := 8, ground := Ground.phase }, { on := 9, ground := Ground.phase }, { on := 10, ground := Ground.textOnly Departure.lateStores }, { on := 11, ground := Ground.phase }], guard := none }) rfl (fun KQ hK => ?_) AllReadyH.nil)
      rw [if_pos (by rfl)]
      refine wp_store_st 27 _ _ rfl g7 fu.cs rfl rfl HG8.out (by rw [size27, F.len]) (by rw [F.len, F.len]) fu.all ?_
      have HP11 := hid (HP7.out.but (ButL.setRow y9 g7 fu.cs.toArray (by simp)) HT10.out)
      have HK12 : Hid (OF W (y9.setRow g7 fu.cs.toArray) q g7 27 fu) := hid ⟨HP11.out, HG8.out.set fu.cs⟩
      clear HP7 HG8
      generalize hy : y9.setRow g7 _ = y13 at *
      clear hy
      refine hK.out _ _ HP11.out (fun hHeld => ?_)
      clear hK KQ
      try simp only [Act.put]
      refine wpAnyH_ready (rs := [13]) (by kernel_rfl) (by simp) (AllReadyH.cons (o := { dst := some 8, op := Op.assign (Operand.tmp 50), type := 39, pos := "law.go:54", after := #[{ on := 10, ground := Ground.data }, { on := 12, ground := Ground.chain }, { on := 0, ground := Ground.phase }, { on := 1, ground := Ground.phase }, { on := 2, ground := Ground.phase }, { on := 3, ground := Ground.phase }, { on := 4, ground := Ground.phase }, { on := 5, ground := Ground.phase }, { on := 6, ground := Ground.phase }, { on := 7, ground := Ground.phase }, { on := 8, ground := Ground.phase }, { on := 9, ground := Ground.phase }, { on := 10, ground := Ground.phase }, { on := 11, ground := Ground.phase }, { on := 12, ground := Ground.phase }], guard := none }) rfl (fun KQ hK => ?_) AllReadyH.nil)
      go_simp
      refine hK.out _ _ HP11.out (fun hHeld => ?_)
      clear hK KQ
      try simp only [Act.put, List.setIfInBounds_toArray, List.set_cons_zero, List.set_cons_succ]
      refine wpAnyH_done (by kernel_rfl) ?_ _
      go_upto_region 6 with fail
      have yA := HK12.out.ob.ya
      have yR := HK12.out.ob.yr
      go_wp2_with (first | (refine wpList_load_mid rfl 25 _ rfl W.heap.size 1 rfl q.f.cs _ HK12.out.ob.rng under25 rfl (by rw [size25, F.len]) ?_) | fail)
      refine (HF2.out _).mono ?_
      rintro e v1 ⟨rfl, hv1⟩
      have HO1 := hid (HK12.out.on hv1)
      have HO1' := hid (HO1.out.on (below_one v1 (.cells #[.int .u32 0, .int .u32 0, .int .u32 0, .int .u32 0, .int .u32 0, .int .u32 0, .int .u32 0, .int .u32 0, .int .u32 0, .int .u32 0, .int .u32 0, .int .u32 0, .int .u32 0, .int .u32 0, .int .u32 0, .int .u32 0, .bool false, .bool false, .bool false] 25)))
      have HN1 := hid (cel_new25 v1)
      clear hv1 HK12 yA yR
      go_upto_region 7 with (refine wpList_store_g rfl _ _ rfl v1.heap.size F.zero fu rfl rfl HN1.out ?_; intro v2 hc2 hb2 hs2; have HO2 : Hid (OG W v2 q g7 v1.heap.size fu) := hid ⟨(HO1'.out.but hb2 HO1.out.ob.cel.lt (by have := HO1.out.a.lt; omega)).ob, (HO1'.out.but hb2 HO1.out.ob.cel.lt (by have := HO1.out.a.lt; omega)).a, hc2⟩; clear hc2 hb2 hs2 HO1' HN1 HO1)
      generalize hg9 : v1.heap.size = g9 at *
      clear hg9
      go_wp2_with (first | (refine wpList_load_fg (by rfl) _ rfl g7 fu rfl HO2.out.a ?_) | (refine wpList_load_gg (by rfl) _ rfl g9 fu rfl HO2.out.b ?_) | (go_at_call 27; refine (same_self_any _ _).mono ?_; rintro e v3 ⟨rfl, hv3⟩; have HB3 := hid (below_on HO2.out.ob.below hv3); clear hv3))
      go_ret
      exact ⟨rfl, HB3.out⟩
    · go_simp
      have HT17 := hid HP3.out.cel.lt
      have HP14 := hid (HP3.out.on (below_one w1 (.cells #[.int .u32 0, .int .u32 0, .int .u32 0, .int .u32 0, .int .u32 0, .int .u32 0, .int .u32 0, .int .u32 0, .int .u32 0, .int .u32 0, .int .u32 0, .int .u32 0, .int .u32 0, .int .u32 0, .int .u32 0, .int .u32 0, .bool false, .bool false, .bool false] 27)))
      have HG15 := hid (cel_new27 w1)
      clear HP3
      generalize hy : w1.alloc _ = y16 at *
      clear hy
      generalize hg : w1.heap.size = g7 at *
      clear hg
      refine hK.out _ _ HP14.out (fun hHeld => ?_)
      clear hK KQ
      try simp only [Act.put, List.setIfInBounds_toArray, List.set_cons_zero, List.set_cons_succ]
      refine wpAnyH_ready (rs := [7]) (by kernel_rfl) (by simp) (AllReadyH.cons (o := { dst := some 48, op := Op.call { callee := Callee.value (Operand.func 12), args := #[Operand.tmp 43, Operand.tmp 45, Operand.tmp 47], argTypes := #[27, 3, 22] }, type := 40, pos := "law.go:54", after := #[{ on := 2, ground := Ground.data }, { on := 4, ground := Ground.data }, { on := 6, ground := Ground.data }, { on := 2, ground := Ground.chain }], guard := none }) rfl (fun KQ hK => ?_) AllReadyH.nil)
      go_simp
      refine (HF1.out _).mono ?_
      rintro e w18 ⟨rfl, hb19⟩
      have HP20 := hid (HP14.out.on hb19)
      have HG21 := hid (HG15.out.on hb19)
      clear hb19
      go_wp2_with fail
      refine hK.out _ _ HP20.out (fun hHeld => ?_)
      clear hK KQ
      try simp only [Act.put, List.setIfInBounds_toArray, List.set_cons_zero, List.set_cons_succ]
      refine wpAnyH_take (i := 8) (oi := { dst := some 40, op := Op.move (Operand.tmp 48), type := 40, pos := "law.go:54", after := #[{ on := 7, ground := Ground.data }], guard := none }) (v := .tuple #[fu.v, .int .i64 er]) rfl (by kernel_rfl) (by kernel_rfl) (by kernel_rfl) (fun _ _ _ h => h) (Or.inl ⟨by rfl, by intro w hSw; go_simp⟩) (by assumption) ?_
      simp only [Act.put, List.setIfInBounds_toArray, List.set_cons_zero, List.set_cons_succ]
      refine wpAnyH_take (i := 9) (oi := { dst := some 49, op := Op.extract (Operand.tmp 40) 0, type := 27, pos := "law.go:54", after := #[{ on := 8, ground := Ground.data }], guard := none }) (v := fu.v) rfl (by kernel_rfl) (by kernel_rfl) (by kernel_rfl) (fun _ _ _ h => h) (Or.inl ⟨by rfl, by intro w hSw; go_simp⟩) (by assumption) ?_
      simp only [Act.put, List.setIfInBounds_toArray, List.set_cons_zero, List.set_cons_succ]
      refine wpAnyH_take (i := 10) (oi := { dst := some 50, op := Op.extract (Operand.tmp 40) 1, type := 39, pos := "law.go:54", after := #[{ on := 8, ground := Ground.data }, { on := 12, ground := Ground.gcOnly Departure.lateStores }], guard := none }) (v := .int .i64 er) rfl (by kernel_rfl) (by kernel_rfl) (by kernel_rfl) (fun _ _ _ h => h) (Or.inl ⟨by rfl, by intro w hSw; go_simp⟩) (by assumption) ?_
      simp only [Act.put, List.setIfInBounds_toArray, List.set_cons_zero, List.set_cons_succ]
      refine wpAnyH_ready (rs := [12]) (by kernel_rfl) (by simp) (AllReadyH.cons (o := { dst := none, op := Op.store 27 (Operand.tmp 7) (Operand.tmp 49), type := 0, pos := "law.go:54", after := #[{ on := 11, ground := Ground.data }, { on := 9, ground := Ground.data }, { on := 7, ground := Ground.chain }, { on := 0, ground := Ground.phase }, { on := 1, ground := Ground.phase }, { on := 2, ground := Ground.phase }, { on := 3, ground := Ground.phase }, { on := 4, ground := Ground.phase }, { on := 5, ground := Ground.phase }, { on := 6, ground := Ground.phase }, { on := 7, ground := Ground.phase }, { on := 8, ground := Ground.phase }, { on := 9, ground := Ground.phase }, { on := 10, ground := Ground.textOnly Departure.lateStores }, { on := 11, ground := Ground.phase }], guard := none }) rfl (fun KQ hK => ?_) AllReadyH.nil)
      rw [if_pos (by rfl)]
      refine wp_store_st 27 _ _ rfl g7 fu.cs rfl rfl HG21.out (by rw [size27, F.len]) (by rw [F.len, F.len]) fu.all ?_
      have HP22 := hid (HP20.out.but (ButL.setRow w18 g7 fu.cs.toArray (by simp)) HT17.out)
      have HK23 : Hid (OF W (w18.setRow g7 fu.cs.toArray) q g7 27 fu) := hid ⟨HP22.out, HG21.out.set fu.cs⟩
      clear HP20 HG21
      generalize hy : w18.setRow g7 _ = y24 at *
      clear hy
      refine hK.out _ _ HP22.out (fun hHeld => ?_)
      clear hK KQ
      try simp only [Act.put]
      refine wpAnyH_ready (rs := [13]) (by kernel_rfl) (by simp) (AllReadyH.cons (o := { dst := some 8, op := Op.assign (Operand.tmp 50), type := 39, pos := "law.go:54", after := #[{ on := 10, ground := Ground.data }, { on := 12, ground := Ground.chain }, { on := 0, ground := Ground.phase }, { on := 1, ground := Ground.phase }, { on := 2, ground := Ground.phase }, { on := 3, ground := Ground.phase }, { on := 4, ground := Ground.phase }, { on := 5, ground := Ground.phase }, { on := 6, ground := Ground.phase }, { on := 7, ground := Ground.phase }, { on := 8, ground := Ground.phase }, { on := 9, ground := Ground.phase }, { on := 10, ground := Ground.phase }, { on := 11, ground := Ground.phase }, { on := 12, ground := Ground.phase }], guard := none }) rfl (fun KQ hK => ?_) AllReadyH.nil)
      go_simp
      refine hK.out _ _ HP22.out (fun hHeld => ?_)
      clear hK KQ
      try simp only [Act.put, List.setIfInBounds_toArray, List.set_cons_zero, List.set_cons_succ]
      refine wpAnyH_done (by kernel_rfl) ?_ _
      go_upto_region 6 with fail
      have yA := HK23.out.ob.ya
      have yR := HK23.out.ob.yr
      go_wp2_with (first | (refine wpList_load_mid rfl 25 _ rfl W.heap.size 1 rfl q.f.cs _ HK23.out.ob.rng under25 rfl (by rw [size25, F.len]) ?_) | fail)
      refine (HF2.out _).mono ?_
      rintro e v1 ⟨rfl, hv1⟩
      have HO1 := hid (HK23.out.on hv1)
      have HO1' := hid (HO1.out.on (below_one v1 (.cells #[.int .u32 0, .int .u32 0, .int .u32 0, .int .u32 0, .int .u32 0, .int .u32 0, .int .u32 0, .int .u32 0, .int .u32 0, .int .u32 0, .int .u32 0, .int .u32 0, .int .u32 0, .int .u32 0, .int .u32 0, .int .u32 0, .bool false, .bool false, .bool false] 25)))
      have HN1 := hid (cel_new25 v1)
      clear hv1 HK23 yA yR
      go_upto_region 7 with (refine wpList_store_g rfl _ _ rfl v1.heap.size F.zero fu rfl rfl HN1.out ?_; intro v2 hc2 hb2 hs2; have HO2 : Hid (OG W v2 q g7 v1.heap.size fu) := hid ⟨(HO1'.out.but hb2 HO1.out.ob.cel.lt (by have := HO1.out.a.lt; omega)).ob, (HO1'.out.but hb2 HO1.out.ob.cel.lt (by have := HO1.out.a.lt; omega)).a, hc2⟩; clear hc2 hb2 hs2 HO1' HN1 HO1)
      generalize hg9 : v1.heap.size = g9 at *
      clear hg9
      go_wp2_with (first | (refine wpList_load_fg (by rfl) _ rfl g7 fu rfl HO2.out.a ?_) | (refine wpList_load_gg (by rfl) _ rfl g9 fu rfl HO2.out.b ?_) | (go_at_call 27; refine (same_self_any _ _).mono ?_; rintro e v3 ⟨rfl, hv3⟩; have HB3 := hid (below_on HO2.out.ob.below hv3); clear hv3))
      go_ret
      exact ⟨rfl, HB3.out⟩
  · go_simp
    have HT28 := hid HD.out.cel.lt
    have HP25 := hid (HD.out.on (below_one x0 (.cells #[.int .u32 0, .int .u32 0, .int .u32 0, .int .u32 0, .int .u32 0, .int .u32 0, .int .u32 0, .int .u32 0, .int .u32 0, .int .u32 0, .int .u32 0, .int .u32 0, .int .u32 0, .int .u32 0, .int .u32 0, .int .u32 0, .bool false, .bool false, .bool false] 27)))
    have HG26 := hid (cel_new27 x0)
    clear HD
    generalize hy : x0.alloc _ = y27 at *
    clear hy
    generalize hg : x0.heap.size = g7 at *
    clear hg
    refine hK.out _ _ HP25.out (fun hHeld => ?_)
    clear hK KQ
    try simp only [Act.put, List.setIfInBounds_toArray, List.set_cons_zero, List.set_cons_succ]
    refine wpAnyH_ready (rs := [2]) (by kernel_rfl) (by simp) (AllReadyH.cons (o := { dst := some 43, op := Op.call { callee := Callee.value (Operand.func 9), args := #[Operand.tmp 42], argTypes := #[25] }, type := 27, pos := "law.go:54", after := #[{ on := 1, ground := Ground.data }], guard := none }) rfl (fun KQ hK => ?_) AllReadyH.nil)
    go_simp
    refine (file_any _ _).mono ?_
    rintro e w29 ⟨rfl, hb30⟩
    have HP31 := hid (HP25.out.on hb30)
    have HG32 := hid (HG26.out.on hb30)
    clear hb30
    go_wp2_with fail
    refine hK.out _ _ HP31.out (fun hHeld => ?_)
    clear hK KQ
    try simp only [Act.put, List.setIfInBounds_toArray, List.set_cons_zero, List.set_cons_succ]
    refine wpAnyH_ready (rs := [7]) (by kernel_rfl) (by simp) (AllReadyH.cons (o := { dst := some 48, op := Op.call { callee := Callee.value (Operand.func 12), args := #[Operand.tmp 43, Operand.tmp 45, Operand.tmp 47], argTypes := #[27, 3, 22] }, type := 40, pos := "law.go:54", after := #[{ on := 2, ground := Ground.data }, { on := 4, ground := Ground.data }, { on := 6, ground := Ground.data }, { on := 2, ground := Ground.chain }], guard := none }) rfl (fun KQ hK => ?_) AllReadyH.nil)
    go_simp
    refine (HF1.out _).mono ?_
    rintro e w33 ⟨rfl, hb34⟩
    have HP35 := hid (HP31.out.on hb34)
    have HG36 := hid (HG32.out.on hb34)
    clear hb34
    go_wp2_with fail
    refine hK.out _ _ HP35.out (fun hHeld => ?_)
    clear hK KQ
    try simp only [Act.put, List.setIfInBounds_toArray, List.set_cons_zero, List.set_cons_succ]
    refine wpAnyH_take (i := 8) (oi := { dst := some 40, op := Op.move (Operand.tmp 48), type := 40, pos := "law.go:54", after := #[{ on := 7, ground := Ground.data }], guard := none }) (v := .tuple #[fu.v, .int .i64 er]) rfl (by kernel_rfl) (by kernel_rfl) (by kernel_rfl) (fun _ _ _ h => h) (Or.inl ⟨by rfl, by intro w hSw; go_simp⟩) (by assumption) ?_
    simp only [Act.put, List.setIfInBounds_toArray, List.set_cons_zero, List.set_cons_succ]
    refine wpAnyH_take (i := 9) (oi := { dst := some 49, op := Op.extract (Operand.tmp 40) 0, type := 27, pos := "law.go:54", after := #[{ on := 8, ground := Ground.data }], guard := none }) (v := fu.v) rfl (by kernel_rfl) (by kernel_rfl) (by kernel_rfl) (fun _ _ _ h => h) (Or.inl ⟨by rfl, by intro w hSw; go_simp⟩) (by assumption) ?_
    simp only [Act.put, List.setIfInBounds_toArray, List.set_cons_zero, List.set_cons_succ]
    refine wpAnyH_take (i := 10) (oi := { dst := some 50, op := Op.extract (Operand.tmp 40) 1, type := 39, pos := "law.go:54", after := #[{ on := 8, ground := Ground.data }, { on := 12, ground := Ground.gcOnly Departure.lateStores }], guard := none }) (v := .int .i64 er) rfl (by kernel_rfl) (by kernel_rfl) (by kernel_rfl) (fun _ _ _ h => h) (Or.inl ⟨by rfl, by intro w hSw; go_simp⟩) (by assumption) ?_
    simp only [Act.put, List.setIfInBounds_toArray, List.set_cons_zero, List.set_cons_succ]
    refine wpAnyH_ready (rs := [12]) (by kernel_rfl) (by simp) (AllReadyH.cons (o := { dst := none, op := Op.store 27 (Operand.tmp 7) (Operand.tmp 49), type := 0, pos := "law.go:54", after := #[{ on := 11, ground := Ground.data }, { on := 9, ground := Ground.data }, { on := 7, ground := Ground.chain }, { on := 0, ground := Ground.phase }, { on := 1, ground := Ground.phase }, { on := 2, ground := Ground.phase }, { on := 3, ground := Ground.phase }, { on := 4, ground := Ground.phase }, { on := 5, ground := Ground.phase }, { on := 6, ground := Ground.phase }, { on := 7, ground := Ground.phase }, { on := 8, ground := Ground.phase }, { on := 9, ground := Ground.phase }, { on := 10, ground := Ground.textOnly Departure.lateStores }, { on := 11, ground := Ground.phase }], guard := none }) rfl (fun KQ hK => ?_) AllReadyH.nil)
    rw [if_pos (by rfl)]
    refine wp_store_st 27 _ _ rfl g7 fu.cs rfl rfl HG36.out (by rw [size27, F.len]) (by rw [F.len, F.len]) fu.all ?_
    have HP37 := hid (HP35.out.but (ButL.setRow w33 g7 fu.cs.toArray (by simp)) HT28.out)
    have HK38 : Hid (OF W (w33.setRow g7 fu.cs.toArray) q g7 27 fu) := hid ⟨HP37.out, HG36.out.set fu.cs⟩
    clear HP35 HG36
    generalize hy : w33.setRow g7 _ = y39 at *
    clear hy
    refine hK.out _ _ HP37.out (fun hHeld => ?_)
    clear hK KQ
    try simp only [Act.put]
    refine wpAnyH_ready (rs := [13]) (by kernel_rfl) (by simp) (AllReadyH.cons (o := { dst := some 8, op := Op.assign (Operand.tmp 50), type := 39, pos := "law.go:54", after := #[{ on := 10, ground := Ground.data }, { on := 12, ground := Ground.chain }, { on := 0, ground := Ground.phase }, { on := 1, ground := Ground.phase }, { on := 2, ground := Ground.phase }, { on := 3, ground := Ground.phase }, { on := 4, ground := Ground.phase }, { on := 5, ground := Ground.phase }, { on := 6, ground := Ground.phase }, { on := 7, ground := Ground.phase }, { on := 8, ground := Ground.phase }, { on := 9, ground := Ground.phase }, { on := 10, ground := Ground.phase }, { on := 11, ground := Ground.phase }, { on := 12, ground := Ground.phase }], guard := none }) rfl (fun KQ hK => ?_) AllReadyH.nil)
    go_simp
    refine hK.out _ _ HP37.out (fun hHeld => ?_)
    clear hK KQ
    try simp only [Act.put, List.setIfInBounds_toArray, List.set_cons_zero, List.set_cons_succ]
    refine wpAnyH_done (by kernel_rfl) ?_ _
    go_upto_region 6 with fail
    have yA := HK38.out.ob.ya
    have yR := HK38.out.ob.yr
    go_wp2_with (first | (refine wpList_load_mid rfl 25 _ rfl W.heap.size 1 rfl q.f.cs _ HK38.out.ob.rng under25 rfl (by rw [size25, F.len]) ?_) | fail)
    refine (HF2.out _).mono ?_
    rintro e v1 ⟨rfl, hv1⟩
    have HO1 := hid (HK38.out.on hv1)
    have HO1' := hid (HO1.out.on (below_one v1 (.cells #[.int .u32 0, .int .u32 0, .int .u32 0, .int .u32 0, .int .u32 0, .int .u32 0, .int .u32 0, .int .u32 0, .int .u32 0, .int .u32 0, .int .u32 0, .int .u32 0, .int .u32 0, .int .u32 0, .int .u32 0, .int .u32 0, .bool false, .bool false, .bool false] 25)))
    have HN1 := hid (cel_new25 v1)
    clear hv1 HK38 yA yR
    go_upto_region 7 with (refine wpList_store_g rfl _ _ rfl v1.heap.size F.zero fu rfl rfl HN1.out ?_; intro v2 hc2 hb2 hs2; have HO2 : Hid (OG W v2 q g7 v1.heap.size fu) := hid ⟨(HO1'.out.but hb2 HO1.out.ob.cel.lt (by have := HO1.out.a.lt; omega)).ob, (HO1'.out.but hb2 HO1.out.ob.cel.lt (by have := HO1.out.a.lt; omega)).a, hc2⟩; clear hc2 hb2 hs2 HO1' HN1 HO1)
    generalize hg9 : v1.heap.size = g9 at *
    clear hg9
    go_wp2_with (first | (refine wpList_load_fg (by rfl) _ rfl g7 fu rfl HO2.out.a ?_) | (refine wpList_load_gg (by rfl) _ rfl g9 fu rfl HO2.out.b ?_) | (go_at_call 27; refine (same_self_any _ _).mono ?_; rintro e v3 ⟨rfl, hv3⟩; have HB3 := hid (below_on HO2.out.ob.below hv3); clear hv3))
    go_ret
    exact ⟨rfl, HB3.out⟩
theorem plays_any (W : World) (q : Oq) (ha : 0 ≤ q.a ∧ q.a < 4294967296) (hb : 0 ≤ q.b ∧ q.b < 4294967296) (b o : Nat) (X : Nat → Int) (hx : WX W q.ao q.n b o X) : Calls Try.prog 18 #[.agg q.cs.toArray] W fun e W' => e = .returned (.bool true) ∧ Below W.heap.size W W' := by
  by_cases h1 : q.k = 1
  · exact play_get W q h1
  by_cases h2 : q.k = 2
  · exact play_compare W q h2 ha hb
  by_cases h3 : q.k = 3
  · exact play_holds W q h3
  by_cases h4 : q.k = 4
  · exact play_flags W q h4 ha.1
  by_cases h5 : q.k = 5
  · exact play_pack W q h5
  by_cases h6 : q.k = 6
  · exact play_unpack W q h6 b o X hx
  by_cases h7 : q.k = 7
  · exact play_start W q h7
  exact play_other W q h1 h2 h3 h4 h5 h6 h7
theorem under55 : Try.prog.underlying 55 = some (.struct (Try.prog.fieldsOf 55)) := by kernel_rfl
theorem size55 : (Try.prog.info? 55).map (·.size) = some 26 := by kernel_rfl
/-- What is known of an Op that came in. -/
structure OqOk (W : World) (q : Oq) : Prop where
  a : 0 ≤ q.a ∧ q.a < 4294967296
  b : 0 ≤ q.b ∧ q.b < 4294967296
  w : ∃ b o X, WX W q.ao q.n b o X
theorem WX.on {W w : World} {ao : Option Addr} {n b o : Nat} {X : Nat → Int} (h : WX W ao n b o X) (hb : Below W.heap.size W w) : WX w ao n b o X :=
  ⟨fun hn => ⟨(h.ao hn).1, Nat.lt_of_lt_of_le (h.ao hn).2 hb.size⟩, fun k hk => ⟨(hb.cell (p := ⟨b, o + k, none⟩) (h.ao (by omega)).2).trans (h.at' k hk).1, (h.at' k hk).2⟩⟩
theorem OqOk.on {W w : World} {q : Oq} (h : OqOk W q) (hb : Below W.heap.size W w) : OqOk w q := ⟨h.a, h.b, by obtain ⟨b, o, X, hx⟩ := h.w; exact ⟨b, o, X, hx.on hb⟩⟩
attribute [-simp] Try.isAgg55
theorem all_any (W : World) (ao : Option Addr) (n c g o : Nat) (Q : Nat → Oq) (hao : 0 < n → ao = some ⟨g, o, none⟩ ∧ g < W.heap.size) (hq : ∀ k, k < n → OqOk W (Q k) ∧ W.rangeAt g (o + k * 26) (Q k).cs) (hn : (n : Int) ≤ 4611686018427387904) :
    Calls Try.prog 6 #[.slice ao n c] W fun e W' => e = .returned (.bool true) ∧ Below W.heap.size W W' := by
  have HA := hid hao
  have HQ := hid hq
  clear hao hq
  go_enter Try.func6, Try.ntmps6
  go_wp2_with fail
  refine (head_any _).mono ?_
  rintro e w1 ⟨rfl, hb1⟩
  have HB1 := hid hb1
  clear hb1
  go_wp2_with fail
  go_loopw [3] (fun i wr => ∃ k : Nat, k ≤ n ∧ i = .int .i64 (k : Int) ∧ Hid (Below W.heap.size W wr)) (fun i _ => n - (intOf i).toNat)
  case atStart => exact ⟨0, Nat.zero_le _, rfl, HB1⟩
  case round =>
    clear HB1
    obtain ⟨k, hk, rfl, HB⟩ := hrel
    by_cases hlt : k < n
    · have c1 : (k : Int) < (n : Int) := by omega
      obtain ⟨hao, hgl⟩ := HA.out (by omega)
      subst hao
      obtain ⟨hok, hrg⟩ := HQ.out k hlt
      have HOK := hid (hok.on HB.out)
      have HRG : Hid (wr.rangeAt g (o + k * 26) (Q k).cs) := hid fun j v hv => (HB.out.cell (p := ⟨g, o + k * 26 + j, none⟩) hgl).trans (hrg j v hv)
      clear hok hrg
      generalize Q k = q at *
      go_wp2_with (refine wpList_load_mid rfl 55 _ rfl g (o + k * 26) rfl q.cs _ HRG.out under55 rfl (by rw [size55, Oq.len]) ?_)
      obtain ⟨b2, o2, X2, hx2⟩ := HOK.out.w
      refine (plays_any _ q HOK.out.a HOK.out.b b2 o2 X2 hx2).mono ?_
      rintro e w2 ⟨rfl, hb2⟩
      have HB2 := hid (below_on HB.out hb2)
      clear hb2 hx2
      go_wp2_with fail
      go_roundw
      case measure => simp [intOf] <;> omega
      case rel => exact ⟨k + 1, by omega, by go_num, HB2⟩
    · obtain rfl : k = n := by omega
      go_wp2_with fail
      go_ret
      exact ⟨rfl, HB.out⟩
end Go.Proofs.Ythpkodkilbcepaa
