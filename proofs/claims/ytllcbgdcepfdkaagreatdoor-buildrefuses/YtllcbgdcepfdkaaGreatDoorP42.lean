import Derived.Test.YtllcbgdcepfdkaaGreatDoorP41
namespace Go.Proofs.YtllcbgdcepfdkaaGreatDoor
open Go.RowKit
theorem sizeF : (Tryz.prog.info? 82).map (·.size) = some 2 := by kernel_rfl
theorem underF : Tryz.prog.underlying 82 = some (.struct (Tryz.prog.fieldsOf 82)) := by kernel_rfl
theorem alloc_size (w : World) (o : Obj) : (w.alloc o).heap.size = w.heap.size + 1 := by simp
theorem wp_copy_pg {o : Oper} {a : Act} {w : World} {K : Act → World → Prop} {Q : Exit → Act → World → Prop} (d s : Operand) (ho : o.op = .call { callee := .builtin .copy, args := #[d, s], argTypes := #[52, 52] })
    (g c e : Nat) (ad : Addr) (cur : List Value) (t : TypeId) (L : List Int) (hd : a.eval d = .slice (some ⟨g, 0, none⟩) 1024 c) (hs : a.eval s = .slice (some ad) 1024 e) (hg : Cel w g t cur) (hcur : cur.length = 1024) (hL : L.length = 1024)
    (hsrc : ∀ j v, (u32s L)[j]? = some v → w.cell? (ad.add j) = some v)
    (h : ∀ w', Cel w' g t (u32s L) → ButL [g] w w' → w'.heap.size = w.heap.size → K (a.put o.dst (goInt 1024)) w') : o.wp Tryz.prog a w K Q := by
  have hl : (u32s L).length = 1024 := by rw [u32s_len, hL]
  have hrun := run_copy_row (P := Tryz.prog) w 52 52 o.type 29 g 0 1024 c ad 1024 e cur.toArray t (u32s L) under24 size32 hg (by rw [hl]; rfl) hsrc (by rw [hl]; simp [hcur]) (u32s_one L)
  have e1 : List.take 0 cur.toArray.toList ++ u32s L ++ List.drop (0 + (u32s L).length) cur.toArray.toList = u32s L := by
    rw [List.drop_eq_nil_of_le (by rw [hl]; simp [hcur])]; simp
  rw [e1, hl] at hrun
  unfold Oper.wp
  simp [execOp, ho, resolve, invoke, builtin, hd, hs, hrun, Result.andThen]
  exact h _ (hg.set _) (.setRow _ _ _ (by simp)) (by simp)
def MS.copy (m : MS) (s : Bool) (p : Int) (t : Bool) (q : Int) : MS := match m.at s p, m.at t q with
  | some k, some j => { m.tick 2048 with P := m.P.set k (m.p j) }
  | _, _ => m
def MS.cerr (m : MS) (s : Bool) (p : Int) (t : Bool) (q : Int) : Int := match m.at s p, m.at t q with
  | some _, some _ => 0
  | _, _ => 5
set_option maxRecDepth 40000 in
set_option maxHeartbeats 4000000 in
theorem copy_any (w : World) (f : Fp) (m : MS) (h : Mem w f m) (s : Bool) (p : Int) (t : Bool) (q : Int) :
    Calls Tryz.prog 51 #[ptr f.gm, fr s p, fr t q] w fun x w' => x = .returned (.int .i64 (m.cerr s p t q)) ∧ Mem w' f (m.copy s p t q) ∧ ButL f.w w w' := by
  have hX := (h.on (below_one w (.cells #[.bool s, .int .i64 p] 82))).on (below_one _ (.cells #[.bool t, .int .i64 q] 82))
  have hB := hid (below_on (below_one w (.cells #[.bool s, .int .i64 p] 82)) (below_one _ (.cells #[.bool t, .int .i64 q] 82)))
  have C1 : Hid (Cel ((w.alloc (.cells #[.bool s, .int .i64 p] 82)).alloc (.cells #[.bool t, .int .i64 q] 82)) w.heap.size 82 [.bool s, .int .i64 p]) := hid ((Cel.new w 82 [.bool s, .int .i64 p]).on (below_one _ _))
  have C2 : Hid (Cel ((w.alloc (.cells #[.bool s, .int .i64 p] 82)).alloc (.cells #[.bool t, .int .i64 q] 82)) (w.heap.size + 1) 82 [.bool t, .int .i64 q]) := hid (by have := Cel.new (w.alloc (.cells #[.bool s, .int .i64 p] 82)) 82 [.bool t, .int .i64 q]; rw [alloc_size] at this; exact this)
  have h1 := h.ns0
  have hlt : Hid (∀ k, m.at s p = some k → k < m.P.length) := fun k hk => MS.at_lt h1 hk
  have hlu : Hid (∀ k, m.at t q = some k → k < m.P.length) := fun k hk => MS.at_lt h1 hk
  have H := hid hX
  clear h hX h1
  unfold MS.copy MS.cerr
  rcases hr1 : m.at s p with _ | k
  · rcases hr2 : m.at t q with _ | j
    · have F1 : Hid (∀ x, Mem x f m → Calls Tryz.prog 114 #[.pointer (some ⟨f.gm, 0, none⟩), .agg #[.bool s, .int .i64 p]] x fun y x' => y = .returned (.pointer none) ∧ Below x.heap.size x x') := hid (fun x hx => by have := find_any x f m hx s p; rw [hr1] at this; exact this)
      have F2 : Hid (∀ x, Mem x f m → Calls Tryz.prog 114 #[.pointer (some ⟨f.gm, 0, none⟩), .agg #[.bool t, .int .i64 q]] x fun y x' => y = .returned (.pointer none) ∧ Below x.heap.size x x') := hid (fun x hx => by have := find_any x f m hx t q; rw [hr2] at this; exact this)
      clear hlt hlu hr1 hr2
      simp only [fr, ptr]
      go_enter Tryz.func51, Tryz.ntmps51
      go_wp2_with fail
      generalize (w.alloc _).alloc _ = X at *
      generalize w.heap.size + 1 = g2 at *
      generalize hgg : w.heap.size = g1 at *
      refine wp_region_held_drew (S := fun x => Below X.heap.size X x) (by kernel_rfl) ((Below.refl _ _).drew) (fun hHeld => ?_)
      refine wpAnyH_take (i := 0) (oi := { dst := some 9, op := Op.move (Operand.tmp 0), type := 67, pos := "touch.go:37", after := #[], guard := none }) (v := .pointer (some ⟨f.gm, 0, none⟩)) rfl (by kernel_rfl) (by kernel_rfl) (by kernel_rfl) (fun _ _ _ h => h) (Or.inl ⟨by rfl, by intro w hSw; go_simp⟩) (by assumption) ?_
      simp only [Act.put, List.setIfInBounds_toArray, List.set_cons_zero, List.set_cons_succ]
      refine wpAnyH_take (i := 1) (oi := { dst := some 10, op := Op.load 82 (Operand.tmp 4), type := 82, pos := "touch.go:37", after := #[], guard := none }) (v := .agg #[.bool s, .int .i64 p]) rfl (by kernel_rfl) (by kernel_rfl) (by kernel_rfl) (fun _ _ _ h => h) (yieldsIf_load_mid (by rfl) _ _ rfl _ _ rfl _ _ (fun w hSw => (C1.out.on hSw).range) underF rfl sizeF) (by assumption) ?_
      simp only [Act.put, List.setIfInBounds_toArray, List.set_cons_zero, List.set_cons_succ]
      refine wpAnyH_take (i := 3) (oi := { dst := some 12, op := Op.move (Operand.tmp 0), type := 67, pos := "touch.go:37", after := #[], guard := none }) (v := .pointer (some ⟨f.gm, 0, none⟩)) rfl (by kernel_rfl) (by kernel_rfl) (by kernel_rfl) (fun _ _ _ h => h) (Or.inl ⟨by rfl, by intro w hSw; go_simp⟩) (by assumption) ?_
      simp only [Act.put, List.setIfInBounds_toArray, List.set_cons_zero, List.set_cons_succ]
      refine wpAnyH_take (i := 4) (oi := { dst := some 13, op := Op.load 82 (Operand.tmp 5), type := 82, pos := "touch.go:37", after := #[], guard := none }) (v := .agg #[.bool t, .int .i64 q]) rfl (by kernel_rfl) (by kernel_rfl) (by kernel_rfl) (fun _ _ _ h => h) (yieldsIf_load_mid (by rfl) _ _ rfl _ _ rfl _ _ (fun w hSw => (C2.out.on hSw).range) underF rfl sizeF) (by assumption) ?_
      simp only [Act.put, List.setIfInBounds_toArray, List.set_cons_zero, List.set_cons_succ]
      refine wpAnyH_ready (rs := [2]) (by kernel_rfl) (by simp) (AllReadyH.cons (o := { dst := some 11, op := Op.call { callee := Callee.value (Operand.func 114), args := #[Operand.tmp 9, Operand.tmp 10], argTypes := #[67, 82] }, type := 183, pos := "touch.go:37", after := #[{ on := 0, ground := Ground.data }, { on := 1, ground := Ground.data }], guard := none }) rfl (fun KQ hK => ?_) AllReadyH.nil)
      go_simp
      refine (F1.out _ (H.out.on ((Below.refl _ _).drew))).mono ?_
      rintro x wa ⟨rfl, hb1⟩
      have hS1 := below_on ((Below.refl _ _).drew) hb1
      go_wp2_with fail
      refine hK.out _ _ hS1 (fun hHeld => ?_)
      clear hK KQ
      try simp only [Act.put, List.setIfInBounds_toArray, List.set_cons_zero, List.set_cons_succ]
      refine wpAnyH_ready (rs := [5]) (by kernel_rfl) (by simp) (AllReadyH.cons (o := { dst := some 14, op := Op.call { callee := Callee.value (Operand.func 114), args := #[Operand.tmp 12, Operand.tmp 13], argTypes := #[67, 82] }, type := 183, pos := "touch.go:37", after := #[{ on := 3, ground := Ground.data }, { on := 4, ground := Ground.data }, { on := 2, ground := Ground.chain }], guard := none }) rfl (fun KQ hK => ?_) AllReadyH.nil)
      go_simp
      refine (F2.out _ (H.out.on hS1)).mono ?_
      rintro x wb ⟨rfl, hb2⟩
      have hS2 := below_on hS1 hb2
      go_wp2_with fail
      refine hK.out _ _ hS2 (fun hHeld => ?_)
      clear hK KQ
      try simp only [Act.put, List.setIfInBounds_toArray, List.set_cons_zero, List.set_cons_succ]
      refine wpAnyH_ready (rs := [6]) (by kernel_rfl) (by simp) (AllReadyH.cons (o := { dst := some 7, op := Op.assign (Operand.tmp 11), type := 183, pos := "touch.go:37", after := #[{ on := 2, ground := Ground.data }, { on := 5, ground := Ground.chain }, { on := 0, ground := Ground.phase }, { on := 1, ground := Ground.phase }, { on := 2, ground := Ground.phase }, { on := 3, ground := Ground.textOnly Departure.lateStores }, { on := 4, ground := Ground.textOnly Departure.lateStores }, { on := 5, ground := Ground.textOnly Departure.lateStoresUnsure }], guard := none }) rfl (fun KQ hK => ?_) AllReadyH.nil)
      go_simp
      refine hK.out _ _ hS2 (fun hHeld => ?_)
      clear hK KQ
      try simp only [Act.put, List.setIfInBounds_toArray, List.set_cons_zero, List.set_cons_succ]
      refine wpAnyH_ready (rs := [7]) (by kernel_rfl) (by simp) (AllReadyH.cons (o := { dst := some 8, op := Op.assign (Operand.tmp 14), type := 183, pos := "touch.go:37", after := #[{ on := 5, ground := Ground.data }, { on := 6, ground := Ground.chain }, { on := 0, ground := Ground.phase }, { on := 1, ground := Ground.phase }, { on := 2, ground := Ground.phase }, { on := 3, ground := Ground.phase }, { on := 4, ground := Ground.phase }, { on := 5, ground := Ground.phase }, { on := 6, ground := Ground.phase }], guard := none }) rfl (fun KQ hK => ?_) AllReadyH.nil)
      go_simp
      refine hK.out _ _ hS2 (fun hHeld => ?_)
      clear hK KQ
      try simp only [Act.put, List.setIfInBounds_toArray, List.set_cons_zero, List.set_cons_succ]
      refine wpAnyH_done (by kernel_rfl) ?_ _
      clear hHeld
      have HM := hid (H.out.on hS2)
      have HBX := hid hS2
      clear hS1 hS2 hb1 hb2 C1 C2 F1 F2 H
      go_wp2_with fail
      go_ret
      exact ⟨rfl, HM.out, .of (hgg ▸ below_to hB.out (hgg ▸ hB.out.size) HBX.out)⟩
    · have F1 : Hid (∀ x, Mem x f m → Calls Tryz.prog 114 #[.pointer (some ⟨f.gm, 0, none⟩), .agg #[.bool s, .int .i64 p]] x fun y x' => y = .returned (.pointer none) ∧ Below x.heap.size x x') := hid (fun x hx => by have := find_any x f m hx s p; rw [hr1] at this; exact this)
      have F2 : Hid (∀ x, Mem x f m → Calls Tryz.prog 114 #[.pointer (some ⟨f.gm, 0, none⟩), .agg #[.bool t, .int .i64 q]] x fun y x' => y = .returned (.pointer (some ⟨f.b j, 0, none⟩)) ∧ Below x.heap.size x x') := hid (fun x hx => by have := find_any x f m hx t q; rw [hr2] at this; exact this)
      have hj := hlu.out _ hr2
      clear hlt hlu hr1 hr2
      simp only [fr, ptr]
      go_enter Tryz.func51, Tryz.ntmps51
      go_wp2_with fail
      generalize (w.alloc _).alloc _ = X at *
      generalize w.heap.size + 1 = g2 at *
      generalize hgg : w.heap.size = g1 at *
      refine wp_region_held_drew (S := fun x => Below X.heap.size X x) (by kernel_rfl) ((Below.refl _ _).drew) (fun hHeld => ?_)
      refine wpAnyH_take (i := 0) (oi := { dst := some 9, op := Op.move (Operand.tmp 0), type := 67, pos := "touch.go:37", after := #[], guard := none }) (v := .pointer (some ⟨f.gm, 0, none⟩)) rfl (by kernel_rfl) (by kernel_rfl) (by kernel_rfl) (fun _ _ _ h => h) (Or.inl ⟨by rfl, by intro w hSw; go_simp⟩) (by assumption) ?_
      simp only [Act.put, List.setIfInBounds_toArray, List.set_cons_zero, List.set_cons_succ]
      refine wpAnyH_take (i := 1) (oi := { dst := some 10, op := Op.load 82 (Operand.tmp 4), type := 82, pos := "touch.go:37", after := #[], guard := none }) (v := .agg #[.bool s, .int .i64 p]) rfl (by kernel_rfl) (by kernel_rfl) (by kernel_rfl) (fun _ _ _ h => h) (yieldsIf_load_mid (by rfl) _ _ rfl _ _ rfl _ _ (fun w hSw => (C1.out.on hSw).range) underF rfl sizeF) (by assumption) ?_
      simp only [Act.put, List.setIfInBounds_toArray, List.set_cons_zero, List.set_cons_succ]
      refine wpAnyH_take (i := 3) (oi := { dst := some 12, op := Op.move (Operand.tmp 0), type := 67, pos := "touch.go:37", after := #[], guard := none }) (v := .pointer (some ⟨f.gm, 0, none⟩)) rfl (by kernel_rfl) (by kernel_rfl) (by kernel_rfl) (fun _ _ _ h => h) (Or.inl ⟨by rfl, by intro w hSw; go_simp⟩) (by assumption) ?_
      simp only [Act.put, List.setIfInBounds_toArray, List.set_cons_zero, List.set_cons_succ]
      refine wpAnyH_take (i := 4) (oi := { dst := some 13, op := Op.load 82 (Operand.tmp 5), type := 82, pos := "touch.go:37", after := #[], guard := none }) (v := .agg #[.bool t, .int .i64 q]) rfl (by kernel_rfl) (by kernel_rfl) (by kernel_rfl) (fun _ _ _ h => h) (yieldsIf_load_mid (by rfl) _ _ rfl _ _ rfl _ _ (fun w hSw => (C2.out.on hSw).range) underF rfl sizeF) (by assumption) ?_
      simp only [Act.put, List.setIfInBounds_toArray, List.set_cons_zero, List.set_cons_succ]
      refine wpAnyH_ready (rs := [2]) (by kernel_rfl) (by simp) (AllReadyH.cons (o := { dst := some 11, op := Op.call { callee := Callee.value (Operand.func 114), args := #[Operand.tmp 9, Operand.tmp 10], argTypes := #[67, 82] }, type := 183, pos := "touch.go:37", after := #[{ on := 0, ground := Ground.data }, { on := 1, ground := Ground.data }], guard := none }) rfl (fun KQ hK => ?_) AllReadyH.nil)
      go_simp
      refine (F1.out _ (H.out.on ((Below.refl _ _).drew))).mono ?_
      rintro x wa ⟨rfl, hb1⟩
      have hS1 := below_on ((Below.refl _ _).drew) hb1
      go_wp2_with fail
      refine hK.out _ _ hS1 (fun hHeld => ?_)
      clear hK KQ
      try simp only [Act.put, List.setIfInBounds_toArray, List.set_cons_zero, List.set_cons_succ]
      refine wpAnyH_ready (rs := [5]) (by kernel_rfl) (by simp) (AllReadyH.cons (o := { dst := some 14, op := Op.call { callee := Callee.value (Operand.func 114), args := #[Operand.tmp 12, Operand.tmp 13], argTypes := #[67, 82] }, type := 183, pos := "touch.go:37", after := #[{ on := 3, ground := Ground.data }, { on := 4, ground := Ground.data }, { on := 2, ground := Ground.chain }], guard := none }) rfl (fun KQ hK => ?_) AllReadyH.nil)
      go_simp
      refine (F2.out _ (H.out.on hS1)).mono ?_
      rintro x wb ⟨rfl, hb2⟩
      have hS2 := below_on hS1 hb2
      go_wp2_with fail
      refine hK.out _ _ hS2 (fun hHeld => ?_)
      clear hK KQ
      try simp only [Act.put, List.setIfInBounds_toArray, List.set_cons_zero, List.set_cons_succ]
      refine wpAnyH_ready (rs := [6]) (by kernel_rfl) (by simp) (AllReadyH.cons (o := { dst := some 7, op := Op.assign (Operand.tmp 11), type := 183, pos := "touch.go:37", after := #[{ on := 2, ground := Ground.data }, { on := 5, ground := Ground.chain }, { on := 0, ground := Ground.phase }, { on := 1, ground := Ground.phase }, { on := 2, ground := Ground.phase }, { on := 3, ground := Ground.textOnly Departure.lateStores }, { on := 4, ground := Ground.textOnly Departure.lateStores }, { on := 5, ground := Ground.textOnly Departure.lateStoresUnsure }], guard := none }) rfl (fun KQ hK => ?_) AllReadyH.nil)
      go_simp
      refine hK.out _ _ hS2 (fun hHeld => ?_)
      clear hK KQ
      try simp only [Act.put, List.setIfInBounds_toArray, List.set_cons_zero, List.set_cons_succ]
      refine wpAnyH_ready (rs := [7]) (by kernel_rfl) (by simp) (AllReadyH.cons (o := { dst := some 8, op := Op.assign (Operand.tmp 14), type := 183, pos := "touch.go:37", after := #[{ on := 5, ground := Ground.data }, { on := 6, ground := Ground.chain }, { on := 0, ground := Ground.phase }, { on := 1, ground := Ground.phase }, { on := 2, ground := Ground.phase }, { on := 3, ground := Ground.phase }, { on := 4, ground := Ground.phase }, { on := 5, ground := Ground.phase }, { on := 6, ground := Ground.phase }], guard := none }) rfl (fun KQ hK => ?_) AllReadyH.nil)
      go_simp
      refine hK.out _ _ hS2 (fun hHeld => ?_)
      clear hK KQ
      try simp only [Act.put, List.setIfInBounds_toArray, List.set_cons_zero, List.set_cons_succ]
      refine wpAnyH_done (by kernel_rfl) ?_ _
      clear hHeld
      have HM := hid (H.out.on hS2)
      have HBX := hid hS2
      clear hS1 hS2 hb1 hb2 C1 C2 F1 F2 H
      go_wp2_with fail
      go_ret
      exact ⟨rfl, HM.out, .of (hgg ▸ below_to hB.out (hgg ▸ hB.out.size) HBX.out)⟩
  · rcases hr2 : m.at t q with _ | j
    · have F1 : Hid (∀ x, Mem x f m → Calls Tryz.prog 114 #[.pointer (some ⟨f.gm, 0, none⟩), .agg #[.bool s, .int .i64 p]] x fun y x' => y = .returned (.pointer (some ⟨f.b k, 0, none⟩)) ∧ Below x.heap.size x x') := hid (fun x hx => by have := find_any x f m hx s p; rw [hr1] at this; exact this)
      have hk := hlt.out _ hr1
      have F2 : Hid (∀ x, Mem x f m → Calls Tryz.prog 114 #[.pointer (some ⟨f.gm, 0, none⟩), .agg #[.bool t, .int .i64 q]] x fun y x' => y = .returned (.pointer none) ∧ Below x.heap.size x x') := hid (fun x hx => by have := find_any x f m hx t q; rw [hr2] at this; exact this)
      clear hlt hlu hr1 hr2
      simp only [fr, ptr]
      go_enter Tryz.func51, Tryz.ntmps51
      go_wp2_with fail
      generalize (w.alloc _).alloc _ = X at *
      generalize w.heap.size + 1 = g2 at *
      generalize hgg : w.heap.size = g1 at *
      refine wp_region_held_drew (S := fun x => Below X.heap.size X x) (by kernel_rfl) ((Below.refl _ _).drew) (fun hHeld => ?_)
      refine wpAnyH_take (i := 0) (oi := { dst := some 9, op := Op.move (Operand.tmp 0), type := 67, pos := "touch.go:37", after := #[], guard := none }) (v := .pointer (some ⟨f.gm, 0, none⟩)) rfl (by kernel_rfl) (by kernel_rfl) (by kernel_rfl) (fun _ _ _ h => h) (Or.inl ⟨by rfl, by intro w hSw; go_simp⟩) (by assumption) ?_
      simp only [Act.put, List.setIfInBounds_toArray, List.set_cons_zero, List.set_cons_succ]
      refine wpAnyH_take (i := 1) (oi := { dst := some 10, op := Op.load 82 (Operand.tmp 4), type := 82, pos := "touch.go:37", after := #[], guard := none }) (v := .agg #[.bool s, .int .i64 p]) rfl (by kernel_rfl) (by kernel_rfl) (by kernel_rfl) (fun _ _ _ h => h) (yieldsIf_load_mid (by rfl) _ _ rfl _ _ rfl _ _ (fun w hSw => (C1.out.on hSw).range) underF rfl sizeF) (by assumption) ?_
      simp only [Act.put, List.setIfInBounds_toArray, List.set_cons_zero, List.set_cons_succ]
      refine wpAnyH_take (i := 3) (oi := { dst := some 12, op := Op.move (Operand.tmp 0), type := 67, pos := "touch.go:37", after := #[], guard := none }) (v := .pointer (some ⟨f.gm, 0, none⟩)) rfl (by kernel_rfl) (by kernel_rfl) (by kernel_rfl) (fun _ _ _ h => h) (Or.inl ⟨by rfl, by intro w hSw; go_simp⟩) (by assumption) ?_
      simp only [Act.put, List.setIfInBounds_toArray, List.set_cons_zero, List.set_cons_succ]
      refine wpAnyH_take (i := 4) (oi := { dst := some 13, op := Op.load 82 (Operand.tmp 5), type := 82, pos := "touch.go:37", after := #[], guard := none }) (v := .agg #[.bool t, .int .i64 q]) rfl (by kernel_rfl) (by kernel_rfl) (by kernel_rfl) (fun _ _ _ h => h) (yieldsIf_load_mid (by rfl) _ _ rfl _ _ rfl _ _ (fun w hSw => (C2.out.on hSw).range) underF rfl sizeF) (by assumption) ?_
      simp only [Act.put, List.setIfInBounds_toArray, List.set_cons_zero, List.set_cons_succ]
      refine wpAnyH_ready (rs := [2]) (by kernel_rfl) (by simp) (AllReadyH.cons (o := { dst := some 11, op := Op.call { callee := Callee.value (Operand.func 114), args := #[Operand.tmp 9, Operand.tmp 10], argTypes := #[67, 82] }, type := 183, pos := "touch.go:37", after := #[{ on := 0, ground := Ground.data }, { on := 1, ground := Ground.data }], guard := none }) rfl (fun KQ hK => ?_) AllReadyH.nil)
      go_simp
      refine (F1.out _ (H.out.on ((Below.refl _ _).drew))).mono ?_
      rintro x wa ⟨rfl, hb1⟩
      have hS1 := below_on ((Below.refl _ _).drew) hb1
      go_wp2_with fail
      refine hK.out _ _ hS1 (fun hHeld => ?_)
      clear hK KQ
      try simp only [Act.put, List.setIfInBounds_toArray, List.set_cons_zero, List.set_cons_succ]
      refine wpAnyH_ready (rs := [5]) (by kernel_rfl) (by simp) (AllReadyH.cons (o := { dst := some 14, op := Op.call { callee := Callee.value (Operand.func 114), args := #[Operand.tmp 12, Operand.tmp 13], argTypes := #[67, 82] }, type := 183, pos := "touch.go:37", after := #[{ on := 3, ground := Ground.data }, { on := 4, ground := Ground.data }, { on := 2, ground := Ground.chain }], guard := none }) rfl (fun KQ hK => ?_) AllReadyH.nil)
      go_simp
      refine (F2.out _ (H.out.on hS1)).mono ?_
      rintro x wb ⟨rfl, hb2⟩
      have hS2 := below_on hS1 hb2
      go_wp2_with fail
      refine hK.out _ _ hS2 (fun hHeld => ?_)
      clear hK KQ
      try simp only [Act.put, List.setIfInBounds_toArray, List.set_cons_zero, List.set_cons_succ]
      refine wpAnyH_ready (rs := [6]) (by kernel_rfl) (by simp) (AllReadyH.cons (o := { dst := some 7, op := Op.assign (Operand.tmp 11), type := 183, pos := "touch.go:37", after := #[{ on := 2, ground := Ground.data }, { on := 5, ground := Ground.chain }, { on := 0, ground := Ground.phase }, { on := 1, ground := Ground.phase }, { on := 2, ground := Ground.phase }, { on := 3, ground := Ground.textOnly Departure.lateStores }, { on := 4, ground := Ground.textOnly Departure.lateStores }, { on := 5, ground := Ground.textOnly Departure.lateStoresUnsure }], guard := none }) rfl (fun KQ hK => ?_) AllReadyH.nil)
      go_simp
      refine hK.out _ _ hS2 (fun hHeld => ?_)
      clear hK KQ
      try simp only [Act.put, List.setIfInBounds_toArray, List.set_cons_zero, List.set_cons_succ]
      refine wpAnyH_ready (rs := [7]) (by kernel_rfl) (by simp) (AllReadyH.cons (o := { dst := some 8, op := Op.assign (Operand.tmp 14), type := 183, pos := "touch.go:37", after := #[{ on := 5, ground := Ground.data }, { on := 6, ground := Ground.chain }, { on := 0, ground := Ground.phase }, { on := 1, ground := Ground.phase }, { on := 2, ground := Ground.phase }, { on := 3, ground := Ground.phase }, { on := 4, ground := Ground.phase }, { on := 5, ground := Ground.phase }, { on := 6, ground := Ground.phase }], guard := none }) rfl (fun KQ hK => ?_) AllReadyH.nil)
      go_simp
      refine hK.out _ _ hS2 (fun hHeld => ?_)
      clear hK KQ
      try simp only [Act.put, List.setIfInBounds_toArray, List.set_cons_zero, List.set_cons_succ]
      refine wpAnyH_done (by kernel_rfl) ?_ _
      clear hHeld
      have HM := hid (H.out.on hS2)
      have HBX := hid hS2
      clear hS1 hS2 hb1 hb2 C1 C2 F1 F2 H
      go_wp2_with fail
      go_ret
      exact ⟨rfl, HM.out, .of (hgg ▸ below_to hB.out (hgg ▸ hB.out.size) HBX.out)⟩
    · have F1 : Hid (∀ x, Mem x f m → Calls Tryz.prog 114 #[.pointer (some ⟨f.gm, 0, none⟩), .agg #[.bool s, .int .i64 p]] x fun y x' => y = .returned (.pointer (some ⟨f.b k, 0, none⟩)) ∧ Below x.heap.size x x') := hid (fun x hx => by have := find_any x f m hx s p; rw [hr1] at this; exact this)
      have hk := hlt.out _ hr1
      have F2 : Hid (∀ x, Mem x f m → Calls Tryz.prog 114 #[.pointer (some ⟨f.gm, 0, none⟩), .agg #[.bool t, .int .i64 q]] x fun y x' => y = .returned (.pointer (some ⟨f.b j, 0, none⟩)) ∧ Below x.heap.size x x') := hid (fun x hx => by have := find_any x f m hx t q; rw [hr2] at this; exact this)
      have hj := hlu.out _ hr2
      clear hlt hlu hr1 hr2
      simp only [fr, ptr]
      go_enter Tryz.func51, Tryz.ntmps51
      go_wp2_with fail
      generalize (w.alloc _).alloc _ = X at *
      generalize w.heap.size + 1 = g2 at *
      generalize hgg : w.heap.size = g1 at *
      refine wp_region_held_drew (S := fun x => Below X.heap.size X x) (by kernel_rfl) ((Below.refl _ _).drew) (fun hHeld => ?_)
      refine wpAnyH_take (i := 0) (oi := { dst := some 9, op := Op.move (Operand.tmp 0), type := 67, pos := "touch.go:37", after := #[], guard := none }) (v := .pointer (some ⟨f.gm, 0, none⟩)) rfl (by kernel_rfl) (by kernel_rfl) (by kernel_rfl) (fun _ _ _ h => h) (Or.inl ⟨by rfl, by intro w hSw; go_simp⟩) (by assumption) ?_
      simp only [Act.put, List.setIfInBounds_toArray, List.set_cons_zero, List.set_cons_succ]
      refine wpAnyH_take (i := 1) (oi := { dst := some 10, op := Op.load 82 (Operand.tmp 4), type := 82, pos := "touch.go:37", after := #[], guard := none }) (v := .agg #[.bool s, .int .i64 p]) rfl (by kernel_rfl) (by kernel_rfl) (by kernel_rfl) (fun _ _ _ h => h) (yieldsIf_load_mid (by rfl) _ _ rfl _ _ rfl _ _ (fun w hSw => (C1.out.on hSw).range) underF rfl sizeF) (by assumption) ?_
      simp only [Act.put, List.setIfInBounds_toArray, List.set_cons_zero, List.set_cons_succ]
      refine wpAnyH_take (i := 3) (oi := { dst := some 12, op := Op.move (Operand.tmp 0), type := 67, pos := "touch.go:37", after := #[], guard := none }) (v := .pointer (some ⟨f.gm, 0, none⟩)) rfl (by kernel_rfl) (by kernel_rfl) (by kernel_rfl) (fun _ _ _ h => h) (Or.inl ⟨by rfl, by intro w hSw; go_simp⟩) (by assumption) ?_
      simp only [Act.put, List.setIfInBounds_toArray, List.set_cons_zero, List.set_cons_succ]
      refine wpAnyH_take (i := 4) (oi := { dst := some 13, op := Op.load 82 (Operand.tmp 5), type := 82, pos := "touch.go:37", after := #[], guard := none }) (v := .agg #[.bool t, .int .i64 q]) rfl (by kernel_rfl) (by kernel_rfl) (by kernel_rfl) (fun _ _ _ h => h) (yieldsIf_load_mid (by rfl) _ _ rfl _ _ rfl _ _ (fun w hSw => (C2.out.on hSw).range) underF rfl sizeF) (by assumption) ?_
      simp only [Act.put, List.setIfInBounds_toArray, List.set_cons_zero, List.set_cons_succ]
      refine wpAnyH_ready (rs := [2]) (by kernel_rfl) (by simp) (AllReadyH.cons (o := { dst := some 11, op := Op.call { callee := Callee.value (Operand.func 114), args := #[Operand.tmp 9, Operand.tmp 10], argTypes := #[67, 82] }, type := 183, pos := "touch.go:37", after := #[{ on := 0, ground := Ground.data }, { on := 1, ground := Ground.data }], guard := none }) rfl (fun KQ hK => ?_) AllReadyH.nil)
      go_simp
      refine (F1.out _ (H.out.on ((Below.refl _ _).drew))).mono ?_
      rintro x wa ⟨rfl, hb1⟩
      have hS1 := below_on ((Below.refl _ _).drew) hb1
      go_wp2_with fail
      refine hK.out _ _ hS1 (fun hHeld => ?_)
      clear hK KQ
      try simp only [Act.put, List.setIfInBounds_toArray, List.set_cons_zero, List.set_cons_succ]
      refine wpAnyH_ready (rs := [5]) (by kernel_rfl) (by simp) (AllReadyH.cons (o := { dst := some 14, op := Op.call { callee := Callee.value (Operand.func 114), args := #[Operand.tmp 12, Operand.tmp 13], argTypes := #[67, 82] }, type := 183, pos := "touch.go:37", after := #[{ on := 3, ground := Ground.data }, { on := 4, ground := Ground.data }, { on := 2, ground := Ground.chain }], guard := none }) rfl (fun KQ hK => ?_) AllReadyH.nil)
      go_simp
      refine (F2.out _ (H.out.on hS1)).mono ?_
      rintro x wb ⟨rfl, hb2⟩
      have hS2 := below_on hS1 hb2
      go_wp2_with fail
      refine hK.out _ _ hS2 (fun hHeld => ?_)
      clear hK KQ
      try simp only [Act.put, List.setIfInBounds_toArray, List.set_cons_zero, List.set_cons_succ]
      refine wpAnyH_ready (rs := [6]) (by kernel_rfl) (by simp) (AllReadyH.cons (o := { dst := some 7, op := Op.assign (Operand.tmp 11), type := 183, pos := "touch.go:37", after := #[{ on := 2, ground := Ground.data }, { on := 5, ground := Ground.chain }, { on := 0, ground := Ground.phase }, { on := 1, ground := Ground.phase }, { on := 2, ground := Ground.phase }, { on := 3, ground := Ground.textOnly Departure.lateStores }, { on := 4, ground := Ground.textOnly Departure.lateStores }, { on := 5, ground := Ground.textOnly Departure.lateStoresUnsure }], guard := none }) rfl (fun KQ hK => ?_) AllReadyH.nil)
      go_simp
      refine hK.out _ _ hS2 (fun hHeld => ?_)
      clear hK KQ
      try simp only [Act.put, List.setIfInBounds_toArray, List.set_cons_zero, List.set_cons_succ]
      refine wpAnyH_ready (rs := [7]) (by kernel_rfl) (by simp) (AllReadyH.cons (o := { dst := some 8, op := Op.assign (Operand.tmp 14), type := 183, pos := "touch.go:37", after := #[{ on := 5, ground := Ground.data }, { on := 6, ground := Ground.chain }, { on := 0, ground := Ground.phase }, { on := 1, ground := Ground.phase }, { on := 2, ground := Ground.phase }, { on := 3, ground := Ground.phase }, { on := 4, ground := Ground.phase }, { on := 5, ground := Ground.phase }, { on := 6, ground := Ground.phase }], guard := none }) rfl (fun KQ hK => ?_) AllReadyH.nil)
      go_simp
      refine hK.out _ _ hS2 (fun hHeld => ?_)
      clear hK KQ
      try simp only [Act.put, List.setIfInBounds_toArray, List.set_cons_zero, List.set_cons_succ]
      refine wpAnyH_done (by kernel_rfl) ?_ _
      clear hHeld
      have HM := hid (H.out.on hS2)
      have HBX := hid hS2
      clear hS1 hS2 hb1 hb2 C1 C2 F1 F2 H
      have c2 := HM.out.cm
      have f2 := HM.out.cel.free 2
      have HT := hid (HM.out.tick 2048)
      have HG := hid (HM.out.mem k hk)
      have HBT : Hid (ButL f.w w (wb.setCell ⟨f.gm, 2, none⟩ (.int .i64 (wrap64 (m.c + 2048))))) := hid ((ButL.of (hgg ▸ below_to hB.out (hgg ▸ hB.out.size) HBX.out)).trans (.setCell _ _ _ _ (by simp [Fp.w])))
      clear HM HBX hB hgg
      go_wp2_with fail
      generalize (wb.setCell _ _) = Y at *
      refine wp_region_held_drew (S := fun x => ButL [f.b k] Y x) (by kernel_rfl) (.of (Below.refl _ _).drew) (fun hHeld => ?_)
      refine wpAnyH_take (i := 0) (oi := { dst := some 28, op := Op.move (Operand.tmp 7), type := 183, pos := "touch.go:43", after := #[], guard := none }) (v := .pointer (some ⟨f.b k, 0, none⟩)) rfl (by kernel_rfl) (by kernel_rfl) (by kernel_rfl) (fun _ _ _ h => h) (Or.inl ⟨by rfl, by intro w hSw; go_simp⟩) (by assumption) ?_
      simp only [Act.put, List.setIfInBounds_toArray, List.set_cons_zero, List.set_cons_succ]
      refine wpAnyH_take (i := 1) (oi := { dst := some 29, op := Op.nilCheck (Operand.tmp 28), type := 183, pos := "touch.go:43", after := #[{ on := 0, ground := Ground.data }], guard := none }) (v := .pointer (some ⟨f.b k, 0, none⟩)) rfl (by kernel_rfl) (by kernel_rfl) (by kernel_rfl) (fun _ _ _ h => h) (Or.inl ⟨by rfl, by intro w hSw; go_simp⟩) (by assumption) ?_
      simp only [Act.put, List.setIfInBounds_toArray, List.set_cons_zero, List.set_cons_succ]
      refine wpAnyH_take (i := 2) (oi := { dst := some 30, op := Op.slice 237 (Operand.tmp 29) none none none, type := 52, pos := "touch.go:43", after := #[{ on := 1, ground := Ground.data }], guard := none }) (v := .slice (some ⟨f.b k, 0, none⟩) 1024 1024) rfl (by kernel_rfl) (by kernel_rfl) (by kernel_rfl) (fun _ _ _ h => h) (Or.inl ⟨by rfl, by intro w hSw; go_simp⟩) (by assumption) ?_
      simp only [Act.put, List.setIfInBounds_toArray, List.set_cons_zero, List.set_cons_succ]
      refine wpAnyH_take (i := 3) (oi := { dst := some 31, op := Op.move (Operand.tmp 8), type := 183, pos := "touch.go:43", after := #[], guard := none }) (v := .pointer (some ⟨f.b j, 0, none⟩)) rfl (by kernel_rfl) (by kernel_rfl) (by kernel_rfl) (fun _ _ _ h => h) (Or.inl ⟨by rfl, by intro w hSw; go_simp⟩) (by assumption) ?_
      simp only [Act.put, List.setIfInBounds_toArray, List.set_cons_zero, List.set_cons_succ]
      refine wpAnyH_take (i := 4) (oi := { dst := some 32, op := Op.nilCheck (Operand.tmp 31), type := 183, pos := "touch.go:43", after := #[{ on := 3, ground := Ground.data }], guard := none }) (v := .pointer (some ⟨f.b j, 0, none⟩)) rfl (by kernel_rfl) (by kernel_rfl) (by kernel_rfl) (fun _ _ _ h => h) (Or.inl ⟨by rfl, by intro w hSw; go_simp⟩) (by assumption) ?_
      simp only [Act.put, List.setIfInBounds_toArray, List.set_cons_zero, List.set_cons_succ]
      refine wpAnyH_take (i := 5) (oi := { dst := some 33, op := Op.slice 237 (Operand.tmp 32) none none none, type := 52, pos := "touch.go:43", after := #[{ on := 4, ground := Ground.data }], guard := none }) (v := .slice (some ⟨f.b j, 0, none⟩) 1024 1024) rfl (by kernel_rfl) (by kernel_rfl) (by kernel_rfl) (fun _ _ _ h => h) (Or.inl ⟨by rfl, by intro w hSw; go_simp⟩) (by assumption) ?_
      simp only [Act.put, List.setIfInBounds_toArray, List.set_cons_zero, List.set_cons_succ]
      refine wpAnyH_ready (rs := [6]) (by kernel_rfl) (by simp) (AllReadyH.cons (o := { dst := some 34, op := Op.call { callee := Callee.builtin Builtin.copy, args := #[Operand.tmp 30, Operand.tmp 33], argTypes := #[52, 52] }, type := 3, pos := "touch.go:43", after := #[{ on := 2, ground := Ground.data }, { on := 5, ground := Ground.data }], guard := none }) rfl (fun KQ hK => ?_) AllReadyH.nil)
      rw [if_pos (by rfl)]
      refine wp_copy_pg _ _ rfl (f.b k) 1024 1024 ⟨f.b j, 0, none⟩ (u32s (m.p k)) 237 (m.p j) rfl rfl ((HT.out.on (Below.refl _ _).drew).pg k hk) (by rw [u32s_len]; exact HT.out.full k hk) (HT.out.full j hj) ((HT.out.on (Below.refl _ _).drew).pg j hj).src ?_
      intro w3 hc3 hb3 hs3
      have hS3 : ButL [f.b k] Y w3 := ButL.trans (.of (Below.refl _ _).drew) hb3
      refine hK.out _ _ hS3 (fun hHeld => ?_)
      clear hK KQ
      try simp only [Act.put, List.setIfInBounds_toArray, List.set_cons_zero, List.set_cons_succ]
      refine wpAnyH_done (by kernel_rfl) ?_ _
      clear hHeld
      have HC3 := hid hc3
      have HB3 := hid hS3
      clear hc3 hb3 hs3 hS3
      go_wp2_with fail
      go_ret
      exact ⟨rfl, HT.out.page k hk (m.p j) (HT.out.full j hj) HB3.out HC3.out, HBT.out.trans (HB3.out.mono (by intro g hg; rw [List.mem_singleton] at hg; subst hg; simp only [Fp.w, List.mem_cons]; exact .inr HG.out))⟩
end Go.Proofs.YtllcbgdcepfdkaaGreatDoor
