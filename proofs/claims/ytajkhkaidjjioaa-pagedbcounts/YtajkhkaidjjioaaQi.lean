/- The law's said 30. -/
import Derived.Test.YtajkhkaidjjioaaQh
namespace Go.Proofs.Ytajkhkaidjjioaa
open Go.RowKit
set_option maxHeartbeats 4000000
set_option maxRecDepth 100000
structure D2 (W x : World) (p : Dp) (d : DS) (q : Dp) (e : DS) (L : List (Nat × TypeId × List Value)) : Prop where
  a : DB x p d
  b : DB x q e
  bag : Bag W x L
theorem D2.on {W x x' : World} {p q : Dp} {d e : DS} {L : List (Nat × TypeId × List Value)} (h : D2 W x p d q e L) (hb : Below x.heap.size x x') : D2 W x' p d q e L := ⟨h.a.on hb, h.b.on hb, h.bag.on hb⟩
theorem D2.add {W x x2 : World} {p q : Dp} {d e : DS} {L : List (Nat × TypeId × List Value)} {u : TypeId} {ds es : List Value} (h : D2 W x p d q e L) (hc : Cel x2 x.heap.size u es) (hb : ButL [x.heap.size] (x.alloc (.cells ds.toArray u)) x2) : D2 W x2 p d q e ((x.heap.size, u, es) :: L) :=
  ⟨(h.a.on (below_one x (.cells ds.toArray u))).frame hb (fun k hk hm => by rw [List.mem_singleton] at hm; have := h.a.lt k hk; omega), (h.b.on (below_one x (.cells ds.toArray u))).frame hb (fun k hk hm => by rw [List.mem_singleton] at hm; have := h.b.lt k hk; omega), h.bag.add hc hb⟩
theorem said30_any (W : World) (p q : Dp) (d : DS) (o : Oq) (hp : DB W p (d.call o)) (hq : DB W q d) (h : Said d o true) :
    Calls Try.prog 30 #[ptr p.g, ptr q.g, o.val] W fun e W' => e = .returned (.bool true) ∧ Below W.heap.size W W' := by
  have D0 : Hid (D2 W (W.alloc (.cells o.cs.toArray 29)) p (d.call o) q d [(W.heap.size, 29, o.cs)]) := hid ⟨hp.on (below_one _ _), hq.on (below_one _ _), bag_one _ _ _⟩
  have HA := hid (fun w (hw : DB w p (d.call o)) x => lat_any w p _ hw x)
  have HB := hid (fun w (hw : DB w q d) x => lat_any w q _ hw x)
  have HH := hid h
  clear hp hq h
  generalize hd' : d.call o = d' at *
  have HA1 := hid (fun w hw => HA.out w hw o.a)
  have HB1 := hid (fun w hw => HB.out w hw o.a)
  have HA2 := hid (fun w hw => HA.out w hw o.b)
  have HB2 := hid (fun w hw => HB.out w hw o.b)
  have HA3 := hid (fun w hw => HA.out w hw (d.ent o.a).o)
  have HB3 := hid (fun w hw => HB.out w hw (d.ent o.a).o)
  have HS1 : Hid (o.k = 1 → (d.ent o.a).t = 0 ∧ (d.ent o.b).t = 0 ∧ d'.ent o.a = enS o.a ∧ d'.ent o.b = enF o.a) := hid (fun hk => by have := HH.out.s1 rfl hk; rw [hd'] at this; exact this.2.2)
  have HS2 : Hid (o.k = 2 → (d.ent o.a).t = 0 ∧ d'.ent o.a = enT o.t o.b ∧ (d'.ent o.b).r = (d.ent o.b).r + 1 ∧ 0 ≤ (d.ent o.b).r ∧ (d.ent o.b).r < 64) := hid (fun hk => by have := HH.out.s2 rfl hk; rwa [hd'] at this)
  have HS3 : Hid (o.k = 3 → d'.ent o.a = enT o.t (d.ent o.a).o) := hid (fun hk => by have := HH.out.s3 rfl hk; rwa [hd'] at this)
  have HS4 : Hid (o.k = 4 → d'.ent o.a = En.zero ∧ ((d.ent o.a).t = 1 ∨ ((d.ent o.a).t ≠ 1 ∧ (d'.ent (d.ent o.a).o).r = (d.ent (d.ent o.a).o).r - 1 ∧ 0 ≤ (d.ent (d.ent o.a).o).r ∧ (d.ent (d.ent o.a).o).r < 64))) := hid (fun hk => by have := HH.out.s4 rfl hk; rwa [hd'] at this)
  have HS5 : Hid (o.k = 5 → d'.ent o.a = { d.ent o.a with s := o.t }) := hid (fun hk => by have := HH.out.s5 rfl hk; rwa [hd'] at this)
  have HS6 : Hid (o.k ≠ 1 → o.k ≠ 2 → o.k ≠ 3 → o.k ≠ 4 → o.k ≠ 5 → d'.ent o.a = { d.ent o.a with e := o.on }) := hid (fun h1 h2 h3 h4 h5 => by have := HH.out.s6 rfl h1 h2 h3 h4 h5; rwa [hd'] at this)
  clear HH hd' HA HB
  obtain ⟨k, dd, a, b, t, on, off0, v⟩ := o
  simp only at HA1 HA2 HA3 HB1 HB2 HB3 HS1 HS2 HS3 HS4 HS5 HS6
  generalize hbb : d.ent b = Bo at *
  generalize hbn : d'.ent b = Bn at *
  generalize hoo : d.ent (d.ent a).o = Oo at *
  generalize hon : d'.ent (d.ent a).o = On at *
  generalize hww : d.ent a = Wn at *
  generalize hee : d'.ent a = E at *
  obtain ⟨wt, wo, wr, ws, we⟩ := Wn
  clear hbb hbn hoo hon hww hee
  simp only [ptr, En.v, Oq.val, Oq.cs] at D0 HA1 HA2 HA3 HB1 HB2 HB3 ⊢
  simp only at HS1 HS2 HS3 HS4 HS5 HS6
  go_enter Try.func30, Try.ntmps30
  go_upto_region 1 with fail
  generalize W.alloc _ = X at *
  generalize W.heap.size = g5 at D0 ⊢
  have c2 := (D0.out.bag.get 0 rfl).cell 2
  simp only [List.getElem?_cons_zero, List.getElem?_cons_succ] at c2
  go_upto_region 2 with (first | (go_at_call 29; refine (HA1.out _ D0.out.a).mono ?_; rintro e w1 ⟨rfl, hb⟩; have D1 := hid (D0.out.on hb); clear hb) | (refine wpList_store_st rfl 62 _ _ rfl w1.heap.size E.cs rfl rfl (Cel.new w1 62 En.zero.cs) sizeE rfl rfl ?_; intro w2 hc hb hs; have E2 := hid (D1.out.add hc hb); clear hc hb hs))
  clear D0 D1 HA1 c2
  generalize w1.heap.size = g7 at *
  have c2 := (E2.out.bag.get 1 rfl).cell 2
  simp only [List.getElem?_cons_zero, List.getElem?_cons_succ] at c2
  go_upto_region 3 with (first | (go_at_call 29; refine (HB1.out _ E2.out.b).mono ?_; rintro e w3 ⟨rfl, hb⟩; have E3 := hid (E2.out.on hb); clear hb) | (refine wpList_store_st rfl 62 _ _ rfl w3.heap.size (En.mk wt wo wr ws we).cs rfl rfl (Cel.new w3 62 En.zero.cs) sizeE rfl rfl ?_; intro w4 hc hb hs; have E4 := hid (E3.out.add hc hb); clear hc hb hs))
  have HN8 : Hid (w3.heap.size ≠ g7 ∧ W.heap.size ≤ w3.heap.size) := hid ⟨by have := (E3.out.bag.get 0 rfl).lt; omega, E3.out.bag.below.size⟩
  clear E2 E3 HB1 c2
  generalize w3.heap.size = g8 at *
  have y0 := (E4.out.bag.get 2 rfl).cell 0
  simp only [List.getElem?_cons_zero] at y0
  by_cases k1 : k = 1
  · subst k1
    obtain ⟨h1, h2, rfl, rfl⟩ := HS1.out rfl
    try simp only at h1
    subst h1
    obtain ⟨bt, bo, br, bs, be⟩ := Bo
    simp only at h2
    subst h2
    clear HS1 HS2 HS3 HS4 HS5 HS6 HA3 HB3
    go_upto_region 5 with fail
    have E5 := hid (E4.out.on (Below.refl _ _).drew)
    clear E4 y0
    have hfd : ∀ w : World, (Instr.field 62 (.agg (En.mk 0 bo br bs be).cs.toArray) 0).run Try.prog w = .ok (.int .i64 0) w := fun _ => by kernel_rfl
    refine wp_region_held_drew (S := fun w => Cel w g5 29 [.int .i64 1, .int .i64 dd, .int .i64 a, .int .i64 b, .int .i64 t, .bool on, .int .i64 off0, .int .u32 v] ∧ Cel w g7 62 (enS a).cs ∧ Cel w g8 62 (En.mk 0 wo wr ws we).cs) (by kernel_rfl) ⟨E5.out.bag.get 2 rfl, E5.out.bag.get 1 rfl, E5.out.bag.get 0 rfl⟩ (fun hHeld => ?_)
    refine wpAnyH_take (i := 0) (oi := { dst := some 21, op := Op.fieldAddr 62 (Operand.tmp 8) 0, type := 0, pos := "outright.go:182", after := #[], guard := none }) (v := .pointer (some ⟨g8, 0, none⟩)) rfl (by kernel_rfl) (by kernel_rfl) (by kernel_rfl) (fun _ _ _ h => h) (Or.inl ⟨by rfl, by intro w hSw; go_simp⟩) (by assumption) ?_
    simp only [Act.put, List.setIfInBounds_toArray, List.set_cons_zero, List.set_cons_succ]
    refine wpAnyH_take (i := 1) (oi := { dst := some 22, op := Op.load 44 (Operand.tmp 21), type := 44, pos := "outright.go:182", after := #[{ on := 0, ground := Ground.data }], guard := none }) (v := .int .i64 0) rfl (by kernel_rfl) (by kernel_rfl) (by kernel_rfl) (fun _ _ _ h => h) (Or.inl ⟨by rfl, by intro w hSw; have hc := hSw.2.2.cell 0; simp only [En.cs, List.getElem?_cons_zero] at hc; go_simp⟩) (by assumption) ?_
    simp only [Act.put, List.setIfInBounds_toArray, List.set_cons_zero, List.set_cons_succ]
    refine wpAnyH_take (i := 2) (oi := { dst := some 23, op := Op.binOp BinOp.eql 44 (Operand.tmp 22) (Operand.const (Value.int IntKind.i64 0)) 44, type := 4, pos := "outright.go:182", after := #[{ on := 1, ground := Ground.data }], guard := none }) (v := .bool true) rfl (by kernel_rfl) (by kernel_rfl) (by kernel_rfl) (fun _ _ _ h => h) (Or.inl ⟨by rfl, by intro w hSw; go_simp⟩) (by assumption) ?_
    simp only [Act.put, List.setIfInBounds_toArray, List.set_cons_zero, List.set_cons_succ]
    refine wpAnyH_take (i := 3) (oi := { dst := some 24, op := Op.move (Operand.tmp 23), type := 4, pos := "outright.go:182", after := #[{ on := 2, ground := Ground.data }], guard := none }) (v := .bool true) rfl (by kernel_rfl) (by kernel_rfl) (by kernel_rfl) (fun _ _ _ h => h) (Or.inl ⟨by rfl, by intro w hSw; go_simp⟩) (by assumption) ?_
    simp only [Act.put, List.setIfInBounds_toArray, List.set_cons_zero, List.set_cons_succ]
    refine wpAnyH_take (i := 4) (oi := { dst := some 25, op := Op.move (Operand.tmp 1), type := 23, pos := "outright.go:182", after := #[{ on := 3, ground := Ground.guard }], guard := some (3, true) }) (v := .pointer (some ⟨q.g, 0, none⟩)) rfl (by kernel_rfl) (by kernel_rfl) (by kernel_rfl) (fun _ _ _ h => h) (Or.inl ⟨by rfl, by intro w hSw; go_simp⟩) (by assumption) ?_
    simp only [Act.put, List.setIfInBounds_toArray, List.set_cons_zero, List.set_cons_succ]
    refine wpAnyH_take (i := 5) (oi := { dst := some 26, op := Op.fieldAddr 29 (Operand.tmp 5) 3, type := 0, pos := "outright.go:182", after := #[{ on := 3, ground := Ground.guard }], guard := some (3, true) }) (v := .pointer (some ⟨g5, 3, none⟩)) rfl (by kernel_rfl) (by kernel_rfl) (by kernel_rfl) (fun _ _ _ h => h) (Or.inl ⟨by rfl, by intro w hSw; go_simp⟩) (by assumption) ?_
    simp only [Act.put, List.setIfInBounds_toArray, List.set_cons_zero, List.set_cons_succ]
    refine wpAnyH_take (i := 6) (oi := { dst := some 27, op := Op.load 3 (Operand.tmp 26), type := 3, pos := "outright.go:182", after := #[{ on := 5, ground := Ground.data }, { on := 3, ground := Ground.guard }], guard := some (3, true) }) (v := .int .i64 b) rfl (by kernel_rfl) (by kernel_rfl) (by kernel_rfl) (fun _ _ _ h => h) (Or.inl ⟨by rfl, by intro w hSw; have hc := hSw.1.cell 3; simp only [List.getElem?_cons_zero, List.getElem?_cons_succ] at hc; go_simp⟩) (by assumption) ?_
    simp only [Act.put, List.setIfInBounds_toArray, List.set_cons_zero, List.set_cons_succ]
    refine wpAnyH_ready (rs := [7]) (by kernel_rfl) (by simp) (AllReadyH.cons (o := { dst := some 28, op := Op.call { callee := Callee.value (Operand.func 29), args := #[Operand.tmp 25, Operand.tmp 27], argTypes := #[23, 3] }, type := 62, pos := "outright.go:182", after := #[{ on := 4, ground := Ground.data }, { on := 6, ground := Ground.data }, { on := 3, ground := Ground.chain }, { on := 3, ground := Ground.guard }], guard := some (3, true) }) rfl (fun KQ hK => ?_) AllReadyH.nil)
    go_simp
    refine (HB2.out _ E5.out.b).mono ?_
    rintro e w5 ⟨rfl, hb⟩
    have E6 := hid (E5.out.on hb)
    clear hb
    go_wp2_with fail
    refine hK.out _ _ ⟨E6.out.bag.get 2 rfl, E6.out.bag.get 1 rfl, E6.out.bag.get 0 rfl⟩ (fun hHeld => ?_)
    clear hK KQ
    try simp only [Act.put, List.setIfInBounds_toArray, List.set_cons_zero, List.set_cons_succ]
    refine wpAnyH_take (i := 8) (oi := { dst := some 29, op := Op.field 62 (Operand.tmp 28) 0, type := 44, pos := "outright.go:182", after := #[{ on := 7, ground := Ground.data }, { on := 3, ground := Ground.guard }], guard := some (3, true) }) (v := .int .i64 0) rfl (by kernel_rfl) (by kernel_rfl) (by kernel_rfl) (fun _ _ _ h => h) (Or.inl ⟨by rfl, by intro w hSw; go_simp⟩) (by assumption) ?_
    simp only [Act.put, List.setIfInBounds_toArray, List.set_cons_zero, List.set_cons_succ]
    refine wpAnyH_take (i := 9) (oi := { dst := some 30, op := Op.binOp BinOp.eql 44 (Operand.tmp 29) (Operand.const (Value.int IntKind.i64 0)) 44, type := 4, pos := "outright.go:182", after := #[{ on := 8, ground := Ground.data }, { on := 3, ground := Ground.guard }], guard := some (3, true) }) (v := .bool true) rfl (by kernel_rfl) (by kernel_rfl) (by kernel_rfl) (fun _ _ _ h => h) (Or.inl ⟨by rfl, by intro w hSw; go_simp⟩) (by assumption) ?_
    simp only [Act.put, List.setIfInBounds_toArray, List.set_cons_zero, List.set_cons_succ]
    refine wpAnyH_take (i := 10) (oi := { dst := some 31, op := Op.pick (Operand.tmp 24) (Operand.tmp 30) (Operand.const (Value.bool false)), type := 4, pos := "outright.go:182", after := #[{ on := 3, ground := Ground.data }, { on := 9, ground := Ground.data }], guard := none }) (v := .bool true) rfl (by kernel_rfl) (by kernel_rfl) (by kernel_rfl) (fun _ _ _ h => h) (Or.inl ⟨by rfl, by intro w hSw; go_simp⟩) (by assumption) ?_
    simp only [Act.put, List.setIfInBounds_toArray, List.set_cons_zero, List.set_cons_succ]
    refine wpAnyH_take (i := 11) (oi := { dst := some 32, op := Op.move (Operand.tmp 31), type := 4, pos := "outright.go:182", after := #[{ on := 10, ground := Ground.data }, { on := 7, ground := Ground.chain }], guard := none }) (v := .bool true) rfl (by kernel_rfl) (by kernel_rfl) (by kernel_rfl) (fun _ _ _ h => h) (Or.inl ⟨by rfl, by intro w hSw; go_simp⟩) (by assumption) ?_
    simp only [Act.put, List.setIfInBounds_toArray, List.set_cons_zero, List.set_cons_succ]
    refine wpAnyH_take (i := 12) (oi := { dst := some 33, op := Op.load 62 (Operand.tmp 7), type := 62, pos := "outright.go:182", after := #[{ on := 11, ground := Ground.guard }], guard := some (11, true) }) (v := .agg (enS a).cs.toArray) rfl (by kernel_rfl) (by kernel_rfl) (by kernel_rfl) (fun _ _ _ h => h) (yieldsIf_load_mid (by rfl) _ _ rfl _ _ rfl _ _ (fun w hSw => hSw.2.1.range) underE rfl (by rw [sizeE]; rfl)) (by assumption) ?_
    simp only [Act.put, List.setIfInBounds_toArray, List.set_cons_zero, List.set_cons_succ]
    refine wpAnyH_take (i := 13) (oi := { dst := some 34, op := Op.fieldAddr 29 (Operand.tmp 5) 2, type := 0, pos := "outright.go:182", after := #[{ on := 11, ground := Ground.guard }], guard := some (11, true) }) (v := .pointer (some ⟨g5, 2, none⟩)) rfl (by kernel_rfl) (by kernel_rfl) (by kernel_rfl) (fun _ _ _ h => h) (Or.inl ⟨by rfl, by intro w hSw; go_simp⟩) (by assumption) ?_
    simp only [Act.put, List.setIfInBounds_toArray, List.set_cons_zero, List.set_cons_succ]
    refine wpAnyH_take (i := 14) (oi := { dst := some 35, op := Op.load 3 (Operand.tmp 34), type := 3, pos := "outright.go:182", after := #[{ on := 13, ground := Ground.data }, { on := 11, ground := Ground.guard }], guard := some (11, true) }) (v := .int .i64 a) rfl (by kernel_rfl) (by kernel_rfl) (by kernel_rfl) (fun _ _ _ h => h) (Or.inl ⟨by rfl, by intro w hSw; have hc := hSw.1.cell 2; simp only [List.getElem?_cons_zero, List.getElem?_cons_succ] at hc; go_simp⟩) (by assumption) ?_
    simp only [Act.put, List.setIfInBounds_toArray, List.set_cons_zero, List.set_cons_succ]
    refine wpAnyH_take (i := 15) (oi := { dst := some 36, op := Op.build 62 #[(0, Operand.const (Value.int IntKind.i64 1)), (1, Operand.tmp 35), (2, Operand.const (Value.int IntKind.i64 1)), (3, Operand.const (Value.int IntKind.i64 1))], type := 62, pos := "outright.go:182", after := #[{ on := 14, ground := Ground.data }, { on := 11, ground := Ground.guard }], guard := some (11, true) }) (v := .agg #[.int .i64 1, .int .i64 a, .int .i64 1, .int .i64 1, .bool false]) rfl (by kernel_rfl) (by kernel_rfl) (by kernel_rfl) (fun _ _ _ h => h) (Or.inl ⟨by rfl, by intro w hSw; go_simp⟩) (by assumption) ?_
    simp only [Act.put, List.setIfInBounds_toArray, List.set_cons_zero, List.set_cons_succ]
    refine wpAnyH_take (i := 16) (oi := { dst := some 37, op := Op.binOp BinOp.eql 62 (Operand.tmp 33) (Operand.tmp 36) 62, type := 4, pos := "outright.go:182", after := #[{ on := 12, ground := Ground.data }, { on := 15, ground := Ground.data }, { on := 11, ground := Ground.guard }], guard := some (11, true) }) (v := .bool true) rfl (by kernel_rfl) (by kernel_rfl) (by kernel_rfl) (fun _ _ _ h => h) (Or.inl ⟨by rfl, fun w hSw => exec_eqV 62 _ _ rfl _ _ rfl rfl guardE _ _ (eqE w 9996 (enS a) (enS a)) (En.same_self _)⟩) (by assumption) ?_
    simp only [Act.put, List.setIfInBounds_toArray, List.set_cons_zero, List.set_cons_succ]
    refine wpAnyH_take (i := 17) (oi := { dst := some 38, op := Op.pick (Operand.tmp 32) (Operand.tmp 37) (Operand.const (Value.bool false)), type := 4, pos := "outright.go:182", after := #[{ on := 11, ground := Ground.data }, { on := 16, ground := Ground.data }], guard := none }) (v := .bool true) rfl (by kernel_rfl) (by kernel_rfl) (by kernel_rfl) (fun _ _ _ h => h) (Or.inl ⟨by rfl, by intro w hSw; go_simp⟩) (by assumption) ?_
    simp only [Act.put, List.setIfInBounds_toArray, List.set_cons_zero, List.set_cons_succ]
    refine wpAnyH_take (i := 18) (oi := { dst := some 39, op := Op.move (Operand.tmp 38), type := 4, pos := "outright.go:182", after := #[{ on := 17, ground := Ground.data }, { on := 11, ground := Ground.chain }], guard := none }) (v := .bool true) rfl (by kernel_rfl) (by kernel_rfl) (by kernel_rfl) (fun _ _ _ h => h) (Or.inl ⟨by rfl, by intro w hSw; go_simp⟩) (by assumption) ?_
    simp only [Act.put, List.setIfInBounds_toArray, List.set_cons_zero, List.set_cons_succ]
    refine wpAnyH_take (i := 19) (oi := { dst := some 40, op := Op.move (Operand.tmp 0), type := 23, pos := "outright.go:182", after := #[{ on := 18, ground := Ground.guard }], guard := some (18, true) }) (v := .pointer (some ⟨p.g, 0, none⟩)) rfl (by kernel_rfl) (by kernel_rfl) (by kernel_rfl) (fun _ _ _ h => h) (Or.inl ⟨by rfl, by intro w hSw; go_simp⟩) (by assumption) ?_
    simp only [Act.put, List.setIfInBounds_toArray, List.set_cons_zero, List.set_cons_succ]
    refine wpAnyH_take (i := 20) (oi := { dst := some 41, op := Op.fieldAddr 29 (Operand.tmp 5) 3, type := 0, pos := "outright.go:182", after := #[{ on := 18, ground := Ground.guard }], guard := some (18, true) }) (v := .pointer (some ⟨g5, 3, none⟩)) rfl (by kernel_rfl) (by kernel_rfl) (by kernel_rfl) (fun _ _ _ h => h) (Or.inl ⟨by rfl, by intro w hSw; go_simp⟩) (by assumption) ?_
    simp only [Act.put, List.setIfInBounds_toArray, List.set_cons_zero, List.set_cons_succ]
    refine wpAnyH_take (i := 21) (oi := { dst := some 42, op := Op.load 3 (Operand.tmp 41), type := 3, pos := "outright.go:182", after := #[{ on := 20, ground := Ground.data }, { on := 18, ground := Ground.guard }], guard := some (18, true) }) (v := .int .i64 b) rfl (by kernel_rfl) (by kernel_rfl) (by kernel_rfl) (fun _ _ _ h => h) (Or.inl ⟨by rfl, by intro w hSw; have hc := hSw.1.cell 3; simp only [List.getElem?_cons_zero, List.getElem?_cons_succ] at hc; go_simp⟩) (by assumption) ?_
    simp only [Act.put, List.setIfInBounds_toArray, List.set_cons_zero, List.set_cons_succ]
    refine wpAnyH_take (i := 23) (oi := { dst := some 44, op := Op.fieldAddr 29 (Operand.tmp 5) 2, type := 0, pos := "outright.go:182", after := #[{ on := 18, ground := Ground.guard }], guard := some (18, true) }) (v := .pointer (some ⟨g5, 2, none⟩)) rfl (by kernel_rfl) (by kernel_rfl) (by kernel_rfl) (fun _ _ _ h => h) (Or.inl ⟨by rfl, by intro w hSw; go_simp⟩) (by assumption) ?_
    simp only [Act.put, List.setIfInBounds_toArray, List.set_cons_zero, List.set_cons_succ]
    refine wpAnyH_take (i := 24) (oi := { dst := some 45, op := Op.load 3 (Operand.tmp 44), type := 3, pos := "outright.go:182", after := #[{ on := 23, ground := Ground.data }, { on := 18, ground := Ground.guard }], guard := some (18, true) }) (v := .int .i64 a) rfl (by kernel_rfl) (by kernel_rfl) (by kernel_rfl) (fun _ _ _ h => h) (Or.inl ⟨by rfl, by intro w hSw; have hc := hSw.1.cell 2; simp only [List.getElem?_cons_zero, List.getElem?_cons_succ] at hc; go_simp⟩) (by assumption) ?_
    simp only [Act.put, List.setIfInBounds_toArray, List.set_cons_zero, List.set_cons_succ]
    refine wpAnyH_take (i := 25) (oi := { dst := some 46, op := Op.build 62 #[(0, Operand.const (Value.int IntKind.i64 3)), (1, Operand.tmp 45)], type := 62, pos := "outright.go:182", after := #[{ on := 24, ground := Ground.data }, { on := 18, ground := Ground.guard }], guard := some (18, true) }) (v := .agg #[.int .i64 3, .int .i64 a, .int .i64 0, .int .i64 0, .bool false]) rfl (by kernel_rfl) (by kernel_rfl) (by kernel_rfl) (fun _ _ _ h => h) (Or.inl ⟨by rfl, by intro w hSw; go_simp⟩) (by assumption) ?_
    simp only [Act.put, List.setIfInBounds_toArray, List.set_cons_zero, List.set_cons_succ]
    refine wpAnyH_ready (rs := [22]) (by kernel_rfl) (by simp) (AllReadyH.cons (o := { dst := some 43, op := Op.call { callee := Callee.value (Operand.func 29), args := #[Operand.tmp 40, Operand.tmp 42], argTypes := #[23, 3] }, type := 62, pos := "outright.go:182", after := #[{ on := 19, ground := Ground.data }, { on := 21, ground := Ground.data }, { on := 18, ground := Ground.chain }, { on := 18, ground := Ground.guard }], guard := some (18, true) }) rfl (fun KQ hK => ?_) AllReadyH.nil)
    go_simp
    refine (HA2.out _ E6.out.a).mono ?_
    rintro e w6 ⟨rfl, hb⟩
    have E7 := hid (E6.out.on hb)
    clear hb
    go_wp2_with fail
    refine hK.out _ _ ⟨E7.out.bag.get 2 rfl, E7.out.bag.get 1 rfl, E7.out.bag.get 0 rfl⟩ (fun hHeld => ?_)
    clear hK KQ
    try simp only [Act.put, List.setIfInBounds_toArray, List.set_cons_zero, List.set_cons_succ]
    refine wpAnyH_take (i := 26) (oi := { dst := some 47, op := Op.binOp BinOp.eql 62 (Operand.tmp 43) (Operand.tmp 46) 62, type := 4, pos := "outright.go:182", after := #[{ on := 22, ground := Ground.data }, { on := 25, ground := Ground.data }, { on := 18, ground := Ground.guard }], guard := some (18, true) }) (v := .bool true) rfl (by kernel_rfl) (by kernel_rfl) (by kernel_rfl) (fun _ _ _ h => h) (Or.inl ⟨by rfl, fun w hSw => exec_eqV 62 _ _ rfl _ _ rfl rfl guardE _ _ (eqE w 9996 (enF a) (enF a)) (En.same_self _)⟩) (by assumption) ?_
    simp only [Act.put, List.setIfInBounds_toArray, List.set_cons_zero, List.set_cons_succ]
    refine wpAnyH_take (i := 27) (oi := { dst := some 48, op := Op.pick (Operand.tmp 39) (Operand.tmp 47) (Operand.const (Value.bool false)), type := 4, pos := "outright.go:182", after := #[{ on := 18, ground := Ground.data }, { on := 26, ground := Ground.data }], guard := none }) (v := .bool true) rfl (by kernel_rfl) (by kernel_rfl) (by kernel_rfl) (fun _ _ _ h => h) (Or.inl ⟨by rfl, by intro w hSw; go_simp⟩) (by assumption) ?_
    simp only [Act.put, List.setIfInBounds_toArray, List.set_cons_zero, List.set_cons_succ]
    refine wpAnyH_ready (rs := [28]) (by kernel_rfl) (by simp) (AllReadyH.cons (o := { dst := some 6, op := Op.assign (Operand.tmp 48), type := 4, pos := "outright.go:182", after := #[{ on := 27, ground := Ground.data }, { on := 22, ground := Ground.chain }, { on := 0, ground := Ground.phase }, { on := 1, ground := Ground.phase }, { on := 2, ground := Ground.phase }, { on := 3, ground := Ground.phase }, { on := 4, ground := Ground.phase }, { on := 5, ground := Ground.phase }, { on := 6, ground := Ground.phase }, { on := 7, ground := Ground.phase }, { on := 8, ground := Ground.phase }, { on := 9, ground := Ground.phase }, { on := 10, ground := Ground.phase }, { on := 11, ground := Ground.phase }, { on := 12, ground := Ground.phase }, { on := 13, ground := Ground.phase }, { on := 14, ground := Ground.phase }, { on := 15, ground := Ground.phase }, { on := 16, ground := Ground.phase }, { on := 17, ground := Ground.phase }, { on := 18, ground := Ground.phase }, { on := 19, ground := Ground.phase }, { on := 20, ground := Ground.phase }, { on := 21, ground := Ground.phase }, { on := 22, ground := Ground.phase }, { on := 23, ground := Ground.phase }, { on := 24, ground := Ground.phase }, { on := 25, ground := Ground.phase }, { on := 26, ground := Ground.phase }, { on := 27, ground := Ground.phase }], guard := none }) rfl (fun KQ hK => ?_) AllReadyH.nil)
    go_simp
    refine hK.out _ _ ⟨E7.out.bag.get 2 rfl, E7.out.bag.get 1 rfl, E7.out.bag.get 0 rfl⟩ (fun hHeld => ?_)
    clear hK KQ
    try simp only [Act.put, List.setIfInBounds_toArray, List.set_cons_zero, List.set_cons_succ]
    refine wpAnyH_done (by kernel_rfl) ?_ _
    go_wp2_with fail
    go_ret
    exact ⟨rfl, E7.out.bag.below⟩
  by_cases k2 : k = 2
  · subst k2
    obtain ⟨h1, rfl, h3, h4, h5⟩ := HS2.out rfl
    try simp only at h1
    subst h1
    obtain ⟨bt, bo, br, bs, be⟩ := Bo
    obtain ⟨nt, no, nr, ns, ne⟩ := Bn
    simp only at h3 h4 h5
    subst h3
    have hwr : IntKind.wrap .i64 (br + 1) = br + 1 := wr64 _ (by omega) (by omega)
    clear HS1 HS2 HS3 HS4 HS5 HS6 HA3 HB3 k1
    go_upto_region 7 with fail
    have E5 := hid (E4.out.on (Below.refl _ _).drew)
    clear E4 y0
    have hfd : ∀ w : World, (Instr.field 62 (.agg (En.mk bt bo br bs be).cs.toArray) 2).run Try.prog w = .ok (.int .i64 br) w := fun _ => by kernel_rfl
    have hfn : ∀ w : World, (Instr.field 62 (.agg (En.mk nt no (br + 1) ns ne).cs.toArray) 2).run Try.prog w = .ok (.int .i64 (br + 1)) w := fun _ => by kernel_rfl
    refine wp_region_held_drew (S := fun w => Cel w g5 29 [.int .i64 2, .int .i64 dd, .int .i64 a, .int .i64 b, .int .i64 t, .bool on, .int .i64 off0, .int .u32 v] ∧ Cel w g7 62 (enT t b).cs ∧ Cel w g8 62 (En.mk 0 wo wr ws we).cs) (by kernel_rfl) ⟨E5.out.bag.get 2 rfl, E5.out.bag.get 1 rfl, E5.out.bag.get 0 rfl⟩ (fun hHeld => ?_)
    refine wpAnyH_take (i := 0) (oi := { dst := some 51, op := Op.fieldAddr 62 (Operand.tmp 8) 0, type := 0, pos := "outright.go:184", after := #[], guard := none }) (v := .pointer (some ⟨g8, 0, none⟩)) rfl (by kernel_rfl) (by kernel_rfl) (by kernel_rfl) (fun _ _ _ h => h) (Or.inl ⟨by rfl, by intro w hSw; go_simp⟩) (by assumption) ?_
    simp only [Act.put, List.setIfInBounds_toArray, List.set_cons_zero, List.set_cons_succ]
    refine wpAnyH_take (i := 1) (oi := { dst := some 52, op := Op.load 44 (Operand.tmp 51), type := 44, pos := "outright.go:184", after := #[{ on := 0, ground := Ground.data }], guard := none }) (v := .int .i64 0) rfl (by kernel_rfl) (by kernel_rfl) (by kernel_rfl) (fun _ _ _ h => h) (Or.inl ⟨by rfl, by intro w hSw; have hc := hSw.2.2.cell 0; simp only [En.cs, List.getElem?_cons_zero] at hc; go_simp⟩) (by assumption) ?_
    simp only [Act.put, List.setIfInBounds_toArray, List.set_cons_zero, List.set_cons_succ]
    refine wpAnyH_take (i := 2) (oi := { dst := some 53, op := Op.binOp BinOp.eql 44 (Operand.tmp 52) (Operand.const (Value.int IntKind.i64 0)) 44, type := 4, pos := "outright.go:184", after := #[{ on := 1, ground := Ground.data }], guard := none }) (v := .bool true) rfl (by kernel_rfl) (by kernel_rfl) (by kernel_rfl) (fun _ _ _ h => h) (Or.inl ⟨by rfl, by intro w hSw; go_simp⟩) (by assumption) ?_
    simp only [Act.put, List.setIfInBounds_toArray, List.set_cons_zero, List.set_cons_succ]
    refine wpAnyH_take (i := 3) (oi := { dst := some 54, op := Op.move (Operand.tmp 53), type := 4, pos := "outright.go:184", after := #[{ on := 2, ground := Ground.data }], guard := none }) (v := .bool true) rfl (by kernel_rfl) (by kernel_rfl) (by kernel_rfl) (fun _ _ _ h => h) (Or.inl ⟨by rfl, by intro w hSw; go_simp⟩) (by assumption) ?_
    simp only [Act.put, List.setIfInBounds_toArray, List.set_cons_zero, List.set_cons_succ]
    refine wpAnyH_take (i := 4) (oi := { dst := some 55, op := Op.load 62 (Operand.tmp 7), type := 62, pos := "outright.go:184", after := #[{ on := 3, ground := Ground.guard }], guard := some (3, true) }) (v := .agg (enT t b).cs.toArray) rfl (by kernel_rfl) (by kernel_rfl) (by kernel_rfl) (fun _ _ _ h => h) (yieldsIf_load_mid (by rfl) _ _ rfl _ _ rfl _ _ (fun w hSw => hSw.2.1.range) underE rfl (by rw [sizeE]; rfl)) (by assumption) ?_
    simp only [Act.put, List.setIfInBounds_toArray, List.set_cons_zero, List.set_cons_succ]
    refine wpAnyH_take (i := 5) (oi := { dst := some 56, op := Op.fieldAddr 29 (Operand.tmp 5) 4, type := 0, pos := "outright.go:184", after := #[{ on := 3, ground := Ground.guard }], guard := some (3, true) }) (v := .pointer (some ⟨g5, 4, none⟩)) rfl (by kernel_rfl) (by kernel_rfl) (by kernel_rfl) (fun _ _ _ h => h) (Or.inl ⟨by rfl, by intro w hSw; go_simp⟩) (by assumption) ?_
    simp only [Act.put, List.setIfInBounds_toArray, List.set_cons_zero, List.set_cons_succ]
    refine wpAnyH_take (i := 6) (oi := { dst := some 57, op := Op.load 3 (Operand.tmp 56), type := 3, pos := "outright.go:184", after := #[{ on := 5, ground := Ground.data }, { on := 3, ground := Ground.guard }], guard := some (3, true) }) (v := .int .i64 t) rfl (by kernel_rfl) (by kernel_rfl) (by kernel_rfl) (fun _ _ _ h => h) (Or.inl ⟨by rfl, by intro w hSw; have hc := hSw.1.cell 4; simp only [List.getElem?_cons_zero, List.getElem?_cons_succ] at hc; go_simp⟩) (by assumption) ?_
    simp only [Act.put, List.setIfInBounds_toArray, List.set_cons_zero, List.set_cons_succ]
    refine wpAnyH_take (i := 7) (oi := { dst := some 58, op := Op.fieldAddr 29 (Operand.tmp 5) 3, type := 0, pos := "outright.go:184", after := #[{ on := 3, ground := Ground.guard }], guard := some (3, true) }) (v := .pointer (some ⟨g5, 3, none⟩)) rfl (by kernel_rfl) (by kernel_rfl) (by kernel_rfl) (fun _ _ _ h => h) (Or.inl ⟨by rfl, by intro w hSw; go_simp⟩) (by assumption) ?_
    simp only [Act.put, List.setIfInBounds_toArray, List.set_cons_zero, List.set_cons_succ]
    refine wpAnyH_take (i := 8) (oi := { dst := some 59, op := Op.load 3 (Operand.tmp 58), type := 3, pos := "outright.go:184", after := #[{ on := 7, ground := Ground.data }, { on := 3, ground := Ground.guard }], guard := some (3, true) }) (v := .int .i64 b) rfl (by kernel_rfl) (by kernel_rfl) (by kernel_rfl) (fun _ _ _ h => h) (Or.inl ⟨by rfl, by intro w hSw; have hc := hSw.1.cell 3; simp only [List.getElem?_cons_zero, List.getElem?_cons_succ] at hc; go_simp⟩) (by assumption) ?_
    simp only [Act.put, List.setIfInBounds_toArray, List.set_cons_zero, List.set_cons_succ]
    refine wpAnyH_take (i := 9) (oi := { dst := some 60, op := Op.build 62 #[(0, Operand.tmp 57), (1, Operand.tmp 59)], type := 62, pos := "outright.go:184", after := #[{ on := 6, ground := Ground.data }, { on := 8, ground := Ground.data }, { on := 3, ground := Ground.guard }], guard := some (3, true) }) (v := .agg #[.int .i64 t, .int .i64 b, .int .i64 0, .int .i64 0, .bool false]) rfl (by kernel_rfl) (by kernel_rfl) (by kernel_rfl) (fun _ _ _ h => h) (Or.inl ⟨by rfl, by intro w hSw; go_simp⟩) (by assumption) ?_
    simp only [Act.put, List.setIfInBounds_toArray, List.set_cons_zero, List.set_cons_succ]
    refine wpAnyH_take (i := 10) (oi := { dst := some 61, op := Op.binOp BinOp.eql 62 (Operand.tmp 55) (Operand.tmp 60) 62, type := 4, pos := "outright.go:184", after := #[{ on := 4, ground := Ground.data }, { on := 9, ground := Ground.data }, { on := 3, ground := Ground.guard }], guard := some (3, true) }) (v := .bool true) rfl (by kernel_rfl) (by kernel_rfl) (by kernel_rfl) (fun _ _ _ h => h) (Or.inl ⟨by rfl, fun w hSw => exec_eqV 62 _ _ rfl _ _ rfl rfl guardE _ _ (eqE w 9996 (enT t b) (enT t b)) (En.same_self _)⟩) (by assumption) ?_
    simp only [Act.put, List.setIfInBounds_toArray, List.set_cons_zero, List.set_cons_succ]
    refine wpAnyH_take (i := 11) (oi := { dst := some 62, op := Op.pick (Operand.tmp 54) (Operand.tmp 61) (Operand.const (Value.bool false)), type := 4, pos := "outright.go:184", after := #[{ on := 3, ground := Ground.data }, { on := 10, ground := Ground.data }], guard := none }) (v := .bool true) rfl (by kernel_rfl) (by kernel_rfl) (by kernel_rfl) (fun _ _ _ h => h) (Or.inl ⟨by rfl, by intro w hSw; go_simp⟩) (by assumption) ?_
    simp only [Act.put, List.setIfInBounds_toArray, List.set_cons_zero, List.set_cons_succ]
    refine wpAnyH_take (i := 12) (oi := { dst := some 63, op := Op.move (Operand.tmp 62), type := 4, pos := "outright.go:184", after := #[{ on := 11, ground := Ground.data }, { on := 3, ground := Ground.chain }], guard := none }) (v := .bool true) rfl (by kernel_rfl) (by kernel_rfl) (by kernel_rfl) (fun _ _ _ h => h) (Or.inl ⟨by rfl, by intro w hSw; go_simp⟩) (by assumption) ?_
    simp only [Act.put, List.setIfInBounds_toArray, List.set_cons_zero, List.set_cons_succ]
    refine wpAnyH_take (i := 13) (oi := { dst := some 64, op := Op.move (Operand.tmp 0), type := 23, pos := "outright.go:184", after := #[{ on := 12, ground := Ground.guard }], guard := some (12, true) }) (v := .pointer (some ⟨p.g, 0, none⟩)) rfl (by kernel_rfl) (by kernel_rfl) (by kernel_rfl) (fun _ _ _ h => h) (Or.inl ⟨by rfl, by intro w hSw; go_simp⟩) (by assumption) ?_
    simp only [Act.put, List.setIfInBounds_toArray, List.set_cons_zero, List.set_cons_succ]
    refine wpAnyH_take (i := 14) (oi := { dst := some 65, op := Op.fieldAddr 29 (Operand.tmp 5) 3, type := 0, pos := "outright.go:184", after := #[{ on := 12, ground := Ground.guard }], guard := some (12, true) }) (v := .pointer (some ⟨g5, 3, none⟩)) rfl (by kernel_rfl) (by kernel_rfl) (by kernel_rfl) (fun _ _ _ h => h) (Or.inl ⟨by rfl, by intro w hSw; go_simp⟩) (by assumption) ?_
    simp only [Act.put, List.setIfInBounds_toArray, List.set_cons_zero, List.set_cons_succ]
    refine wpAnyH_take (i := 15) (oi := { dst := some 66, op := Op.load 3 (Operand.tmp 65), type := 3, pos := "outright.go:184", after := #[{ on := 14, ground := Ground.data }, { on := 12, ground := Ground.guard }], guard := some (12, true) }) (v := .int .i64 b) rfl (by kernel_rfl) (by kernel_rfl) (by kernel_rfl) (fun _ _ _ h => h) (Or.inl ⟨by rfl, by intro w hSw; have hc := hSw.1.cell 3; simp only [List.getElem?_cons_zero, List.getElem?_cons_succ] at hc; go_simp⟩) (by assumption) ?_
    simp only [Act.put, List.setIfInBounds_toArray, List.set_cons_zero, List.set_cons_succ]
    refine wpAnyH_take (i := 18) (oi := { dst := some 69, op := Op.move (Operand.tmp 1), type := 23, pos := "outright.go:184", after := #[{ on := 12, ground := Ground.guard }], guard := some (12, true) }) (v := .pointer (some ⟨q.g, 0, none⟩)) rfl (by kernel_rfl) (by kernel_rfl) (by kernel_rfl) (fun _ _ _ h => h) (Or.inl ⟨by rfl, by intro w hSw; go_simp⟩) (by assumption) ?_
    simp only [Act.put, List.setIfInBounds_toArray, List.set_cons_zero, List.set_cons_succ]
    refine wpAnyH_take (i := 19) (oi := { dst := some 70, op := Op.fieldAddr 29 (Operand.tmp 5) 3, type := 0, pos := "outright.go:184", after := #[{ on := 12, ground := Ground.guard }], guard := some (12, true) }) (v := .pointer (some ⟨g5, 3, none⟩)) rfl (by kernel_rfl) (by kernel_rfl) (by kernel_rfl) (fun _ _ _ h => h) (Or.inl ⟨by rfl, by intro w hSw; go_simp⟩) (by assumption) ?_
    simp only [Act.put, List.setIfInBounds_toArray, List.set_cons_zero, List.set_cons_succ]
    refine wpAnyH_take (i := 20) (oi := { dst := some 71, op := Op.load 3 (Operand.tmp 70), type := 3, pos := "outright.go:184", after := #[{ on := 19, ground := Ground.data }, { on := 12, ground := Ground.guard }], guard := some (12, true) }) (v := .int .i64 b) rfl (by kernel_rfl) (by kernel_rfl) (by kernel_rfl) (fun _ _ _ h => h) (Or.inl ⟨by rfl, by intro w hSw; have hc := hSw.1.cell 3; simp only [List.getElem?_cons_zero, List.getElem?_cons_succ] at hc; go_simp⟩) (by assumption) ?_
    simp only [Act.put, List.setIfInBounds_toArray, List.set_cons_zero, List.set_cons_succ]
    refine wpAnyH_ready (rs := [16]) (by kernel_rfl) (by simp) (AllReadyH.cons (o := { dst := some 67, op := Op.call { callee := Callee.value (Operand.func 29), args := #[Operand.tmp 64, Operand.tmp 66], argTypes := #[23, 3] }, type := 62, pos := "outright.go:184", after := #[{ on := 13, ground := Ground.data }, { on := 15, ground := Ground.data }, { on := 12, ground := Ground.chain }, { on := 12, ground := Ground.guard }], guard := some (12, true) }) rfl (fun KQ hK => ?_) AllReadyH.nil)
    go_simp
    refine (HA2.out _ E5.out.a).mono ?_
    rintro e w5 ⟨rfl, hb⟩
    have E6 := hid (E5.out.on hb)
    clear hb
    go_wp2_with fail
    refine hK.out _ _ ⟨E6.out.bag.get 2 rfl, E6.out.bag.get 1 rfl, E6.out.bag.get 0 rfl⟩ (fun hHeld => ?_)
    clear hK KQ
    try simp only [Act.put, List.setIfInBounds_toArray, List.set_cons_zero, List.set_cons_succ]
    refine wpAnyH_take (i := 17) (oi := { dst := some 68, op := Op.field 62 (Operand.tmp 67) 2, type := 3, pos := "outright.go:184", after := #[{ on := 16, ground := Ground.data }, { on := 12, ground := Ground.guard }], guard := some (12, true) }) (v := .int .i64 (br + 1)) rfl (by kernel_rfl) (by kernel_rfl) (by kernel_rfl) (fun _ _ _ h => h) (Or.inl ⟨by rfl, by intro w hSw; go_simp⟩) (by assumption) ?_
    simp only [Act.put, List.setIfInBounds_toArray, List.set_cons_zero, List.set_cons_succ]
    refine wpAnyH_ready (rs := [21]) (by kernel_rfl) (by simp) (AllReadyH.cons (o := { dst := some 72, op := Op.call { callee := Callee.value (Operand.func 29), args := #[Operand.tmp 69, Operand.tmp 71], argTypes := #[23, 3] }, type := 62, pos := "outright.go:184", after := #[{ on := 18, ground := Ground.data }, { on := 20, ground := Ground.data }, { on := 16, ground := Ground.chain }, { on := 12, ground := Ground.guard }], guard := some (12, true) }) rfl (fun KQ hK => ?_) AllReadyH.nil)
    go_simp
    refine (HB2.out _ E6.out.b).mono ?_
    rintro e w6 ⟨rfl, hb⟩
    have E7 := hid (E6.out.on hb)
    clear hb
    go_wp2_with fail
    refine hK.out _ _ ⟨E7.out.bag.get 2 rfl, E7.out.bag.get 1 rfl, E7.out.bag.get 0 rfl⟩ (fun hHeld => ?_)
    clear hK KQ
    try simp only [Act.put, List.setIfInBounds_toArray, List.set_cons_zero, List.set_cons_succ]
    refine wpAnyH_take (i := 22) (oi := { dst := some 73, op := Op.field 62 (Operand.tmp 72) 2, type := 3, pos := "outright.go:184", after := #[{ on := 21, ground := Ground.data }, { on := 12, ground := Ground.guard }], guard := some (12, true) }) (v := .int .i64 br) rfl (by kernel_rfl) (by kernel_rfl) (by kernel_rfl) (fun _ _ _ h => h) (Or.inl ⟨by rfl, by intro w hSw; go_simp⟩) (by assumption) ?_
    simp only [Act.put, List.setIfInBounds_toArray, List.set_cons_zero, List.set_cons_succ]
    refine wpAnyH_take (i := 23) (oi := { dst := some 74, op := Op.binOp BinOp.add 3 (Operand.tmp 73) (Operand.const (Value.int IntKind.i64 1)) 3, type := 3, pos := "outright.go:184", after := #[{ on := 22, ground := Ground.data }, { on := 12, ground := Ground.guard }], guard := some (12, true) }) (v := .int .i64 (br + 1)) rfl (by kernel_rfl) (by kernel_rfl) (by kernel_rfl) (fun _ _ _ h => h) (Or.inl ⟨by rfl, by intro w hSw; go_simp⟩) (by assumption) ?_
    simp only [Act.put, List.setIfInBounds_toArray, List.set_cons_zero, List.set_cons_succ]
    refine wpAnyH_take (i := 24) (oi := { dst := some 75, op := Op.binOp BinOp.eql 3 (Operand.tmp 68) (Operand.tmp 74) 3, type := 4, pos := "outright.go:184", after := #[{ on := 17, ground := Ground.data }, { on := 23, ground := Ground.data }, { on := 12, ground := Ground.guard }], guard := some (12, true) }) (v := .bool true) rfl (by kernel_rfl) (by kernel_rfl) (by kernel_rfl) (fun _ _ _ h => h) (Or.inl ⟨by rfl, by intro w hSw; go_simp⟩) (by assumption) ?_
    simp only [Act.put, List.setIfInBounds_toArray, List.set_cons_zero, List.set_cons_succ]
    refine wpAnyH_take (i := 25) (oi := { dst := some 76, op := Op.pick (Operand.tmp 63) (Operand.tmp 75) (Operand.const (Value.bool false)), type := 4, pos := "outright.go:184", after := #[{ on := 12, ground := Ground.data }, { on := 24, ground := Ground.data }], guard := none }) (v := .bool true) rfl (by kernel_rfl) (by kernel_rfl) (by kernel_rfl) (fun _ _ _ h => h) (Or.inl ⟨by rfl, by intro w hSw; go_simp⟩) (by assumption) ?_
    simp only [Act.put, List.setIfInBounds_toArray, List.set_cons_zero, List.set_cons_succ]
    refine wpAnyH_ready (rs := [26]) (by kernel_rfl) (by simp) (AllReadyH.cons (o := { dst := some 6, op := Op.assign (Operand.tmp 76), type := 4, pos := "outright.go:184", after := #[{ on := 25, ground := Ground.data }, { on := 21, ground := Ground.chain }, { on := 0, ground := Ground.phase }, { on := 1, ground := Ground.phase }, { on := 2, ground := Ground.phase }, { on := 3, ground := Ground.phase }, { on := 4, ground := Ground.phase }, { on := 5, ground := Ground.phase }, { on := 6, ground := Ground.phase }, { on := 7, ground := Ground.phase }, { on := 8, ground := Ground.phase }, { on := 9, ground := Ground.phase }, { on := 10, ground := Ground.phase }, { on := 11, ground := Ground.phase }, { on := 12, ground := Ground.phase }, { on := 13, ground := Ground.phase }, { on := 14, ground := Ground.phase }, { on := 15, ground := Ground.phase }, { on := 16, ground := Ground.phase }, { on := 17, ground := Ground.phase }, { on := 18, ground := Ground.phase }, { on := 19, ground := Ground.phase }, { on := 20, ground := Ground.phase }, { on := 21, ground := Ground.phase }, { on := 22, ground := Ground.phase }, { on := 23, ground := Ground.phase }, { on := 24, ground := Ground.phase }, { on := 25, ground := Ground.phase }], guard := none }) rfl (fun KQ hK => ?_) AllReadyH.nil)
    go_simp
    refine hK.out _ _ ⟨E7.out.bag.get 2 rfl, E7.out.bag.get 1 rfl, E7.out.bag.get 0 rfl⟩ (fun hHeld => ?_)
    clear hK KQ
    try simp only [Act.put, List.setIfInBounds_toArray, List.set_cons_zero, List.set_cons_succ]
    refine wpAnyH_done (by kernel_rfl) ?_ _
    go_wp2_with fail
    go_ret
    exact ⟨rfl, E7.out.bag.below⟩
  by_cases k3 : k = 3
  · subst k3
    obtain rfl := HS3.out rfl
    clear HS1 HS2 HS3 HS4 HS5 HS6 HA3 HB3 k1 k2
    have c4 := (E4.out.bag.get 2 rfl).cell 4
    have c1 := (E4.out.bag.get 0 rfl).cell 1
    simp only [En.cs, List.getElem?_cons_zero, List.getElem?_cons_succ] at c1 c4
    have HSx : Hid (∀ w : World, (Op.equalIn 10000 62 (.agg (enT t wo).cs.toArray) (.agg (enT t wo).cs.toArray)).run Try.prog w = .ok true w) := hid (fun w => (eqE w 9996 _ _).trans (by rw [En.same_self]))
    go_wp2_with (first | (refine wpList_load_mid rfl 62 _ rfl g7 0 rfl _ _ ((E4.out.bag.get 1 rfl).range) underE rfl (by rw [sizeE]; rfl) ?_) | (refine wpList_build_f rfl 62 _ rfl #[(0, .int .i64 t), (1, .int .i64 wo)] (by rfl) _ (built_T t wo) ?_) | (refine wpList_eq rfl 62 _ _ rfl _ _ rfl rfl guardE true (HSx.out _) ?_))
    go_ret
    exact ⟨rfl, E4.out.bag.below⟩
  by_cases k4 : k = 4
  · subst k4
    obtain ⟨rfl, h2⟩ := HS4.out rfl
    try simp only at h2
    clear HS1 HS2 HS3 HS4 HS5 HS6 k1 k2 k3
    go_upto_region 11 with fail
    have E5 := hid (E4.out.on (Below.refl _ _).drew)
    clear E4 y0
    rcases h2 with h2 | ⟨h2, h3, h4, h5⟩
    · subst h2
      refine wp_region_held_drew (S := fun w => Cel w g5 29 [.int .i64 4, .int .i64 dd, .int .i64 a, .int .i64 b, .int .i64 t, .bool on, .int .i64 off0, .int .u32 v] ∧ Cel w g7 62 En.zero.cs ∧ Cel w g8 62 (En.mk 1 wo wr ws we).cs) (by kernel_rfl) ⟨E5.out.bag.get 2 rfl, E5.out.bag.get 1 rfl, E5.out.bag.get 0 rfl⟩ (fun hHeld => ?_)
      refine wpAnyH_take (i := 0) (oi := { dst := some 88, op := Op.load 62 (Operand.tmp 7), type := 62, pos := "outright.go:188", after := #[], guard := none }) (v := .agg En.zero.cs.toArray) rfl (by kernel_rfl) (by kernel_rfl) (by kernel_rfl) (fun _ _ _ h => h) (yieldsIf_load_mid (by rfl) _ _ rfl _ _ rfl _ _ (fun w hSw => hSw.2.1.range) underE rfl (by rw [sizeE]; rfl)) (by assumption) ?_
      simp only [Act.put, List.setIfInBounds_toArray, List.set_cons_zero, List.set_cons_succ]
      refine wpAnyH_take (i := 1) (oi := { dst := some 89, op := Op.build 62 #[], type := 62, pos := "outright.go:188", after := #[], guard := none }) (v := .agg #[.int .i64 0, .int .i64 0, .int .i64 0, .int .i64 0, .bool false]) rfl (by kernel_rfl) (by kernel_rfl) (by kernel_rfl) (fun _ _ _ h => h) (Or.inl ⟨by rfl, by intro w hSw; go_simp⟩) (by assumption) ?_
      simp only [Act.put, List.setIfInBounds_toArray, List.set_cons_zero, List.set_cons_succ]
      refine wpAnyH_take (i := 2) (oi := { dst := some 90, op := Op.binOp BinOp.eql 62 (Operand.tmp 88) (Operand.tmp 89) 62, type := 4, pos := "outright.go:188", after := #[{ on := 0, ground := Ground.data }, { on := 1, ground := Ground.data }], guard := none }) (v := .bool true) rfl (by kernel_rfl) (by kernel_rfl) (by kernel_rfl) (fun _ _ _ h => h) (Or.inl ⟨by rfl, fun w hSw => exec_eqV 62 _ _ rfl _ _ rfl rfl guardE _ _ (eqE w 9996 En.zero En.zero) (En.same_self _)⟩) (by assumption) ?_
      simp only [Act.put, List.setIfInBounds_toArray, List.set_cons_zero, List.set_cons_succ]
      refine wpAnyH_take (i := 3) (oi := { dst := some 91, op := Op.move (Operand.tmp 90), type := 4, pos := "outright.go:188", after := #[{ on := 2, ground := Ground.data }], guard := none }) (v := .bool true) rfl (by kernel_rfl) (by kernel_rfl) (by kernel_rfl) (fun _ _ _ h => h) (Or.inl ⟨by rfl, by intro w hSw; go_simp⟩) (by assumption) ?_
      simp only [Act.put, List.setIfInBounds_toArray, List.set_cons_zero, List.set_cons_succ]
      refine wpAnyH_take (i := 4) (oi := { dst := some 92, op := Op.fieldAddr 62 (Operand.tmp 8) 0, type := 0, pos := "outright.go:188", after := #[{ on := 3, ground := Ground.guard }], guard := some (3, true) }) (v := .pointer (some ⟨g8, 0, none⟩)) rfl (by kernel_rfl) (by kernel_rfl) (by kernel_rfl) (fun _ _ _ h => h) (Or.inl ⟨by rfl, by intro w hSw; go_simp⟩) (by assumption) ?_
      simp only [Act.put, List.setIfInBounds_toArray, List.set_cons_zero, List.set_cons_succ]
      refine wpAnyH_take (i := 5) (oi := { dst := some 93, op := Op.load 44 (Operand.tmp 92), type := 44, pos := "outright.go:188", after := #[{ on := 4, ground := Ground.data }, { on := 3, ground := Ground.guard }], guard := some (3, true) }) (v := .int .i64 1) rfl (by kernel_rfl) (by kernel_rfl) (by kernel_rfl) (fun _ _ _ h => h) (Or.inl ⟨by rfl, by intro w hSw; have hc := hSw.2.2.cell 0; simp only [En.cs, List.getElem?_cons_zero] at hc; go_simp⟩) (by assumption) ?_
      simp only [Act.put, List.setIfInBounds_toArray, List.set_cons_zero, List.set_cons_succ]
      refine wpAnyH_take (i := 6) (oi := { dst := some 94, op := Op.binOp BinOp.eql 44 (Operand.tmp 93) (Operand.const (Value.int IntKind.i64 1)) 44, type := 4, pos := "outright.go:188", after := #[{ on := 5, ground := Ground.data }, { on := 3, ground := Ground.guard }], guard := some (3, true) }) (v := .bool true) rfl (by kernel_rfl) (by kernel_rfl) (by kernel_rfl) (fun _ _ _ h => h) (Or.inl ⟨by rfl, by intro w hSw; go_simp⟩) (by assumption) ?_
      simp only [Act.put, List.setIfInBounds_toArray, List.set_cons_zero, List.set_cons_succ]
      refine wpAnyH_take (i := 7) (oi := { dst := some 95, op := Op.move (Operand.tmp 94), type := 4, pos := "outright.go:188", after := #[{ on := 6, ground := Ground.data }, { on := 3, ground := Ground.chain }, { on := 3, ground := Ground.guard }], guard := some (3, true) }) (v := .bool true) rfl (by kernel_rfl) (by kernel_rfl) (by kernel_rfl) (fun _ _ _ h => h) (Or.inl ⟨by rfl, by intro w hSw; go_simp⟩) (by assumption) ?_
      simp only [Act.put, List.setIfInBounds_toArray, List.set_cons_zero, List.set_cons_succ]
      refine wpAnyH_take (i := 8) (oi := { dst := some 96, op := Op.move (Operand.tmp 0), type := 23, pos := "outright.go:188", after := #[{ on := 7, ground := Ground.guard }], guard := some (7, false) }) (v := undef) rfl (by kernel_rfl) (by kernel_rfl) (by kernel_rfl) (fun _ _ _ h => h) (Or.inr ⟨by rfl, rfl⟩) (by assumption) ?_
      simp only [Act.put, List.setIfInBounds_toArray, List.set_cons_zero, List.set_cons_succ]
      refine wpAnyH_take (i := 9) (oi := { dst := some 97, op := Op.fieldAddr 62 (Operand.tmp 8) 1, type := 0, pos := "outright.go:188", after := #[{ on := 7, ground := Ground.guard }], guard := some (7, false) }) (v := undef) rfl (by kernel_rfl) (by kernel_rfl) (by kernel_rfl) (fun _ _ _ h => h) (Or.inr ⟨by rfl, rfl⟩) (by assumption) ?_
      simp only [Act.put, List.setIfInBounds_toArray, List.set_cons_zero, List.set_cons_succ]
      refine wpAnyH_take (i := 10) (oi := { dst := some 98, op := Op.load 3 (Operand.tmp 97), type := 3, pos := "outright.go:188", after := #[{ on := 9, ground := Ground.data }, { on := 7, ground := Ground.guard }], guard := some (7, false) }) (v := undef) rfl (by kernel_rfl) (by kernel_rfl) (by kernel_rfl) (fun _ _ _ h => h) (Or.inr ⟨by rfl, rfl⟩) (by assumption) ?_
      simp only [Act.put, List.setIfInBounds_toArray, List.set_cons_zero, List.set_cons_succ]
      refine wpAnyH_take (i := 11) (oi := { dst := some 99, op := Op.call { callee := Callee.value (Operand.func 29), args := #[Operand.tmp 96, Operand.tmp 98], argTypes := #[23, 3] }, type := 62, pos := "outright.go:188", after := #[{ on := 8, ground := Ground.data }, { on := 10, ground := Ground.data }, { on := 7, ground := Ground.chain }, { on := 7, ground := Ground.guard }], guard := some (7, false) }) (v := undef) rfl (by kernel_rfl) (by kernel_rfl) (by kernel_rfl) (fun _ _ _ h => h) (Or.inr ⟨by rfl, rfl⟩) (by assumption) ?_
      simp only [Act.put, List.setIfInBounds_toArray, List.set_cons_zero, List.set_cons_succ]
      refine wpAnyH_take (i := 12) (oi := { dst := some 100, op := Op.field 62 (Operand.tmp 99) 2, type := 3, pos := "outright.go:188", after := #[{ on := 11, ground := Ground.data }, { on := 7, ground := Ground.guard }], guard := some (7, false) }) (v := undef) rfl (by kernel_rfl) (by kernel_rfl) (by kernel_rfl) (fun _ _ _ h => h) (Or.inr ⟨by rfl, rfl⟩) (by assumption) ?_
      simp only [Act.put, List.setIfInBounds_toArray, List.set_cons_zero, List.set_cons_succ]
      refine wpAnyH_take (i := 13) (oi := { dst := some 101, op := Op.move (Operand.tmp 1), type := 23, pos := "outright.go:188", after := #[{ on := 7, ground := Ground.guard }], guard := some (7, false) }) (v := undef) rfl (by kernel_rfl) (by kernel_rfl) (by kernel_rfl) (fun _ _ _ h => h) (Or.inr ⟨by rfl, rfl⟩) (by assumption) ?_
      simp only [Act.put, List.setIfInBounds_toArray, List.set_cons_zero, List.set_cons_succ]
      refine wpAnyH_take (i := 14) (oi := { dst := some 102, op := Op.fieldAddr 62 (Operand.tmp 8) 1, type := 0, pos := "outright.go:188", after := #[{ on := 7, ground := Ground.guard }], guard := some (7, false) }) (v := undef) rfl (by kernel_rfl) (by kernel_rfl) (by kernel_rfl) (fun _ _ _ h => h) (Or.inr ⟨by rfl, rfl⟩) (by assumption) ?_
      simp only [Act.put, List.setIfInBounds_toArray, List.set_cons_zero, List.set_cons_succ]
      refine wpAnyH_take (i := 15) (oi := { dst := some 103, op := Op.load 3 (Operand.tmp 102), type := 3, pos := "outright.go:188", after := #[{ on := 14, ground := Ground.data }, { on := 7, ground := Ground.guard }], guard := some (7, false) }) (v := undef) rfl (by kernel_rfl) (by kernel_rfl) (by kernel_rfl) (fun _ _ _ h => h) (Or.inr ⟨by rfl, rfl⟩) (by assumption) ?_
      simp only [Act.put, List.setIfInBounds_toArray, List.set_cons_zero, List.set_cons_succ]
      refine wpAnyH_take (i := 16) (oi := { dst := some 104, op := Op.call { callee := Callee.value (Operand.func 29), args := #[Operand.tmp 101, Operand.tmp 103], argTypes := #[23, 3] }, type := 62, pos := "outright.go:188", after := #[{ on := 13, ground := Ground.data }, { on := 15, ground := Ground.data }, { on := 11, ground := Ground.chain }, { on := 7, ground := Ground.guard }], guard := some (7, false) }) (v := undef) rfl (by kernel_rfl) (by kernel_rfl) (by kernel_rfl) (fun _ _ _ h => h) (Or.inr ⟨by rfl, rfl⟩) (by assumption) ?_
      simp only [Act.put, List.setIfInBounds_toArray, List.set_cons_zero, List.set_cons_succ]
      refine wpAnyH_take (i := 17) (oi := { dst := some 105, op := Op.field 62 (Operand.tmp 104) 2, type := 3, pos := "outright.go:188", after := #[{ on := 16, ground := Ground.data }, { on := 7, ground := Ground.guard }], guard := some (7, false) }) (v := undef) rfl (by kernel_rfl) (by kernel_rfl) (by kernel_rfl) (fun _ _ _ h => h) (Or.inr ⟨by rfl, rfl⟩) (by assumption) ?_
      simp only [Act.put, List.setIfInBounds_toArray, List.set_cons_zero, List.set_cons_succ]
      refine wpAnyH_take (i := 18) (oi := { dst := some 106, op := Op.binOp BinOp.sub 3 (Operand.tmp 105) (Operand.const (Value.int IntKind.i64 1)) 3, type := 3, pos := "outright.go:188", after := #[{ on := 17, ground := Ground.data }, { on := 7, ground := Ground.guard }], guard := some (7, false) }) (v := undef) rfl (by kernel_rfl) (by kernel_rfl) (by kernel_rfl) (fun _ _ _ h => h) (Or.inr ⟨by rfl, rfl⟩) (by assumption) ?_
      simp only [Act.put, List.setIfInBounds_toArray, List.set_cons_zero, List.set_cons_succ]
      refine wpAnyH_take (i := 19) (oi := { dst := some 107, op := Op.binOp BinOp.eql 3 (Operand.tmp 100) (Operand.tmp 106) 3, type := 4, pos := "outright.go:188", after := #[{ on := 12, ground := Ground.data }, { on := 18, ground := Ground.data }, { on := 7, ground := Ground.guard }], guard := some (7, false) }) (v := undef) rfl (by kernel_rfl) (by kernel_rfl) (by kernel_rfl) (fun _ _ _ h => h) (Or.inr ⟨by rfl, rfl⟩) (by assumption) ?_
      simp only [Act.put, List.setIfInBounds_toArray, List.set_cons_zero, List.set_cons_succ]
      refine wpAnyH_take (i := 20) (oi := { dst := some 108, op := Op.pick (Operand.tmp 95) (Operand.const (Value.bool true)) (Operand.tmp 107), type := 4, pos := "outright.go:188", after := #[{ on := 7, ground := Ground.data }, { on := 19, ground := Ground.data }, { on := 3, ground := Ground.guard }], guard := some (3, true) }) (v := .bool true) rfl (by kernel_rfl) (by kernel_rfl) (by kernel_rfl) (fun _ _ _ h => h) (Or.inl ⟨by rfl, by intro w hSw; go_simp⟩) (by assumption) ?_
      simp only [Act.put, List.setIfInBounds_toArray, List.set_cons_zero, List.set_cons_succ]
      refine wpAnyH_take (i := 21) (oi := { dst := some 109, op := Op.pick (Operand.tmp 91) (Operand.tmp 108) (Operand.const (Value.bool false)), type := 4, pos := "outright.go:188", after := #[{ on := 3, ground := Ground.data }, { on := 20, ground := Ground.data }], guard := none }) (v := .bool true) rfl (by kernel_rfl) (by kernel_rfl) (by kernel_rfl) (fun _ _ _ h => h) (Or.inl ⟨by rfl, by intro w hSw; go_simp⟩) (by assumption) ?_
      simp only [Act.put, List.setIfInBounds_toArray, List.set_cons_zero, List.set_cons_succ]
      refine wpAnyH_ready (rs := [22]) (by kernel_rfl) (by simp) (AllReadyH.cons (o := { dst := some 6, op := Op.assign (Operand.tmp 109), type := 4, pos := "outright.go:188", after := #[{ on := 21, ground := Ground.data }, { on := 16, ground := Ground.chain }, { on := 0, ground := Ground.phase }, { on := 1, ground := Ground.phase }, { on := 2, ground := Ground.phase }, { on := 3, ground := Ground.phase }, { on := 4, ground := Ground.phase }, { on := 5, ground := Ground.phase }, { on := 6, ground := Ground.phase }, { on := 7, ground := Ground.phase }, { on := 8, ground := Ground.phase }, { on := 9, ground := Ground.phase }, { on := 10, ground := Ground.phase }, { on := 11, ground := Ground.phase }, { on := 12, ground := Ground.phase }, { on := 13, ground := Ground.phase }, { on := 14, ground := Ground.phase }, { on := 15, ground := Ground.phase }, { on := 16, ground := Ground.phase }, { on := 17, ground := Ground.phase }, { on := 18, ground := Ground.phase }, { on := 19, ground := Ground.phase }, { on := 20, ground := Ground.phase }, { on := 21, ground := Ground.phase }], guard := none }) rfl (fun KQ hK => ?_) AllReadyH.nil)
      go_simp
      refine hK.out _ _ ⟨E5.out.bag.get 2 rfl, E5.out.bag.get 1 rfl, E5.out.bag.get 0 rfl⟩ (fun hHeld => ?_)
      clear hK KQ
      try simp only [Act.put, List.setIfInBounds_toArray, List.set_cons_zero, List.set_cons_succ]
      refine wpAnyH_done (by kernel_rfl) ?_ _
      go_wp2_with fail
      go_ret
      exact ⟨rfl, E5.out.bag.below⟩
    · obtain ⟨bt, bo, br, bs, be⟩ := Oo
      obtain ⟨nt, no, nr, ns, ne⟩ := On
      simp only at h3 h4 h5
      subst h3
      have hwr : IntKind.wrap .i64 (br - 1) = br - 1 := wr64 _ (by omega) (by omega)
      have h2' : (wt == 1) = false := by simpa using h2
      have hfd : ∀ w : World, (Instr.field 62 (.agg (En.mk bt bo br bs be).cs.toArray) 2).run Try.prog w = .ok (.int .i64 br) w := fun _ => by kernel_rfl
      have hfn : ∀ w : World, (Instr.field 62 (.agg (En.mk nt no (br - 1) ns ne).cs.toArray) 2).run Try.prog w = .ok (.int .i64 (br - 1)) w := fun _ => by kernel_rfl
      clear h2
      refine wp_region_held_drew (S := fun w => Cel w g5 29 [.int .i64 4, .int .i64 dd, .int .i64 a, .int .i64 b, .int .i64 t, .bool on, .int .i64 off0, .int .u32 v] ∧ Cel w g7 62 En.zero.cs ∧ Cel w g8 62 (En.mk wt wo wr ws we).cs) (by kernel_rfl) ⟨E5.out.bag.get 2 rfl, E5.out.bag.get 1 rfl, E5.out.bag.get 0 rfl⟩ (fun hHeld => ?_)
      refine wpAnyH_take (i := 0) (oi := { dst := some 88, op := Op.load 62 (Operand.tmp 7), type := 62, pos := "outright.go:188", after := #[], guard := none }) (v := .agg En.zero.cs.toArray) rfl (by kernel_rfl) (by kernel_rfl) (by kernel_rfl) (fun _ _ _ h => h) (yieldsIf_load_mid (by rfl) _ _ rfl _ _ rfl _ _ (fun w hSw => hSw.2.1.range) underE rfl (by rw [sizeE]; rfl)) (by assumption) ?_
      simp only [Act.put, List.setIfInBounds_toArray, List.set_cons_zero, List.set_cons_succ]
      refine wpAnyH_take (i := 1) (oi := { dst := some 89, op := Op.build 62 #[], type := 62, pos := "outright.go:188", after := #[], guard := none }) (v := .agg #[.int .i64 0, .int .i64 0, .int .i64 0, .int .i64 0, .bool false]) rfl (by kernel_rfl) (by kernel_rfl) (by kernel_rfl) (fun _ _ _ h => h) (Or.inl ⟨by rfl, by intro w hSw; go_simp⟩) (by assumption) ?_
      simp only [Act.put, List.setIfInBounds_toArray, List.set_cons_zero, List.set_cons_succ]
      refine wpAnyH_take (i := 2) (oi := { dst := some 90, op := Op.binOp BinOp.eql 62 (Operand.tmp 88) (Operand.tmp 89) 62, type := 4, pos := "outright.go:188", after := #[{ on := 0, ground := Ground.data }, { on := 1, ground := Ground.data }], guard := none }) (v := .bool true) rfl (by kernel_rfl) (by kernel_rfl) (by kernel_rfl) (fun _ _ _ h => h) (Or.inl ⟨by rfl, fun w hSw => exec_eqV 62 _ _ rfl _ _ rfl rfl guardE _ _ (eqE w 9996 En.zero En.zero) (En.same_self _)⟩) (by assumption) ?_
      simp only [Act.put, List.setIfInBounds_toArray, List.set_cons_zero, List.set_cons_succ]
      refine wpAnyH_take (i := 3) (oi := { dst := some 91, op := Op.move (Operand.tmp 90), type := 4, pos := "outright.go:188", after := #[{ on := 2, ground := Ground.data }], guard := none }) (v := .bool true) rfl (by kernel_rfl) (by kernel_rfl) (by kernel_rfl) (fun _ _ _ h => h) (Or.inl ⟨by rfl, by intro w hSw; go_simp⟩) (by assumption) ?_
      simp only [Act.put, List.setIfInBounds_toArray, List.set_cons_zero, List.set_cons_succ]
      refine wpAnyH_take (i := 4) (oi := { dst := some 92, op := Op.fieldAddr 62 (Operand.tmp 8) 0, type := 0, pos := "outright.go:188", after := #[{ on := 3, ground := Ground.guard }], guard := some (3, true) }) (v := .pointer (some ⟨g8, 0, none⟩)) rfl (by kernel_rfl) (by kernel_rfl) (by kernel_rfl) (fun _ _ _ h => h) (Or.inl ⟨by rfl, by intro w hSw; go_simp⟩) (by assumption) ?_
      simp only [Act.put, List.setIfInBounds_toArray, List.set_cons_zero, List.set_cons_succ]
      refine wpAnyH_take (i := 5) (oi := { dst := some 93, op := Op.load 44 (Operand.tmp 92), type := 44, pos := "outright.go:188", after := #[{ on := 4, ground := Ground.data }, { on := 3, ground := Ground.guard }], guard := some (3, true) }) (v := .int .i64 wt) rfl (by kernel_rfl) (by kernel_rfl) (by kernel_rfl) (fun _ _ _ h => h) (Or.inl ⟨by rfl, by intro w hSw; have hc := hSw.2.2.cell 0; simp only [En.cs, List.getElem?_cons_zero] at hc; go_simp⟩) (by assumption) ?_
      simp only [Act.put, List.setIfInBounds_toArray, List.set_cons_zero, List.set_cons_succ]
      refine wpAnyH_take (i := 6) (oi := { dst := some 94, op := Op.binOp BinOp.eql 44 (Operand.tmp 93) (Operand.const (Value.int IntKind.i64 1)) 44, type := 4, pos := "outright.go:188", after := #[{ on := 5, ground := Ground.data }, { on := 3, ground := Ground.guard }], guard := some (3, true) }) (v := .bool false) rfl (by kernel_rfl) (by kernel_rfl) (by kernel_rfl) (fun _ _ _ h => h) (Or.inl ⟨by rfl, by intro w hSw; go_simp⟩) (by assumption) ?_
      simp only [Act.put, List.setIfInBounds_toArray, List.set_cons_zero, List.set_cons_succ]
      refine wpAnyH_take (i := 7) (oi := { dst := some 95, op := Op.move (Operand.tmp 94), type := 4, pos := "outright.go:188", after := #[{ on := 6, ground := Ground.data }, { on := 3, ground := Ground.chain }, { on := 3, ground := Ground.guard }], guard := some (3, true) }) (v := .bool false) rfl (by kernel_rfl) (by kernel_rfl) (by kernel_rfl) (fun _ _ _ h => h) (Or.inl ⟨by rfl, by intro w hSw; go_simp⟩) (by assumption) ?_
      simp only [Act.put, List.setIfInBounds_toArray, List.set_cons_zero, List.set_cons_succ]
      refine wpAnyH_take (i := 8) (oi := { dst := some 96, op := Op.move (Operand.tmp 0), type := 23, pos := "outright.go:188", after := #[{ on := 7, ground := Ground.guard }], guard := some (7, false) }) (v := .pointer (some ⟨p.g, 0, none⟩)) rfl (by kernel_rfl) (by kernel_rfl) (by kernel_rfl) (fun _ _ _ h => h) (Or.inl ⟨by rfl, by intro w hSw; go_simp⟩) (by assumption) ?_
      simp only [Act.put, List.setIfInBounds_toArray, List.set_cons_zero, List.set_cons_succ]
      refine wpAnyH_take (i := 9) (oi := { dst := some 97, op := Op.fieldAddr 62 (Operand.tmp 8) 1, type := 0, pos := "outright.go:188", after := #[{ on := 7, ground := Ground.guard }], guard := some (7, false) }) (v := .pointer (some ⟨g8, 1, none⟩)) rfl (by kernel_rfl) (by kernel_rfl) (by kernel_rfl) (fun _ _ _ h => h) (Or.inl ⟨by rfl, by intro w hSw; go_simp⟩) (by assumption) ?_
      simp only [Act.put, List.setIfInBounds_toArray, List.set_cons_zero, List.set_cons_succ]
      refine wpAnyH_take (i := 10) (oi := { dst := some 98, op := Op.load 3 (Operand.tmp 97), type := 3, pos := "outright.go:188", after := #[{ on := 9, ground := Ground.data }, { on := 7, ground := Ground.guard }], guard := some (7, false) }) (v := .int .i64 wo) rfl (by kernel_rfl) (by kernel_rfl) (by kernel_rfl) (fun _ _ _ h => h) (Or.inl ⟨by rfl, by intro w hSw; have hc := hSw.2.2.cell 1; simp only [En.cs, List.getElem?_cons_zero, List.getElem?_cons_succ] at hc; go_simp⟩) (by assumption) ?_
      simp only [Act.put, List.setIfInBounds_toArray, List.set_cons_zero, List.set_cons_succ]
      refine wpAnyH_take (i := 13) (oi := { dst := some 101, op := Op.move (Operand.tmp 1), type := 23, pos := "outright.go:188", after := #[{ on := 7, ground := Ground.guard }], guard := some (7, false) }) (v := .pointer (some ⟨q.g, 0, none⟩)) rfl (by kernel_rfl) (by kernel_rfl) (by kernel_rfl) (fun _ _ _ h => h) (Or.inl ⟨by rfl, by intro w hSw; go_simp⟩) (by assumption) ?_
      simp only [Act.put, List.setIfInBounds_toArray, List.set_cons_zero, List.set_cons_succ]
      refine wpAnyH_take (i := 14) (oi := { dst := some 102, op := Op.fieldAddr 62 (Operand.tmp 8) 1, type := 0, pos := "outright.go:188", after := #[{ on := 7, ground := Ground.guard }], guard := some (7, false) }) (v := .pointer (some ⟨g8, 1, none⟩)) rfl (by kernel_rfl) (by kernel_rfl) (by kernel_rfl) (fun _ _ _ h => h) (Or.inl ⟨by rfl, by intro w hSw; go_simp⟩) (by assumption) ?_
      simp only [Act.put, List.setIfInBounds_toArray, List.set_cons_zero, List.set_cons_succ]
      refine wpAnyH_take (i := 15) (oi := { dst := some 103, op := Op.load 3 (Operand.tmp 102), type := 3, pos := "outright.go:188", after := #[{ on := 14, ground := Ground.data }, { on := 7, ground := Ground.guard }], guard := some (7, false) }) (v := .int .i64 wo) rfl (by kernel_rfl) (by kernel_rfl) (by kernel_rfl) (fun _ _ _ h => h) (Or.inl ⟨by rfl, by intro w hSw; have hc := hSw.2.2.cell 1; simp only [En.cs, List.getElem?_cons_zero, List.getElem?_cons_succ] at hc; go_simp⟩) (by assumption) ?_
      simp only [Act.put, List.setIfInBounds_toArray, List.set_cons_zero, List.set_cons_succ]
      refine wpAnyH_ready (rs := [11]) (by kernel_rfl) (by simp) (AllReadyH.cons (o := { dst := some 99, op := Op.call { callee := Callee.value (Operand.func 29), args := #[Operand.tmp 96, Operand.tmp 98], argTypes := #[23, 3] }, type := 62, pos := "outright.go:188", after := #[{ on := 8, ground := Ground.data }, { on := 10, ground := Ground.data }, { on := 7, ground := Ground.chain }, { on := 7, ground := Ground.guard }], guard := some (7, false) }) rfl (fun KQ hK => ?_) AllReadyH.nil)
      go_simp
      refine (HA3.out _ E5.out.a).mono ?_
      rintro e w5 ⟨rfl, hb⟩
      have E6 := hid (E5.out.on hb)
      clear hb
      go_wp2_with fail
      refine hK.out _ _ ⟨E6.out.bag.get 2 rfl, E6.out.bag.get 1 rfl, E6.out.bag.get 0 rfl⟩ (fun hHeld => ?_)
      clear hK KQ
      try simp only [Act.put, List.setIfInBounds_toArray, List.set_cons_zero, List.set_cons_succ]
      refine wpAnyH_take (i := 12) (oi := { dst := some 100, op := Op.field 62 (Operand.tmp 99) 2, type := 3, pos := "outright.go:188", after := #[{ on := 11, ground := Ground.data }, { on := 7, ground := Ground.guard }], guard := some (7, false) }) (v := .int .i64 (br - 1)) rfl (by kernel_rfl) (by kernel_rfl) (by kernel_rfl) (fun _ _ _ h => h) (Or.inl ⟨by rfl, by intro w hSw; go_simp⟩) (by assumption) ?_
      simp only [Act.put, List.setIfInBounds_toArray, List.set_cons_zero, List.set_cons_succ]
      refine wpAnyH_ready (rs := [16]) (by kernel_rfl) (by simp) (AllReadyH.cons (o := { dst := some 104, op := Op.call { callee := Callee.value (Operand.func 29), args := #[Operand.tmp 101, Operand.tmp 103], argTypes := #[23, 3] }, type := 62, pos := "outright.go:188", after := #[{ on := 13, ground := Ground.data }, { on := 15, ground := Ground.data }, { on := 11, ground := Ground.chain }, { on := 7, ground := Ground.guard }], guard := some (7, false) }) rfl (fun KQ hK => ?_) AllReadyH.nil)
      go_simp
      refine (HB3.out _ E6.out.b).mono ?_
      rintro e w6 ⟨rfl, hb⟩
      have E7 := hid (E6.out.on hb)
      clear hb
      go_wp2_with fail
      refine hK.out _ _ ⟨E7.out.bag.get 2 rfl, E7.out.bag.get 1 rfl, E7.out.bag.get 0 rfl⟩ (fun hHeld => ?_)
      clear hK KQ
      try simp only [Act.put, List.setIfInBounds_toArray, List.set_cons_zero, List.set_cons_succ]
      refine wpAnyH_take (i := 17) (oi := { dst := some 105, op := Op.field 62 (Operand.tmp 104) 2, type := 3, pos := "outright.go:188", after := #[{ on := 16, ground := Ground.data }, { on := 7, ground := Ground.guard }], guard := some (7, false) }) (v := .int .i64 br) rfl (by kernel_rfl) (by kernel_rfl) (by kernel_rfl) (fun _ _ _ h => h) (Or.inl ⟨by rfl, by intro w hSw; go_simp⟩) (by assumption) ?_
      simp only [Act.put, List.setIfInBounds_toArray, List.set_cons_zero, List.set_cons_succ]
      refine wpAnyH_take (i := 18) (oi := { dst := some 106, op := Op.binOp BinOp.sub 3 (Operand.tmp 105) (Operand.const (Value.int IntKind.i64 1)) 3, type := 3, pos := "outright.go:188", after := #[{ on := 17, ground := Ground.data }, { on := 7, ground := Ground.guard }], guard := some (7, false) }) (v := .int .i64 (br - 1)) rfl (by kernel_rfl) (by kernel_rfl) (by kernel_rfl) (fun _ _ _ h => h) (Or.inl ⟨by rfl, by intro w hSw; go_simp⟩) (by assumption) ?_
      simp only [Act.put, List.setIfInBounds_toArray, List.set_cons_zero, List.set_cons_succ]
      refine wpAnyH_take (i := 19) (oi := { dst := some 107, op := Op.binOp BinOp.eql 3 (Operand.tmp 100) (Operand.tmp 106) 3, type := 4, pos := "outright.go:188", after := #[{ on := 12, ground := Ground.data }, { on := 18, ground := Ground.data }, { on := 7, ground := Ground.guard }], guard := some (7, false) }) (v := .bool true) rfl (by kernel_rfl) (by kernel_rfl) (by kernel_rfl) (fun _ _ _ h => h) (Or.inl ⟨by rfl, by intro w hSw; go_simp⟩) (by assumption) ?_
      simp only [Act.put, List.setIfInBounds_toArray, List.set_cons_zero, List.set_cons_succ]
      refine wpAnyH_take (i := 20) (oi := { dst := some 108, op := Op.pick (Operand.tmp 95) (Operand.const (Value.bool true)) (Operand.tmp 107), type := 4, pos := "outright.go:188", after := #[{ on := 7, ground := Ground.data }, { on := 19, ground := Ground.data }, { on := 3, ground := Ground.guard }], guard := some (3, true) }) (v := .bool true) rfl (by kernel_rfl) (by kernel_rfl) (by kernel_rfl) (fun _ _ _ h => h) (Or.inl ⟨by rfl, by intro w hSw; go_simp⟩) (by assumption) ?_
      simp only [Act.put, List.setIfInBounds_toArray, List.set_cons_zero, List.set_cons_succ]
      refine wpAnyH_take (i := 21) (oi := { dst := some 109, op := Op.pick (Operand.tmp 91) (Operand.tmp 108) (Operand.const (Value.bool false)), type := 4, pos := "outright.go:188", after := #[{ on := 3, ground := Ground.data }, { on := 20, ground := Ground.data }], guard := none }) (v := .bool true) rfl (by kernel_rfl) (by kernel_rfl) (by kernel_rfl) (fun _ _ _ h => h) (Or.inl ⟨by rfl, by intro w hSw; go_simp⟩) (by assumption) ?_
      simp only [Act.put, List.setIfInBounds_toArray, List.set_cons_zero, List.set_cons_succ]
      refine wpAnyH_ready (rs := [22]) (by kernel_rfl) (by simp) (AllReadyH.cons (o := { dst := some 6, op := Op.assign (Operand.tmp 109), type := 4, pos := "outright.go:188", after := #[{ on := 21, ground := Ground.data }, { on := 16, ground := Ground.chain }, { on := 0, ground := Ground.phase }, { on := 1, ground := Ground.phase }, { on := 2, ground := Ground.phase }, { on := 3, ground := Ground.phase }, { on := 4, ground := Ground.phase }, { on := 5, ground := Ground.phase }, { on := 6, ground := Ground.phase }, { on := 7, ground := Ground.phase }, { on := 8, ground := Ground.phase }, { on := 9, ground := Ground.phase }, { on := 10, ground := Ground.phase }, { on := 11, ground := Ground.phase }, { on := 12, ground := Ground.phase }, { on := 13, ground := Ground.phase }, { on := 14, ground := Ground.phase }, { on := 15, ground := Ground.phase }, { on := 16, ground := Ground.phase }, { on := 17, ground := Ground.phase }, { on := 18, ground := Ground.phase }, { on := 19, ground := Ground.phase }, { on := 20, ground := Ground.phase }, { on := 21, ground := Ground.phase }], guard := none }) rfl (fun KQ hK => ?_) AllReadyH.nil)
      go_simp
      refine hK.out _ _ ⟨E7.out.bag.get 2 rfl, E7.out.bag.get 1 rfl, E7.out.bag.get 0 rfl⟩ (fun hHeld => ?_)
      clear hK KQ
      try simp only [Act.put, List.setIfInBounds_toArray, List.set_cons_zero, List.set_cons_succ]
      refine wpAnyH_done (by kernel_rfl) ?_ _
      go_wp2_with fail
      go_ret
      exact ⟨rfl, E7.out.bag.below⟩
  have q1 : (k == 1) = false := by simpa using k1
  have q2 : (k == 2) = false := by simpa using k2
  have q3 : (k == 3) = false := by simpa using k3
  have q4 : (k == 4) = false := by simpa using k4
  by_cases k5 : k = 5
  · subst k5
    obtain rfl := HS5.out rfl
    clear HS1 HS2 HS3 HS4 HS5 HS6 k1 k2 k3 k4 q1 q2 q3 q4
    have c4 := (E4.out.bag.get 2 rfl).cell 4
    have x3 := (E4.out.bag.get 0 rfl).cell 3
    have f3 := (E4.out.bag.get 0 rfl).free 3
    simp only [En.cs, List.getElem?_cons_zero, List.getElem?_cons_succ] at c4 x3
    have H8 := hid ((E4.out.bag.get 0 rfl).setCell 3 (.int .i64 t))
    have H7 := hid ((E4.out.bag.get 1 rfl).but (.setCell (G := [g8]) w4 g8 3 (.int .i64 t) (by simp)) (by have := HN8.out.1; simp; omega))
    have HBB := hid (E4.out.bag.below.trans ((ButL.setCell (G := [g8]) w4 g8 3 (.int .i64 t) (by simp)).below (by have := HN8.out.2; simp; omega) E4.out.bag.below.size))
    simp only [En.cs, List.set_cons_zero, List.set_cons_succ] at H8
    have HSx : Hid (∀ w : World, (Op.equalIn 10000 62 (.agg (En.mk wt wo wr t we).cs.toArray) (.agg (En.mk wt wo wr t we).cs.toArray)).run Try.prog w = .ok true w) := hid (fun w => (eqE w 9996 _ _).trans (by rw [En.same_self]))
    go_upto_region 14 with fail
    generalize w4.setCell _ _ = w5 at *
    go_wp2_with (first | (refine wpList_load_mid rfl 62 _ rfl g7 0 rfl _ _ H7.out.range underE rfl (by rw [sizeE]; rfl) ?_) | (refine wpList_load_mid rfl 62 _ rfl g8 0 rfl _ _ H8.out.range underE rfl (by rw [sizeE]; rfl) ?_) | (refine wpList_eq rfl 62 _ _ rfl _ _ rfl rfl guardE true (HSx.out _) ?_))
    go_ret
    exact ⟨rfl, HBB.out⟩
  · have q5 : (k == 5) = false := by simpa using k5
    obtain rfl := HS6.out k1 k2 k3 k4 k5
    clear HS1 HS2 HS3 HS4 HS5 HS6 k1 k2 k3 k4 k5
    have c5 := (E4.out.bag.get 2 rfl).cell 5
    have x4 := (E4.out.bag.get 0 rfl).cell 4
    have f4 := (E4.out.bag.get 0 rfl).free 4
    simp only [En.cs, List.getElem?_cons_zero, List.getElem?_cons_succ] at c5 x4
    have H8 := hid ((E4.out.bag.get 0 rfl).setCell 4 (.bool on))
    have H7 := hid ((E4.out.bag.get 1 rfl).but (.setCell (G := [g8]) w4 g8 4 (.bool on) (by simp)) (by have := HN8.out.1; simp; omega))
    have HBB := hid (E4.out.bag.below.trans ((ButL.setCell (G := [g8]) w4 g8 4 (.bool on) (by simp)).below (by have := HN8.out.2; simp; omega) E4.out.bag.below.size))
    simp only [En.cs, List.set_cons_zero, List.set_cons_succ] at H8
    have HSx : Hid (∀ w : World, (Op.equalIn 10000 62 (.agg (En.mk wt wo wr ws on).cs.toArray) (.agg (En.mk wt wo wr ws on).cs.toArray)).run Try.prog w = .ok true w) := hid (fun w => (eqE w 9996 _ _).trans (by rw [En.same_self]))
    go_upto_region 16 with fail
    generalize w4.setCell _ _ = w5 at *
    go_wp2_with (first | (refine wpList_load_mid rfl 62 _ rfl g7 0 rfl _ _ H7.out.range underE rfl (by rw [sizeE]; rfl) ?_) | (refine wpList_load_mid rfl 62 _ rfl g8 0 rfl _ _ H8.out.range underE rfl (by rw [sizeE]; rfl) ?_) | (refine wpList_eq rfl 62 _ _ rfl _ _ rfl rfl guardE true (HSx.out _) ?_))
    go_ret
    exact ⟨rfl, HBB.out⟩
end Go.Proofs.Ytajkhkaidjjioaa
