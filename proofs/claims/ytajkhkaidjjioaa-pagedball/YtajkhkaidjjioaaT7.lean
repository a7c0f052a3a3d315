/- The law's step 37, the kinds that ask; the write past the calls. -/
import Derived.Test.YtajkhkaidjjioaaT6
import Derived.Test.YtajkhkaidjjioaaPd
import Derived.Test.YtajkhkaidjjioaaT1
namespace Go.Proofs.Ytajkhkaidjjioaa
open Go.RowKit
set_option maxHeartbeats 4000000
set_option maxRecDepth 100000
theorem Hl.wl {W w : World} {v : Value} {L : List Int} (h : Hl W w v L) (hr : ∀ x ∈ L, 0 ≤ x ∧ x < 4294967296) : ∃ ao c, v = .slice ao L.length c ∧ WL w ao L.length L := by
  obtain ⟨ao, c, hv, hf⟩ := h.form
  refine ⟨ao, c, hv, rfl, hr, fun h0 => ?_⟩
  obtain ⟨g, e, _, hg, _, hc⟩ := hf h0
  exact ⟨g, 0, e, fun j u hu => by rw [Nat.zero_add]; exact hc j u hu, hg⟩
theorem DS.owned_le {d : DS} (h : d.Ok) (s : Int) : (d.owned s).length ≤ 1000000 := by
  have := h.n64
  unfold DS.owned
  split
  · have := lstN_len (fun k => isO s (k : Int) (d.at k)) d.m.ns; omega
  · simp
theorem TP.hold {W w : World} {p : Dp} {r q : Rp} {d e : DS} {g2 g3 : Nat} {bs cs : List Value} (h : TP W w p r q d e [(g3, 29, cs), (g2, 68, bs)]) : Cel w g2 68 bs ∧ Cel w g3 29 cs := ⟨h.get 1 rfl, h.get 0 rfl⟩
theorem TP.boxput {W w w' : World} {p : Dp} {r q : Rp} {d e : DS} {L : List (Nat × TypeId × List Value)} {t : TypeId} {cs es : List Value} (h : TP W w p r q d e L) (hc : Cel w' w.heap.size t es) (hb : ButL [w.heap.size] (w.alloc (.cells cs.toArray t)) w') : TP W w' p r q d e ((w.heap.size, t, es) :: L) :=
  (h.box t cs).put (fun x hx => by have := (h.bag x hx).lt; omega) hc hb
theorem TP.memR {W w w' : World} {p : Dp} {r q : Rp} {d e : DS} {r' : Rf} {m' : MS} {L : List (Nat × TypeId × List Value)} (h : TP W w p r q d e L) (hs : RSt w w' q.r r' m') (hn : m'.ns = e.m.ns) : TP W w' p r { q with r := r' } d { e with m := m' } L :=
  h.stepR ((RG.start h.doc).mem hs hn)
theorem TP.memA {W w w' : World} {p : Dp} {r q : Rp} {d e : DS} {m' : MS} {L : List (Nat × TypeId × List Value)} (h : TP W w p r q d e L) (hm : Mem w' p.f m') (hb : ButL p.f.w w w') (hn : m'.ns = d.m.ns) : TP W w' p r q { d with m := m' } e L :=
  h.stepA (h.own.memory hm hb hn) ((ButL.refl p.w w).trans_sub hb (fun k hk => .inl (by simp only [Dp.w, List.mem_cons]; exact .inr hk)))
theorem step_7 (W : World) (p : Dp) (r : Rp) (d : DS) (h : DB W p d) (h' : RDB W r d) (ha : ∀ k ∈ p.all, k ∉ r.all) (o : Oq) (hk : o.k = 7) :
    Calls Try.prog 37 #[.agg #[ptr p.g, ptr r.g], o.val] W fun x W' => x = .returned (.bool true) ∧ ∃ q, TP W W' p r q d d [] := by
  have T0 := hid (TP.begin h h' ha o)
  have HR := hid (fun w (hw : RDB w r d) => rentry_any w r d hw o.a)
  have HA := hid (fun w (hw : DB w p d) => entry_any w p d hw o.a)
  have HSm := hid (fun w => sameE_any w (d.ent o.a))
  clear h h' ha
  obtain ⟨k, dd, a, b, t, on, off, v⟩ := o
  simp only at hk
  subst hk
  simp only [Oq.val, Oq.cs, ptr] at *
  go_enter Try.func37, Try.ntmps37
  go_upto_region 1 with fail
  generalize World.alloc _ _ = X at *
  generalize W.heap.size = g2 at *
  generalize g2 + 1 = g3 at *
  obtain ⟨x0, x1⟩ := T0.out.pair 1 rfl
  obtain ⟨y0, y1, y2, y3, y4, y5, y6, y7⟩ := T0.out.op 0 rfl
  generalize d.ent a = E at *
  generalize d.entE a = f at *
  simp only [En.v] at *
  go_upto_region 22 with (first | (go_at_call 76; refine (HR.out _ T0.out.doc).mono ?_; rintro e w1 ⟨rfl, hb⟩; have T1 := hid (T0.out.on hb); clear hb T0 x0 x1 y0 y1 y2 y3 y4 y5 y6 y7) | (refine wpList_store_st rfl 124 _ _ rfl w1.heap.size E.cs rfl rfl (Cel.new w1 124 En.zero.cs) sizeR rfl rfl ?_; intro w2 hc hb hs; have T2 := hid (T1.out.boxput hc hb); clear hc hb hs T1))
  generalize w1.heap.size = g11 at *
  obtain ⟨x0, x1⟩ := T2.out.pair 2 rfl
  obtain ⟨y0, y1, y2, y3, y4, y5, y6, y7⟩ := T2.out.op 1 rfl
  go_upto_region 23 with (first | (go_at_call 55; refine (HA.out _ T2.out.own).mono ?_; rintro e w3 ⟨rfl, hb⟩; have T3 := hid (T2.out.on hb); clear hb T2 x0 x1 y0 y1 y2 y3 y4 y5 y6 y7) | (refine wpList_store_st rfl 62 _ _ rfl w3.heap.size E.cs rfl rfl (Cel.new w3 62 En.zero.cs) sizeE rfl rfl ?_; intro w4 hc hb hs; have T4 := hid (T3.out.boxput hc hb); clear hc hb hs T3))
  generalize w3.heap.size = g13 at *
  go_wp2_with (first | (refine wpList_load_g rfl 62 _ rfl g13 rfl (T4.out.get 0 rfl) rfl underE sizeE ?_) | (refine wpList_load_g rfl 124 _ rfl g11 rfl (T4.out.get 1 rfl) rfl underR sizeR ?_) | (go_at_call 77; refine (HSm.out _).mono ?_; rintro e w5 ⟨rfl, hb⟩; have T5 := hid (T4.out.on hb); clear hb T4))
  go_ret
  exact ⟨rfl, _, T5.out.drop⟩
theorem step_8 (W : World) (p : Dp) (r : Rp) (d : DS) (h : DB W p d) (h' : RDB W r d) (ha : ∀ k ∈ p.all, k ∉ r.all) (o : Oq) (hk : o.k = 8) :
    Calls Try.prog 37 #[.agg #[ptr p.g, ptr r.g], o.val] W fun x W' => x = .returned (.bool true) ∧ ∃ q, TP W W' p r q d d [] := by
  have T0 := hid (TP.begin h h' ha o)
  have HR := hid (fun w (hw : RDB w r d) => rowned_any w r d hw o.a)
  have HA := hid (fun w (hw : DB w p d) => owned_any w p d hw o.a)
  have HSm := hid (fun w ao bo c c' hA hB => sameNums_any w ao bo c c' (d.owned o.a) hA hB (DS.owned_le h.ok o.a))
  clear h h' ha
  obtain ⟨k, dd, a, b, t, on, off, v⟩ := o
  simp only at hk
  subst hk
  simp only [Oq.val, Oq.cs, ptr] at *
  go_enter Try.func37, Try.ntmps37
  go_upto_region 1 with fail
  generalize World.alloc _ _ = X at *
  generalize W.heap.size = g2 at *
  generalize g2 + 1 = g3 at *
  obtain ⟨x0, x1⟩ := T0.out.pair 1 rfl
  obtain ⟨y0, y1, y2, y3, y4, y5, y6, y7⟩ := T0.out.op 0 rfl
  generalize d.owned a = A at *
  go_upto_region 25 with fail
  clear x0 x1 y0 y1 y2 y3 y4 y5 y6 y7
  have T1 := hid (T0.out.on (Below.refl _ _).drew)
  clear T0
  refine wp_region_held_drew (S := fun w => Cel w g2 68 [.pointer (some ⟨p.g, 0, none⟩), .pointer (some ⟨r.g, 0, none⟩)] ∧ Cel w g3 29 [.int .i64 8, .int .i64 dd, .int .i64 a, .int .i64 b, .int .i64 t, .bool on, .int .i64 off, .int .u32 v]) (by kernel_rfl) T1.out.hold (fun hHeld => ?_)
  generalize World.drew _ = w1 at *
  refine wpAnyH_take (i := 0) (oi := { dst := some 154, op := Op.fieldAddr 68 (Operand.tmp 2) 0, type := 0, pos := "law.go:179", after := #[], guard := none }) (v := .pointer (some ⟨g2, 0, none⟩)) rfl (by kernel_rfl) (by kernel_rfl) (by kernel_rfl) (fun _ _ _ h => h) (Or.inl ⟨by rfl, by intro w hSw; go_simp⟩) (by assumption) ?_
  simp only [Act.put, List.setIfInBounds_toArray, List.set_cons_zero, List.set_cons_succ]
  refine wpAnyH_take (i := 1) (oi := { dst := some 155, op := Op.load 23 (Operand.tmp 154), type := 23, pos := "law.go:179", after := #[{ on := 0, ground := Ground.data }], guard := none }) (v := .pointer (some ⟨p.g, 0, none⟩)) rfl (by kernel_rfl) (by kernel_rfl) (by kernel_rfl) (fun _ _ _ h => h) (Or.inl ⟨by rfl, by intro w hSw; have hc : w.cell? ⟨g2, 0, none⟩ = some (.pointer (some ⟨p.g, 0, none⟩)) := hSw.1.cell 0; go_simp⟩) (by assumption) ?_
  simp only [Act.put, List.setIfInBounds_toArray, List.set_cons_zero, List.set_cons_succ]
  refine wpAnyH_take (i := 2) (oi := { dst := some 156, op := Op.fieldAddr 29 (Operand.tmp 3) 2, type := 0, pos := "law.go:179", after := #[], guard := none }) (v := .pointer (some ⟨g3, 2, none⟩)) rfl (by kernel_rfl) (by kernel_rfl) (by kernel_rfl) (fun _ _ _ h => h) (Or.inl ⟨by rfl, by intro w hSw; go_simp⟩) (by assumption) ?_
  simp only [Act.put, List.setIfInBounds_toArray, List.set_cons_zero, List.set_cons_succ]
  refine wpAnyH_take (i := 3) (oi := { dst := some 157, op := Op.load 3 (Operand.tmp 156), type := 3, pos := "law.go:179", after := #[{ on := 2, ground := Ground.data }], guard := none }) (v := .int .i64 a) rfl (by kernel_rfl) (by kernel_rfl) (by kernel_rfl) (fun _ _ _ h => h) (Or.inl ⟨by rfl, by intro w hSw; have hc : w.cell? ⟨g3, 2, none⟩ = some (.int .i64 a) := hSw.2.cell 2; go_simp⟩) (by assumption) ?_
  simp only [Act.put, List.setIfInBounds_toArray, List.set_cons_zero, List.set_cons_succ]
  refine wpAnyH_take (i := 5) (oi := { dst := some 159, op := Op.fieldAddr 68 (Operand.tmp 2) 1, type := 0, pos := "law.go:179", after := #[], guard := none }) (v := .pointer (some ⟨g2, 1, none⟩)) rfl (by kernel_rfl) (by kernel_rfl) (by kernel_rfl) (fun _ _ _ h => h) (Or.inl ⟨by rfl, by intro w hSw; go_simp⟩) (by assumption) ?_
  simp only [Act.put, List.setIfInBounds_toArray, List.set_cons_zero, List.set_cons_succ]
  refine wpAnyH_take (i := 6) (oi := { dst := some 160, op := Op.load 66 (Operand.tmp 159), type := 66, pos := "law.go:179", after := #[{ on := 5, ground := Ground.data }], guard := none }) (v := .pointer (some ⟨r.g, 0, none⟩)) rfl (by kernel_rfl) (by kernel_rfl) (by kernel_rfl) (fun _ _ _ h => h) (Or.inl ⟨by rfl, by intro w hSw; have hc : w.cell? ⟨g2, 1, none⟩ = some (.pointer (some ⟨r.g, 0, none⟩)) := hSw.1.cell 1; go_simp⟩) (by assumption) ?_
  simp only [Act.put, List.setIfInBounds_toArray, List.set_cons_zero, List.set_cons_succ]
  refine wpAnyH_take (i := 7) (oi := { dst := some 161, op := Op.fieldAddr 29 (Operand.tmp 3) 2, type := 0, pos := "law.go:179", after := #[], guard := none }) (v := .pointer (some ⟨g3, 2, none⟩)) rfl (by kernel_rfl) (by kernel_rfl) (by kernel_rfl) (fun _ _ _ h => h) (Or.inl ⟨by rfl, by intro w hSw; go_simp⟩) (by assumption) ?_
  simp only [Act.put, List.setIfInBounds_toArray, List.set_cons_zero, List.set_cons_succ]
  refine wpAnyH_take (i := 8) (oi := { dst := some 162, op := Op.load 3 (Operand.tmp 161), type := 3, pos := "law.go:179", after := #[{ on := 7, ground := Ground.data }], guard := none }) (v := .int .i64 a) rfl (by kernel_rfl) (by kernel_rfl) (by kernel_rfl) (fun _ _ _ h => h) (Or.inl ⟨by rfl, by intro w hSw; have hc : w.cell? ⟨g3, 2, none⟩ = some (.int .i64 a) := hSw.2.cell 2; go_simp⟩) (by assumption) ?_
  simp only [Act.put, List.setIfInBounds_toArray, List.set_cons_zero, List.set_cons_succ]
  refine wpAnyH_ready (rs := [4]) (by kernel_rfl) (by simp) (AllReadyH.cons (o := { dst := some 158, op := Op.call { callee := Callee.value (Operand.func 20), args := #[Operand.tmp 155, Operand.tmp 157], argTypes := #[23, 3] }, type := 45, pos := "law.go:179", after := #[{ on := 1, ground := Ground.data }, { on := 3, ground := Ground.data }], guard := none }) rfl (fun KQ hK => ?_) AllReadyH.nil)
  go_simp
  refine (HA.out _ T1.out.own).mono ?_
  rintro e w2 ⟨v2, rfl, ho, hb⟩
  obtain ⟨ao, ca, rfl, hl⟩ := own_nl ho
  have NA := hid hl
  have T2 := hid (T1.out.on hb)
  clear ho hl hb T1
  go_wp2_with fail
  refine hK.out _ _ T2.out.hold (fun hHeld => ?_)
  clear hK KQ
  try simp only [Act.put, List.setIfInBounds_toArray, List.set_cons_zero, List.set_cons_succ]
  refine wpAnyH_ready (rs := [9]) (by kernel_rfl) (by simp) (AllReadyH.cons (o := { dst := some 163, op := Op.call { callee := Callee.value (Operand.func 78), args := #[Operand.tmp 160, Operand.tmp 162], argTypes := #[66, 3] }, type := 45, pos := "law.go:179", after := #[{ on := 6, ground := Ground.data }, { on := 8, ground := Ground.data }, { on := 4, ground := Ground.chain }], guard := none }) rfl (fun KQ hK => ?_) AllReadyH.nil)
  go_simp
  refine (HR.out _ T2.out.doc).mono ?_
  rintro e w3 ⟨v3, rfl, ho⟩
  obtain ⟨bo, cb, rfl, hl⟩ := own_nl ho.own
  have NB := hid hl
  have NA2 := hid (NA.out.on ho.below)
  have T3 := hid (T2.out.on ho.below)
  clear ho hl T2 NA
  go_wp2_with fail
  refine hK.out _ _ T3.out.hold (fun hHeld => ?_)
  clear hK KQ
  try simp only [Act.put, List.setIfInBounds_toArray, List.set_cons_zero, List.set_cons_succ]
  refine wpAnyH_ready (rs := [10]) (by kernel_rfl) (by simp) (AllReadyH.cons (o := { dst := some 164, op := Op.call { callee := Callee.value (Operand.func 22), args := #[Operand.tmp 158, Operand.tmp 163], argTypes := #[45, 45] }, type := 4, pos := "law.go:179", after := #[{ on := 4, ground := Ground.data }, { on := 9, ground := Ground.data }, { on := 9, ground := Ground.chain }], guard := none }) rfl (fun KQ hK => ?_) AllReadyH.nil)
  go_simp
  refine (HSm.out _ _ _ _ _ NA2.out NB.out).mono ?_
  rintro e w4 ⟨rfl, hb⟩
  have T4 := hid (T3.out.on hb)
  clear hb T3
  go_wp2_with fail
  refine hK.out _ _ T4.out.hold (fun hHeld => ?_)
  clear hK KQ
  try simp only [Act.put, List.setIfInBounds_toArray, List.set_cons_zero, List.set_cons_succ]
  refine wpAnyH_ready (rs := [11]) (by kernel_rfl) (by simp) (AllReadyH.cons (o := { dst := some 4, op := Op.assign (Operand.tmp 164), type := 4, pos := "law.go:179", after := #[{ on := 10, ground := Ground.data }, { on := 10, ground := Ground.chain }, { on := 0, ground := Ground.phase }, { on := 1, ground := Ground.phase }, { on := 2, ground := Ground.phase }, { on := 3, ground := Ground.phase }, { on := 4, ground := Ground.phase }, { on := 5, ground := Ground.phase }, { on := 6, ground := Ground.phase }, { on := 7, ground := Ground.phase }, { on := 8, ground := Ground.phase }, { on := 9, ground := Ground.phase }, { on := 10, ground := Ground.phase }], guard := none }) rfl (fun KQ hK => ?_) AllReadyH.nil)
  go_simp
  refine hK.out _ _ T4.out.hold (fun hHeld => ?_)
  clear hK KQ
  try simp only [Act.put, List.setIfInBounds_toArray, List.set_cons_zero, List.set_cons_succ]
  refine wpAnyH_done (by kernel_rfl) ?_ _
  go_wp2_with fail
  go_ret
  exact ⟨rfl, _, T4.out.drop⟩
theorem step_9 (W : World) (p : Dp) (r : Rp) (d : DS) (h : DB W p d) (h' : RDB W r d) (ha : ∀ k ∈ p.all, k ∉ r.all) (o : Oq) (hk : o.k = 9) :
    Calls Try.prog 37 #[.agg #[ptr p.g, ptr r.g], o.val] W fun x W' => x = .returned (.bool true) ∧ ∃ q, TP W W' p r q { d with m := d.m.write true o.a o.off o.v } { d with m := d.m.write true o.a o.off o.v } [] := by
  have T0 := hid (TP.begin h h' ha o)
  have HR := hid (fun w (hw : RDB w r d) => rwrite_any w r.r d.m hw.mem true o.a o.off o.v)
  have HM := hid (fun w d (hw : DB w p d) => memory_any w p d hw)
  have HA := hid (fun w (hw : DB w p d) => write_any w p.f d.m hw.mem true o.a o.off o.v)
  have HNs : Hid ((d.m.write true o.a o.off o.v).ns = d.m.ns) := hid (MS.write_ns _ _ _ _ _)
  have HC0 := hid (fun w (hw : RDB w r d) => hw.c0)
  clear h h' ha
  obtain ⟨k, dd, a, b, t, on, off, v⟩ := o
  simp only at hk
  subst hk
  simp only [Oq.val, Oq.cs, ptr] at *
  go_enter Try.func37, Try.ntmps37
  go_upto_region 1 with fail
  generalize World.alloc _ _ = X at *
  generalize W.heap.size = g2 at *
  generalize g2 + 1 = g3 at *
  obtain ⟨x0, x1⟩ := T0.out.pair 1 rfl
  obtain ⟨y0, y1, y2, y3, y4, y5, y6, y7⟩ := T0.out.op 0 rfl
  generalize hm2 : d.m.write true a off v = m2 at *
  have HM2 := hid hm2
  clear hm2
  generalize d.m.err true a off = f at *
  simp only [fr] at *
  go_upto_region 27 with fail
  clear x0 x1 y0 y1 y2 y3 y4 y5 y6 y7
  have T1 := hid (T0.out.on (Below.refl _ _).drew)
  clear T0
  refine wp_region_held_drew (S := fun w => (Cel w g2 68 [.pointer (some ⟨p.g, 0, none⟩), .pointer (some ⟨r.g, 0, none⟩)] ∧ Cel w g3 29 [.int .i64 9, .int .i64 dd, .int .i64 a, .int .i64 b, .int .i64 t, .bool on, .int .i64 off, .int .u32 v]) ∧ w.cell? ⟨r.g, 0, none⟩ = some (.pointer (some ⟨r.r.g, 0, none⟩))) (by kernel_rfl) ⟨T1.out.hold, HC0.out _ T1.out.doc⟩ (fun hHeld => ?_)
  generalize World.drew _ = w1 at *
  refine wpAnyH_take (i := 0) (oi := { dst := some 167, op := Op.fieldAddr 68 (Operand.tmp 2) 1, type := 0, pos := "law.go:181", after := #[], guard := none }) (v := .pointer (some ⟨g2, 1, none⟩)) rfl (by kernel_rfl) (by kernel_rfl) (by kernel_rfl) (fun _ _ _ h => h) (Or.inl ⟨by rfl, by intro w hSw; go_simp⟩) (by assumption) ?_
  simp only [Act.put, List.setIfInBounds_toArray, List.set_cons_zero, List.set_cons_succ]
  refine wpAnyH_take (i := 1) (oi := { dst := some 168, op := Op.load 66 (Operand.tmp 167), type := 66, pos := "law.go:181", after := #[{ on := 0, ground := Ground.data }], guard := none }) (v := .pointer (some ⟨r.g, 0, none⟩)) rfl (by kernel_rfl) (by kernel_rfl) (by kernel_rfl) (fun _ _ _ h => h) (Or.inl ⟨by rfl, by intro w hSw; have hc : w.cell? ⟨g2, 1, none⟩ = some (.pointer (some ⟨r.g, 0, none⟩)) := hSw.1.1.cell 1; go_simp⟩) (by assumption) ?_
  simp only [Act.put, List.setIfInBounds_toArray, List.set_cons_zero, List.set_cons_succ]
  refine wpAnyH_take (i := 2) (oi := { dst := some 169, op := Op.nilCheck (Operand.tmp 168), type := 0, pos := "law.go:181", after := #[{ on := 1, ground := Ground.data }], guard := none }) (v := .pointer (some ⟨r.g, 0, none⟩)) rfl (by kernel_rfl) (by kernel_rfl) (by kernel_rfl) (fun _ _ _ h => h) (Or.inl ⟨by rfl, by intro w hSw; go_simp⟩) (by assumption) ?_
  simp only [Act.put, List.setIfInBounds_toArray, List.set_cons_zero, List.set_cons_succ]
  refine wpAnyH_take (i := 3) (oi := { dst := some 170, op := Op.fieldAddr 80 (Operand.tmp 169) 0, type := 0, pos := "law.go:181", after := #[{ on := 2, ground := Ground.data }], guard := none }) (v := .pointer (some ⟨r.g, 0, none⟩)) rfl (by kernel_rfl) (by kernel_rfl) (by kernel_rfl) (fun _ _ _ h => h) (Or.inl ⟨by rfl, by intro w hSw; go_simp⟩) (by assumption) ?_
  simp only [Act.put, List.setIfInBounds_toArray, List.set_cons_zero, List.set_cons_succ]
  refine wpAnyH_take (i := 4) (oi := { dst := some 171, op := Op.load 77 (Operand.tmp 170), type := 77, pos := "law.go:181", after := #[{ on := 3, ground := Ground.data }], guard := none }) (v := .pointer (some ⟨r.r.g, 0, none⟩)) rfl (by kernel_rfl) (by kernel_rfl) (by kernel_rfl) (fun _ _ _ h => h) (Or.inl ⟨by rfl, by intro w hSw; have hc := hSw.2; go_simp⟩) (by assumption) ?_
  simp only [Act.put, List.setIfInBounds_toArray, List.set_cons_zero, List.set_cons_succ]
  refine wpAnyH_take (i := 5) (oi := { dst := some 172, op := Op.fieldAddr 29 (Operand.tmp 3) 2, type := 0, pos := "law.go:181", after := #[], guard := none }) (v := .pointer (some ⟨g3, 2, none⟩)) rfl (by kernel_rfl) (by kernel_rfl) (by kernel_rfl) (fun _ _ _ h => h) (Or.inl ⟨by rfl, by intro w hSw; go_simp⟩) (by assumption) ?_
  simp only [Act.put, List.setIfInBounds_toArray, List.set_cons_zero, List.set_cons_succ]
  refine wpAnyH_take (i := 6) (oi := { dst := some 173, op := Op.load 3 (Operand.tmp 172), type := 3, pos := "law.go:181", after := #[{ on := 5, ground := Ground.data }], guard := none }) (v := .int .i64 a) rfl (by kernel_rfl) (by kernel_rfl) (by kernel_rfl) (fun _ _ _ h => h) (Or.inl ⟨by rfl, by intro w hSw; have hc : w.cell? ⟨g3, 2, none⟩ = some (.int .i64 a) := hSw.1.2.cell 2; go_simp⟩) (by assumption) ?_
  simp only [Act.put, List.setIfInBounds_toArray, List.set_cons_zero, List.set_cons_succ]
  refine wpAnyH_take (i := 7) (oi := { dst := some 174, op := Op.build 121 #[(0, Operand.const (Value.bool true)), (1, Operand.tmp 173)], type := 121, pos := "law.go:181", after := #[{ on := 6, ground := Ground.data }], guard := none }) (v := .agg #[.bool true, .int .i64 a]) rfl (by kernel_rfl) (by kernel_rfl) (by kernel_rfl) (fun _ _ _ h => h) (Or.inl ⟨by rfl, by intro w hSw; go_simp⟩) (by assumption) ?_
  simp only [Act.put, List.setIfInBounds_toArray, List.set_cons_zero, List.set_cons_succ]
  refine wpAnyH_take (i := 8) (oi := { dst := some 175, op := Op.fieldAddr 29 (Operand.tmp 3) 6, type := 0, pos := "law.go:181", after := #[], guard := none }) (v := .pointer (some ⟨g3, 6, none⟩)) rfl (by kernel_rfl) (by kernel_rfl) (by kernel_rfl) (fun _ _ _ h => h) (Or.inl ⟨by rfl, by intro w hSw; go_simp⟩) (by assumption) ?_
  simp only [Act.put, List.setIfInBounds_toArray, List.set_cons_zero, List.set_cons_succ]
  refine wpAnyH_take (i := 9) (oi := { dst := some 176, op := Op.load 3 (Operand.tmp 175), type := 3, pos := "law.go:181", after := #[{ on := 8, ground := Ground.data }], guard := none }) (v := .int .i64 off) rfl (by kernel_rfl) (by kernel_rfl) (by kernel_rfl) (fun _ _ _ h => h) (Or.inl ⟨by rfl, by intro w hSw; have hc : w.cell? ⟨g3, 6, none⟩ = some (.int .i64 off) := hSw.1.2.cell 6; go_simp⟩) (by assumption) ?_
  simp only [Act.put, List.setIfInBounds_toArray, List.set_cons_zero, List.set_cons_succ]
  refine wpAnyH_take (i := 10) (oi := { dst := some 177, op := Op.fieldAddr 29 (Operand.tmp 3) 7, type := 0, pos := "law.go:181", after := #[], guard := none }) (v := .pointer (some ⟨g3, 7, none⟩)) rfl (by kernel_rfl) (by kernel_rfl) (by kernel_rfl) (fun _ _ _ h => h) (Or.inl ⟨by rfl, by intro w hSw; go_simp⟩) (by assumption) ?_
  simp only [Act.put, List.setIfInBounds_toArray, List.set_cons_zero, List.set_cons_succ]
  refine wpAnyH_take (i := 11) (oi := { dst := some 178, op := Op.load 27 (Operand.tmp 177), type := 27, pos := "law.go:181", after := #[{ on := 10, ground := Ground.data }], guard := none }) (v := .int .u32 v) rfl (by kernel_rfl) (by kernel_rfl) (by kernel_rfl) (fun _ _ _ h => h) (Or.inl ⟨by rfl, by intro w hSw; have hc : w.cell? ⟨g3, 7, none⟩ = some (.int .u32 v) := hSw.1.2.cell 7; go_simp⟩) (by assumption) ?_
  simp only [Act.put, List.setIfInBounds_toArray, List.set_cons_zero, List.set_cons_succ]
  refine wpAnyH_ready (rs := [12]) (by kernel_rfl) (by simp) (AllReadyH.cons (o := { dst := some 179, op := Op.call { callee := Callee.value (Operand.func 79), args := #[Operand.tmp 171, Operand.tmp 174, Operand.tmp 176, Operand.tmp 178], argTypes := #[77, 121, 3, 27] }, type := 3, pos := "law.go:181", after := #[{ on := 4, ground := Ground.data }, { on := 7, ground := Ground.data }, { on := 9, ground := Ground.data }, { on := 11, ground := Ground.data }], guard := none }) rfl (fun KQ hK => ?_) AllReadyH.nil)
  go_simp
  refine (HR.out _ T1.out.doc).mono ?_
  rintro e w2 ⟨rfl, r2, hs⟩
  have HG := hid hs.g
  have T2 := hid (T1.out.memR hs HNs.out)
  clear hs T1
  go_wp2_with fail
  refine hK.out _ _ ⟨T2.out.hold, by have := T2.out.doc.c0; simp only [HG.out] at this; exact this⟩ (fun hHeld => ?_)
  clear hK KQ
  try simp only [Act.put, List.setIfInBounds_toArray, List.set_cons_zero, List.set_cons_succ]
  refine wpAnyH_ready (rs := [13]) (by kernel_rfl) (by simp) (AllReadyH.cons (o := { dst := some 15, op := Op.assign (Operand.tmp 179), type := 3, pos := "law.go:181", after := #[{ on := 12, ground := Ground.data }, { on := 12, ground := Ground.chain }, { on := 0, ground := Ground.phase }, { on := 1, ground := Ground.phase }, { on := 2, ground := Ground.phase }, { on := 3, ground := Ground.phase }, { on := 4, ground := Ground.phase }, { on := 5, ground := Ground.phase }, { on := 6, ground := Ground.phase }, { on := 7, ground := Ground.phase }, { on := 8, ground := Ground.phase }, { on := 9, ground := Ground.phase }, { on := 10, ground := Ground.phase }, { on := 11, ground := Ground.phase }, { on := 12, ground := Ground.phase }], guard := none }) rfl (fun KQ hK => ?_) AllReadyH.nil)
  go_simp
  refine hK.out _ _ ⟨T2.out.hold, by have := T2.out.doc.c0; simp only [HG.out] at this; exact this⟩ (fun hHeld => ?_)
  clear hK KQ
  try simp only [Act.put, List.setIfInBounds_toArray, List.set_cons_zero, List.set_cons_succ]
  refine wpAnyH_done (by kernel_rfl) ?_ _
  have T3 := hid (T2.out.on (Below.refl _ _).drew)
  clear T2
  go_upto_region 28 with fail
  refine wp_region_held_drew (S := fun w => Cel w g2 68 [.pointer (some ⟨p.g, 0, none⟩), .pointer (some ⟨r.g, 0, none⟩)] ∧ Cel w g3 29 [.int .i64 9, .int .i64 dd, .int .i64 a, .int .i64 b, .int .i64 t, .bool on, .int .i64 off, .int .u32 v]) (by kernel_rfl) T3.out.hold (fun hHeld => ?_)
  generalize World.drew _ = w3 at *
  refine wpAnyH_take (i := 0) (oi := { dst := some 180, op := Op.fieldAddr 68 (Operand.tmp 2) 0, type := 0, pos := "law.go:182", after := #[], guard := none }) (v := .pointer (some ⟨g2, 0, none⟩)) rfl (by kernel_rfl) (by kernel_rfl) (by kernel_rfl) (fun _ _ _ h => h) (Or.inl ⟨by rfl, by intro w hSw; go_simp⟩) (by assumption) ?_
  simp only [Act.put, List.setIfInBounds_toArray, List.set_cons_zero, List.set_cons_succ]
  refine wpAnyH_take (i := 1) (oi := { dst := some 181, op := Op.load 23 (Operand.tmp 180), type := 23, pos := "law.go:182", after := #[{ on := 0, ground := Ground.data }], guard := none }) (v := .pointer (some ⟨p.g, 0, none⟩)) rfl (by kernel_rfl) (by kernel_rfl) (by kernel_rfl) (fun _ _ _ h => h) (Or.inl ⟨by rfl, by intro w hSw; have hc : w.cell? ⟨g2, 0, none⟩ = some (.pointer (some ⟨p.g, 0, none⟩)) := hSw.1.cell 0; go_simp⟩) (by assumption) ?_
  simp only [Act.put, List.setIfInBounds_toArray, List.set_cons_zero, List.set_cons_succ]
  refine wpAnyH_take (i := 3) (oi := { dst := some 183, op := Op.fieldAddr 29 (Operand.tmp 3) 2, type := 0, pos := "law.go:182", after := #[], guard := none }) (v := .pointer (some ⟨g3, 2, none⟩)) rfl (by kernel_rfl) (by kernel_rfl) (by kernel_rfl) (fun _ _ _ h => h) (Or.inl ⟨by rfl, by intro w hSw; go_simp⟩) (by assumption) ?_
  simp only [Act.put, List.setIfInBounds_toArray, List.set_cons_zero, List.set_cons_succ]
  refine wpAnyH_take (i := 4) (oi := { dst := some 184, op := Op.load 3 (Operand.tmp 183), type := 3, pos := "law.go:182", after := #[{ on := 3, ground := Ground.data }], guard := none }) (v := .int .i64 a) rfl (by kernel_rfl) (by kernel_rfl) (by kernel_rfl) (fun _ _ _ h => h) (Or.inl ⟨by rfl, by intro w hSw; have hc : w.cell? ⟨g3, 2, none⟩ = some (.int .i64 a) := hSw.2.cell 2; go_simp⟩) (by assumption) ?_
  simp only [Act.put, List.setIfInBounds_toArray, List.set_cons_zero, List.set_cons_succ]
  refine wpAnyH_take (i := 5) (oi := { dst := some 185, op := Op.build 54 #[(0, Operand.const (Value.bool true)), (1, Operand.tmp 184)], type := 54, pos := "law.go:182", after := #[{ on := 4, ground := Ground.data }], guard := none }) (v := .agg #[.bool true, .int .i64 a]) rfl (by kernel_rfl) (by kernel_rfl) (by kernel_rfl) (fun _ _ _ h => h) (Or.inl ⟨by rfl, by intro w hSw; go_simp⟩) (by assumption) ?_
  simp only [Act.put, List.setIfInBounds_toArray, List.set_cons_zero, List.set_cons_succ]
  refine wpAnyH_take (i := 6) (oi := { dst := some 186, op := Op.fieldAddr 29 (Operand.tmp 3) 6, type := 0, pos := "law.go:182", after := #[], guard := none }) (v := .pointer (some ⟨g3, 6, none⟩)) rfl (by kernel_rfl) (by kernel_rfl) (by kernel_rfl) (fun _ _ _ h => h) (Or.inl ⟨by rfl, by intro w hSw; go_simp⟩) (by assumption) ?_
  simp only [Act.put, List.setIfInBounds_toArray, List.set_cons_zero, List.set_cons_succ]
  refine wpAnyH_take (i := 7) (oi := { dst := some 187, op := Op.load 3 (Operand.tmp 186), type := 3, pos := "law.go:182", after := #[{ on := 6, ground := Ground.data }], guard := none }) (v := .int .i64 off) rfl (by kernel_rfl) (by kernel_rfl) (by kernel_rfl) (fun _ _ _ h => h) (Or.inl ⟨by rfl, by intro w hSw; have hc : w.cell? ⟨g3, 6, none⟩ = some (.int .i64 off) := hSw.2.cell 6; go_simp⟩) (by assumption) ?_
  simp only [Act.put, List.setIfInBounds_toArray, List.set_cons_zero, List.set_cons_succ]
  refine wpAnyH_take (i := 8) (oi := { dst := some 188, op := Op.fieldAddr 29 (Operand.tmp 3) 7, type := 0, pos := "law.go:182", after := #[], guard := none }) (v := .pointer (some ⟨g3, 7, none⟩)) rfl (by kernel_rfl) (by kernel_rfl) (by kernel_rfl) (fun _ _ _ h => h) (Or.inl ⟨by rfl, by intro w hSw; go_simp⟩) (by assumption) ?_
  simp only [Act.put, List.setIfInBounds_toArray, List.set_cons_zero, List.set_cons_succ]
  refine wpAnyH_take (i := 9) (oi := { dst := some 189, op := Op.load 27 (Operand.tmp 188), type := 27, pos := "law.go:182", after := #[{ on := 8, ground := Ground.data }], guard := none }) (v := .int .u32 v) rfl (by kernel_rfl) (by kernel_rfl) (by kernel_rfl) (fun _ _ _ h => h) (Or.inl ⟨by rfl, by intro w hSw; have hc : w.cell? ⟨g3, 7, none⟩ = some (.int .u32 v) := hSw.2.cell 7; go_simp⟩) (by assumption) ?_
  simp only [Act.put, List.setIfInBounds_toArray, List.set_cons_zero, List.set_cons_succ]
  refine wpAnyH_take (i := 11) (oi := { dst := some 191, op := Op.move (Operand.tmp 15), type := 3, pos := "law.go:182", after := #[], guard := none }) (v := .int .i64 f) rfl (by kernel_rfl) (by kernel_rfl) (by kernel_rfl) (fun _ _ _ h => h) (Or.inl ⟨by rfl, by intro w hSw; go_simp⟩) (by assumption) ?_
  simp only [Act.put, List.setIfInBounds_toArray, List.set_cons_zero, List.set_cons_succ]
  refine wpAnyH_ready (rs := [2]) (by kernel_rfl) (by simp) (AllReadyH.cons (o := { dst := some 182, op := Op.call { callee := Callee.value (Operand.func 13), args := #[Operand.tmp 181], argTypes := #[23] }, type := 24, pos := "law.go:182", after := #[{ on := 1, ground := Ground.data }], guard := none }) rfl (fun KQ hK => ?_) AllReadyH.nil)
  go_simp
  refine (HM.out _ _ T3.out.own).mono ?_
  rintro e w4 ⟨rfl, hw⟩
  subst w4
  go_wp2_with fail
  refine hK.out _ _ T3.out.hold (fun hHeld => ?_)
  clear hK KQ
  try simp only [Act.put, List.setIfInBounds_toArray, List.set_cons_zero, List.set_cons_succ]
  refine wpAnyH_ready (rs := [10]) (by kernel_rfl) (by simp) (AllReadyH.cons (o := { dst := some 190, op := Op.call { callee := Callee.value (Operand.func 23), args := #[Operand.tmp 182, Operand.tmp 185, Operand.tmp 187, Operand.tmp 189], argTypes := #[24, 54, 3, 27] }, type := 30, pos := "law.go:182", after := #[{ on := 2, ground := Ground.data }, { on := 5, ground := Ground.data }, { on := 7, ground := Ground.data }, { on := 9, ground := Ground.data }, { on := 2, ground := Ground.chain }], guard := none }) rfl (fun KQ hK => ?_) AllReadyH.nil)
  go_simp
  refine (HA.out _ T3.out.own).mono ?_
  rintro e w5 ⟨rfl, hm, hb⟩
  have T5 := hid (T3.out.memA hm hb HNs.out)
  clear hm hb T3
  go_wp2_with fail
  refine hK.out _ _ T5.out.hold (fun hHeld => ?_)
  clear hK KQ
  try simp only [Act.put, List.setIfInBounds_toArray, List.set_cons_zero, List.set_cons_succ]
  refine wpAnyH_take (i := 12) (oi := { dst := some 192, op := Op.binOp BinOp.eql 3 (Operand.tmp 190) (Operand.tmp 191) 3, type := 4, pos := "law.go:182", after := #[{ on := 10, ground := Ground.data }, { on := 11, ground := Ground.data }], guard := none }) (v := .bool true) rfl (by kernel_rfl) (by kernel_rfl) (by kernel_rfl) (fun _ _ _ h => h) (Or.inl ⟨by rfl, by intro w hSw; go_simp⟩) (by assumption) ?_
  simp only [Act.put, List.setIfInBounds_toArray, List.set_cons_zero, List.set_cons_succ]
  refine wpAnyH_ready (rs := [13]) (by kernel_rfl) (by simp) (AllReadyH.cons (o := { dst := some 4, op := Op.assign (Operand.tmp 192), type := 4, pos := "law.go:182", after := #[{ on := 12, ground := Ground.data }, { on := 10, ground := Ground.chain }, { on := 0, ground := Ground.phase }, { on := 1, ground := Ground.phase }, { on := 2, ground := Ground.phase }, { on := 3, ground := Ground.phase }, { on := 4, ground := Ground.phase }, { on := 5, ground := Ground.phase }, { on := 6, ground := Ground.phase }, { on := 7, ground := Ground.phase }, { on := 8, ground := Ground.phase }, { on := 9, ground := Ground.phase }, { on := 10, ground := Ground.phase }, { on := 11, ground := Ground.phase }, { on := 12, ground := Ground.phase }], guard := none }) rfl (fun KQ hK => ?_) AllReadyH.nil)
  go_simp
  refine hK.out _ _ T5.out.hold (fun hHeld => ?_)
  clear hK KQ
  try simp only [Act.put, List.setIfInBounds_toArray, List.set_cons_zero, List.set_cons_succ]
  refine wpAnyH_done (by kernel_rfl) ?_ _
  go_wp2_with fail
  go_ret
  have hT := T5.out.drop
  rw [← HM2.out] at hT
  exact ⟨rfl, _, hT⟩
theorem step_14 (W : World) (p : Dp) (r : Rp) (d : DS) (h : DB W p d) (h' : RDB W r d) (ha : ∀ k ∈ p.all, k ∉ r.all) (o : Oq) (hk : o.k = 14) :
    Calls Try.prog 37 #[.agg #[ptr p.g, ptr r.g], o.val] W fun x W' => x = .returned (.bool true) ∧ ∃ q, TP W W' p r q d d [] := by
  have T0 := hid (TP.begin h h' ha o)
  have HR := hid (fun w (hw : RDB w r d) => rwords_any w r d hw)
  have HA := hid (fun w (hw : DB w p d) => words_any w p d hw)
  have HWs : Hid (d.ws.length = 1 + 2 * d.m.ns) := hid (d.ws_len h.ok)
  have HRg := hid (DS.ws_rg h.ok)
  have HSm : Hid (∀ w ao bo c c' n, WL w ao n d.ws → WL w bo n d.ws → n ≤ 1000000 → Calls Try.prog 15 #[.slice ao n c, .slice bo n c'] w fun e W' => e = .returned (.bool true) ∧ Below w.heap.size w W') := hid (fun w ao bo c c' n hA hB hn => by
    have := sameWords_any w ao bo n n c c' d.ws d.ws hA hB hn
    rw [decide_eq_true rfl] at this
    exact this)
  have HN6 : Hid (1 + 2 * d.m.ns ≤ 1000000) := hid (by have := h.ok.n64; omega)
  have HF := hid (fun w (hw : DB w p d) => free_any w p d hw)
  have HRF := hid (fun w (hw : RDB w r d) => rfree_any w r d hw)
  have HB := hid (fun w (hw : DB w p d) => births_any w p d hw)
  have HRB := hid (fun w (hw : RDB w r d) => rbirths_any w r d hw)
  have HPg := hid (fun w (hw : DB w p d) => pages_any w p d hw)
  have HRP := hid (fun w (hw : RDB w r d) => rpages_any w r d hw)
  clear h h' ha
  obtain ⟨k, dd, a, b, t, on, off, v⟩ := o
  simp only at hk
  subst hk
  simp only [Oq.val, Oq.cs, ptr] at *
  go_enter Try.func37, Try.ntmps37
  go_upto_region 1 with fail
  generalize World.alloc _ _ = X at *
  generalize W.heap.size = g2 at *
  generalize g2 + 1 = g3 at *
  obtain ⟨x0, x1⟩ := T0.out.pair 1 rfl
  obtain ⟨y0, y1, y2, y3, y4, y5, y6, y7⟩ := T0.out.op 0 rfl
  generalize d.free = fz at *
  generalize hn : d.m.ns = n at *
  clear hn
  go_upto_region 30 with fail
  clear x0 x1 y0 y1 y2 y3 y4 y5 y6 y7
  have T1 := hid (T0.out.on (Below.refl _ _).drew)
  clear T0
  refine wp_region_held_drew (S := fun w => Cel w g2 68 [.pointer (some ⟨p.g, 0, none⟩), .pointer (some ⟨r.g, 0, none⟩)] ∧ Cel w g3 29 [.int .i64 14, .int .i64 dd, .int .i64 a, .int .i64 b, .int .i64 t, .bool on, .int .i64 off, .int .u32 v]) (by kernel_rfl) T1.out.hold (fun hHeld => ?_)
  generalize World.drew _ = w1 at *
  refine wpAnyH_take (i := 0) (oi := { dst := some 195, op := Op.fieldAddr 68 (Operand.tmp 2) 0, type := 0, pos := "law.go:184", after := #[], guard := none }) (v := .pointer (some ⟨g2, 0, none⟩)) rfl (by kernel_rfl) (by kernel_rfl) (by kernel_rfl) (fun _ _ _ h => h) (Or.inl ⟨by rfl, by intro w hSw; go_simp⟩) (by assumption) ?_
  simp only [Act.put, List.setIfInBounds_toArray, List.set_cons_zero, List.set_cons_succ]
  refine wpAnyH_take (i := 1) (oi := { dst := some 196, op := Op.load 23 (Operand.tmp 195), type := 23, pos := "law.go:184", after := #[{ on := 0, ground := Ground.data }], guard := none }) (v := .pointer (some ⟨p.g, 0, none⟩)) rfl (by kernel_rfl) (by kernel_rfl) (by kernel_rfl) (fun _ _ _ h => h) (Or.inl ⟨by rfl, by intro w hSw; have hc : w.cell? ⟨g2, 0, none⟩ = some (.pointer (some ⟨p.g, 0, none⟩)) := hSw.1.cell 0; go_simp⟩) (by assumption) ?_
  simp only [Act.put, List.setIfInBounds_toArray, List.set_cons_zero, List.set_cons_succ]
  refine wpAnyH_take (i := 3) (oi := { dst := some 198, op := Op.fieldAddr 68 (Operand.tmp 2) 1, type := 0, pos := "law.go:184", after := #[], guard := none }) (v := .pointer (some ⟨g2, 1, none⟩)) rfl (by kernel_rfl) (by kernel_rfl) (by kernel_rfl) (fun _ _ _ h => h) (Or.inl ⟨by rfl, by intro w hSw; go_simp⟩) (by assumption) ?_
  simp only [Act.put, List.setIfInBounds_toArray, List.set_cons_zero, List.set_cons_succ]
  refine wpAnyH_take (i := 4) (oi := { dst := some 199, op := Op.load 66 (Operand.tmp 198), type := 66, pos := "law.go:184", after := #[{ on := 3, ground := Ground.data }], guard := none }) (v := .pointer (some ⟨r.g, 0, none⟩)) rfl (by kernel_rfl) (by kernel_rfl) (by kernel_rfl) (fun _ _ _ h => h) (Or.inl ⟨by rfl, by intro w hSw; have hc : w.cell? ⟨g2, 1, none⟩ = some (.pointer (some ⟨r.g, 0, none⟩)) := hSw.1.cell 1; go_simp⟩) (by assumption) ?_
  simp only [Act.put, List.setIfInBounds_toArray, List.set_cons_zero, List.set_cons_succ]
  refine wpAnyH_ready (rs := [2]) (by kernel_rfl) (by simp) (AllReadyH.cons (o := { dst := some 197, op := Op.call { callee := Callee.value (Operand.func 9), args := #[Operand.tmp 196], argTypes := #[23] }, type := 32, pos := "law.go:184", after := #[{ on := 1, ground := Ground.data }], guard := none }) rfl (fun KQ hK => ?_) AllReadyH.nil)
  go_simp
  refine (HA.out _ T1.out.own).mono ?_
  rintro e w2 ⟨gn, rfl, hc, hl, hb⟩
  have NA := hid (WL.cel hc (fun _ _ h => h) HWs.out HRg.out)
  have T2 := hid (T1.out.on hb)
  clear hc hl hb T1
  go_wp2_with fail
  refine hK.out _ _ T2.out.hold (fun hHeld => ?_)
  clear hK KQ
  try simp only [Act.put, List.setIfInBounds_toArray, List.set_cons_zero, List.set_cons_succ]
  refine wpAnyH_ready (rs := [5]) (by kernel_rfl) (by simp) (AllReadyH.cons (o := { dst := some 200, op := Op.call { callee := Callee.value (Operand.func 65), args := #[Operand.tmp 199], argTypes := #[66] }, type := 32, pos := "law.go:184", after := #[{ on := 4, ground := Ground.data }, { on := 2, ground := Ground.chain }], guard := none }) rfl (fun KQ hK => ?_) AllReadyH.nil)
  go_simp
  refine (HR.out _ T2.out.doc).mono ?_
  rintro e w3 ⟨v3, rfl, ho⟩
  obtain ⟨bo, cb, rfl, hl⟩ := ho.wl HRg.out
  rw [HWs.out] at hl ⊢
  have NB := hid hl
  have NA2 := hid (NA.out.on ho.below)
  have T3 := hid (T2.out.on ho.below)
  clear ho hl T2 NA
  go_wp2_with fail
  refine hK.out _ _ T3.out.hold (fun hHeld => ?_)
  clear hK KQ
  try simp only [Act.put, List.setIfInBounds_toArray, List.set_cons_zero, List.set_cons_succ]
  refine wpAnyH_ready (rs := [6]) (by kernel_rfl) (by simp) (AllReadyH.cons (o := { dst := some 201, op := Op.call { callee := Callee.value (Operand.func 15), args := #[Operand.tmp 197, Operand.tmp 200], argTypes := #[32, 32] }, type := 4, pos := "law.go:184", after := #[{ on := 2, ground := Ground.data }, { on := 5, ground := Ground.data }, { on := 5, ground := Ground.chain }], guard := none }) rfl (fun KQ hK => ?_) AllReadyH.nil)
  go_simp
  refine (HSm.out _ _ _ _ _ _ NA2.out NB.out HN6.out).mono ?_
  rintro e w4 ⟨rfl, hb⟩
  have T4 := hid (T3.out.on hb)
  clear hb T3 NA2 NB
  go_wp2_with fail
  refine hK.out _ _ T4.out.hold (fun hHeld => ?_)
  clear hK KQ
  try simp only [Act.put, List.setIfInBounds_toArray, List.set_cons_zero, List.set_cons_succ]
  refine wpAnyH_take (i := 7) (oi := { dst := some 202, op := Op.move (Operand.tmp 201), type := 4, pos := "law.go:184", after := #[{ on := 6, ground := Ground.data }, { on := 6, ground := Ground.chain }], guard := none }) (v := .bool true) rfl (by kernel_rfl) (by kernel_rfl) (by kernel_rfl) (fun _ _ _ h => h) (Or.inl ⟨by rfl, by intro w hSw; go_simp⟩) (by assumption) ?_
  simp only [Act.put, List.setIfInBounds_toArray, List.set_cons_zero, List.set_cons_succ]
  refine wpAnyH_take (i := 8) (oi := { dst := some 203, op := Op.fieldAddr 68 (Operand.tmp 2) 0, type := 0, pos := "law.go:184", after := #[{ on := 7, ground := Ground.guard }], guard := some (7, true) }) (v := .pointer (some ⟨g2, 0, none⟩)) rfl (by kernel_rfl) (by kernel_rfl) (by kernel_rfl) (fun _ _ _ h => h) (Or.inl ⟨by rfl, by intro w hSw; go_simp⟩) (by assumption) ?_
  simp only [Act.put, List.setIfInBounds_toArray, List.set_cons_zero, List.set_cons_succ]
  refine wpAnyH_take (i := 9) (oi := { dst := some 204, op := Op.load 23 (Operand.tmp 203), type := 23, pos := "law.go:184", after := #[{ on := 8, ground := Ground.data }, { on := 7, ground := Ground.guard }], guard := some (7, true) }) (v := .pointer (some ⟨p.g, 0, none⟩)) rfl (by kernel_rfl) (by kernel_rfl) (by kernel_rfl) (fun _ _ _ h => h) (Or.inl ⟨by rfl, by intro w hSw; have hc : w.cell? ⟨g2, 0, none⟩ = some (.pointer (some ⟨p.g, 0, none⟩)) := hSw.1.cell 0; go_simp⟩) (by assumption) ?_
  simp only [Act.put, List.setIfInBounds_toArray, List.set_cons_zero, List.set_cons_succ]
  refine wpAnyH_take (i := 11) (oi := { dst := some 206, op := Op.fieldAddr 68 (Operand.tmp 2) 1, type := 0, pos := "law.go:184", after := #[{ on := 7, ground := Ground.guard }], guard := some (7, true) }) (v := .pointer (some ⟨g2, 1, none⟩)) rfl (by kernel_rfl) (by kernel_rfl) (by kernel_rfl) (fun _ _ _ h => h) (Or.inl ⟨by rfl, by intro w hSw; go_simp⟩) (by assumption) ?_
  simp only [Act.put, List.setIfInBounds_toArray, List.set_cons_zero, List.set_cons_succ]
  refine wpAnyH_take (i := 12) (oi := { dst := some 207, op := Op.load 66 (Operand.tmp 206), type := 66, pos := "law.go:184", after := #[{ on := 11, ground := Ground.data }, { on := 7, ground := Ground.guard }], guard := some (7, true) }) (v := .pointer (some ⟨r.g, 0, none⟩)) rfl (by kernel_rfl) (by kernel_rfl) (by kernel_rfl) (fun _ _ _ h => h) (Or.inl ⟨by rfl, by intro w hSw; have hc : w.cell? ⟨g2, 1, none⟩ = some (.pointer (some ⟨r.g, 0, none⟩)) := hSw.1.cell 1; go_simp⟩) (by assumption) ?_
  simp only [Act.put, List.setIfInBounds_toArray, List.set_cons_zero, List.set_cons_succ]
  refine wpAnyH_ready (rs := [10]) (by kernel_rfl) (by simp) (AllReadyH.cons (o := { dst := some 205, op := Op.call { callee := Callee.value (Operand.func 16), args := #[Operand.tmp 204], argTypes := #[23] }, type := 3, pos := "law.go:184", after := #[{ on := 9, ground := Ground.data }, { on := 7, ground := Ground.chain }, { on := 7, ground := Ground.guard }], guard := some (7, true) }) rfl (fun KQ hK => ?_) AllReadyH.nil)
  go_simp
  refine (HF.out _ T4.out.own).mono ?_
  rintro e w5 ⟨rfl, hb⟩
  have T5 := hid (T4.out.on hb)
  clear hb T4
  go_wp2_with fail
  refine hK.out _ _ T5.out.hold (fun hHeld => ?_)
  clear hK KQ
  try simp only [Act.put, List.setIfInBounds_toArray, List.set_cons_zero, List.set_cons_succ]
  refine wpAnyH_ready (rs := [13]) (by kernel_rfl) (by simp) (AllReadyH.cons (o := { dst := some 208, op := Op.call { callee := Callee.value (Operand.func 80), args := #[Operand.tmp 207], argTypes := #[66] }, type := 3, pos := "law.go:184", after := #[{ on := 12, ground := Ground.data }, { on := 10, ground := Ground.chain }, { on := 7, ground := Ground.guard }], guard := some (7, true) }) rfl (fun KQ hK => ?_) AllReadyH.nil)
  go_simp
  refine (HRF.out _ T5.out.doc).mono ?_
  rintro e w6 ⟨rfl, hw⟩
  subst w6
  go_wp2_with fail
  refine hK.out _ _ T5.out.hold (fun hHeld => ?_)
  clear hK KQ
  try simp only [Act.put, List.setIfInBounds_toArray, List.set_cons_zero, List.set_cons_succ]
  refine wpAnyH_take (i := 14) (oi := { dst := some 209, op := Op.binOp BinOp.eql 3 (Operand.tmp 205) (Operand.tmp 208) 3, type := 4, pos := "law.go:184", after := #[{ on := 10, ground := Ground.data }, { on := 13, ground := Ground.data }, { on := 7, ground := Ground.guard }], guard := some (7, true) }) (v := .bool true) rfl (by kernel_rfl) (by kernel_rfl) (by kernel_rfl) (fun _ _ _ h => h) (Or.inl ⟨by rfl, by intro w hSw; go_simp⟩) (by assumption) ?_
  simp only [Act.put, List.setIfInBounds_toArray, List.set_cons_zero, List.set_cons_succ]
  refine wpAnyH_take (i := 15) (oi := { dst := some 210, op := Op.pick (Operand.tmp 202) (Operand.tmp 209) (Operand.const (Value.bool false)), type := 4, pos := "law.go:184", after := #[{ on := 7, ground := Ground.data }, { on := 14, ground := Ground.data }], guard := none }) (v := .bool true) rfl (by kernel_rfl) (by kernel_rfl) (by kernel_rfl) (fun _ _ _ h => h) (Or.inl ⟨by rfl, by intro w hSw; go_simp⟩) (by assumption) ?_
  simp only [Act.put, List.setIfInBounds_toArray, List.set_cons_zero, List.set_cons_succ]
  refine wpAnyH_take (i := 16) (oi := { dst := some 211, op := Op.move (Operand.tmp 210), type := 4, pos := "law.go:184", after := #[{ on := 15, ground := Ground.data }, { on := 13, ground := Ground.chain }], guard := none }) (v := .bool true) rfl (by kernel_rfl) (by kernel_rfl) (by kernel_rfl) (fun _ _ _ h => h) (Or.inl ⟨by rfl, by intro w hSw; go_simp⟩) (by assumption) ?_
  simp only [Act.put, List.setIfInBounds_toArray, List.set_cons_zero, List.set_cons_succ]
  refine wpAnyH_take (i := 17) (oi := { dst := some 212, op := Op.fieldAddr 68 (Operand.tmp 2) 0, type := 0, pos := "law.go:184", after := #[{ on := 16, ground := Ground.guard }], guard := some (16, true) }) (v := .pointer (some ⟨g2, 0, none⟩)) rfl (by kernel_rfl) (by kernel_rfl) (by kernel_rfl) (fun _ _ _ h => h) (Or.inl ⟨by rfl, by intro w hSw; go_simp⟩) (by assumption) ?_
  simp only [Act.put, List.setIfInBounds_toArray, List.set_cons_zero, List.set_cons_succ]
  refine wpAnyH_take (i := 18) (oi := { dst := some 213, op := Op.load 23 (Operand.tmp 212), type := 23, pos := "law.go:184", after := #[{ on := 17, ground := Ground.data }, { on := 16, ground := Ground.guard }], guard := some (16, true) }) (v := .pointer (some ⟨p.g, 0, none⟩)) rfl (by kernel_rfl) (by kernel_rfl) (by kernel_rfl) (fun _ _ _ h => h) (Or.inl ⟨by rfl, by intro w hSw; have hc : w.cell? ⟨g2, 0, none⟩ = some (.pointer (some ⟨p.g, 0, none⟩)) := hSw.1.cell 0; go_simp⟩) (by assumption) ?_
  simp only [Act.put, List.setIfInBounds_toArray, List.set_cons_zero, List.set_cons_succ]
  refine wpAnyH_take (i := 20) (oi := { dst := some 215, op := Op.fieldAddr 68 (Operand.tmp 2) 1, type := 0, pos := "law.go:184", after := #[{ on := 16, ground := Ground.guard }], guard := some (16, true) }) (v := .pointer (some ⟨g2, 1, none⟩)) rfl (by kernel_rfl) (by kernel_rfl) (by kernel_rfl) (fun _ _ _ h => h) (Or.inl ⟨by rfl, by intro w hSw; go_simp⟩) (by assumption) ?_
  simp only [Act.put, List.setIfInBounds_toArray, List.set_cons_zero, List.set_cons_succ]
  refine wpAnyH_take (i := 21) (oi := { dst := some 216, op := Op.load 66 (Operand.tmp 215), type := 66, pos := "law.go:184", after := #[{ on := 20, ground := Ground.data }, { on := 16, ground := Ground.guard }], guard := some (16, true) }) (v := .pointer (some ⟨r.g, 0, none⟩)) rfl (by kernel_rfl) (by kernel_rfl) (by kernel_rfl) (fun _ _ _ h => h) (Or.inl ⟨by rfl, by intro w hSw; have hc : w.cell? ⟨g2, 1, none⟩ = some (.pointer (some ⟨r.g, 0, none⟩)) := hSw.1.cell 1; go_simp⟩) (by assumption) ?_
  simp only [Act.put, List.setIfInBounds_toArray, List.set_cons_zero, List.set_cons_succ]
  refine wpAnyH_ready (rs := [19]) (by kernel_rfl) (by simp) (AllReadyH.cons (o := { dst := some 214, op := Op.call { callee := Callee.value (Operand.func 17), args := #[Operand.tmp 213], argTypes := #[23] }, type := 3, pos := "law.go:184", after := #[{ on := 18, ground := Ground.data }, { on := 16, ground := Ground.chain }, { on := 16, ground := Ground.guard }], guard := some (16, true) }) rfl (fun KQ hK => ?_) AllReadyH.nil)
  go_simp
  refine (HB.out _ T5.out.own).mono ?_
  rintro e w7 ⟨rfl, hw⟩
  subst w7
  go_wp2_with fail
  refine hK.out _ _ T5.out.hold (fun hHeld => ?_)
  clear hK KQ
  try simp only [Act.put, List.setIfInBounds_toArray, List.set_cons_zero, List.set_cons_succ]
  refine wpAnyH_ready (rs := [22]) (by kernel_rfl) (by simp) (AllReadyH.cons (o := { dst := some 217, op := Op.call { callee := Callee.value (Operand.func 81), args := #[Operand.tmp 216], argTypes := #[66] }, type := 3, pos := "law.go:184", after := #[{ on := 21, ground := Ground.data }, { on := 19, ground := Ground.chain }, { on := 16, ground := Ground.guard }], guard := some (16, true) }) rfl (fun KQ hK => ?_) AllReadyH.nil)
  go_simp
  refine (HRB.out _ T5.out.doc).mono ?_
  rintro e w8 ⟨rfl, hw⟩
  subst w8
  go_wp2_with fail
  refine hK.out _ _ T5.out.hold (fun hHeld => ?_)
  clear hK KQ
  try simp only [Act.put, List.setIfInBounds_toArray, List.set_cons_zero, List.set_cons_succ]
  refine wpAnyH_take (i := 23) (oi := { dst := some 218, op := Op.binOp BinOp.eql 3 (Operand.tmp 214) (Operand.tmp 217) 3, type := 4, pos := "law.go:184", after := #[{ on := 19, ground := Ground.data }, { on := 22, ground := Ground.data }, { on := 16, ground := Ground.guard }], guard := some (16, true) }) (v := .bool true) rfl (by kernel_rfl) (by kernel_rfl) (by kernel_rfl) (fun _ _ _ h => h) (Or.inl ⟨by rfl, by intro w hSw; go_simp⟩) (by assumption) ?_
  simp only [Act.put, List.setIfInBounds_toArray, List.set_cons_zero, List.set_cons_succ]
  refine wpAnyH_take (i := 24) (oi := { dst := some 219, op := Op.pick (Operand.tmp 211) (Operand.tmp 218) (Operand.const (Value.bool false)), type := 4, pos := "law.go:184", after := #[{ on := 16, ground := Ground.data }, { on := 23, ground := Ground.data }], guard := none }) (v := .bool true) rfl (by kernel_rfl) (by kernel_rfl) (by kernel_rfl) (fun _ _ _ h => h) (Or.inl ⟨by rfl, by intro w hSw; go_simp⟩) (by assumption) ?_
  simp only [Act.put, List.setIfInBounds_toArray, List.set_cons_zero, List.set_cons_succ]
  refine wpAnyH_take (i := 25) (oi := { dst := some 220, op := Op.move (Operand.tmp 219), type := 4, pos := "law.go:184", after := #[{ on := 24, ground := Ground.data }, { on := 22, ground := Ground.chain }], guard := none }) (v := .bool true) rfl (by kernel_rfl) (by kernel_rfl) (by kernel_rfl) (fun _ _ _ h => h) (Or.inl ⟨by rfl, by intro w hSw; go_simp⟩) (by assumption) ?_
  simp only [Act.put, List.setIfInBounds_toArray, List.set_cons_zero, List.set_cons_succ]
  refine wpAnyH_take (i := 26) (oi := { dst := some 221, op := Op.fieldAddr 68 (Operand.tmp 2) 0, type := 0, pos := "law.go:184", after := #[{ on := 25, ground := Ground.guard }], guard := some (25, true) }) (v := .pointer (some ⟨g2, 0, none⟩)) rfl (by kernel_rfl) (by kernel_rfl) (by kernel_rfl) (fun _ _ _ h => h) (Or.inl ⟨by rfl, by intro w hSw; go_simp⟩) (by assumption) ?_
  simp only [Act.put, List.setIfInBounds_toArray, List.set_cons_zero, List.set_cons_succ]
  refine wpAnyH_take (i := 27) (oi := { dst := some 222, op := Op.load 23 (Operand.tmp 221), type := 23, pos := "law.go:184", after := #[{ on := 26, ground := Ground.data }, { on := 25, ground := Ground.guard }], guard := some (25, true) }) (v := .pointer (some ⟨p.g, 0, none⟩)) rfl (by kernel_rfl) (by kernel_rfl) (by kernel_rfl) (fun _ _ _ h => h) (Or.inl ⟨by rfl, by intro w hSw; have hc : w.cell? ⟨g2, 0, none⟩ = some (.pointer (some ⟨p.g, 0, none⟩)) := hSw.1.cell 0; go_simp⟩) (by assumption) ?_
  simp only [Act.put, List.setIfInBounds_toArray, List.set_cons_zero, List.set_cons_succ]
  refine wpAnyH_take (i := 29) (oi := { dst := some 224, op := Op.fieldAddr 68 (Operand.tmp 2) 1, type := 0, pos := "law.go:184", after := #[{ on := 25, ground := Ground.guard }], guard := some (25, true) }) (v := .pointer (some ⟨g2, 1, none⟩)) rfl (by kernel_rfl) (by kernel_rfl) (by kernel_rfl) (fun _ _ _ h => h) (Or.inl ⟨by rfl, by intro w hSw; go_simp⟩) (by assumption) ?_
  simp only [Act.put, List.setIfInBounds_toArray, List.set_cons_zero, List.set_cons_succ]
  refine wpAnyH_take (i := 30) (oi := { dst := some 225, op := Op.load 66 (Operand.tmp 224), type := 66, pos := "law.go:184", after := #[{ on := 29, ground := Ground.data }, { on := 25, ground := Ground.guard }], guard := some (25, true) }) (v := .pointer (some ⟨r.g, 0, none⟩)) rfl (by kernel_rfl) (by kernel_rfl) (by kernel_rfl) (fun _ _ _ h => h) (Or.inl ⟨by rfl, by intro w hSw; have hc : w.cell? ⟨g2, 1, none⟩ = some (.pointer (some ⟨r.g, 0, none⟩)) := hSw.1.cell 1; go_simp⟩) (by assumption) ?_
  simp only [Act.put, List.setIfInBounds_toArray, List.set_cons_zero, List.set_cons_succ]
  refine wpAnyH_ready (rs := [28]) (by kernel_rfl) (by simp) (AllReadyH.cons (o := { dst := some 223, op := Op.call { callee := Callee.value (Operand.func 46), args := #[Operand.tmp 222], argTypes := #[23] }, type := 3, pos := "law.go:184", after := #[{ on := 27, ground := Ground.data }, { on := 25, ground := Ground.chain }, { on := 25, ground := Ground.guard }], guard := some (25, true) }) rfl (fun KQ hK => ?_) AllReadyH.nil)
  go_simp
  refine (HPg.out _ T5.out.own).mono ?_
  rintro e w9 ⟨rfl, hw⟩
  subst w9
  go_wp2_with fail
  refine hK.out _ _ T5.out.hold (fun hHeld => ?_)
  clear hK KQ
  try simp only [Act.put, List.setIfInBounds_toArray, List.set_cons_zero, List.set_cons_succ]
  refine wpAnyH_ready (rs := [31]) (by kernel_rfl) (by simp) (AllReadyH.cons (o := { dst := some 226, op := Op.call { callee := Callee.value (Operand.func 82), args := #[Operand.tmp 225], argTypes := #[66] }, type := 3, pos := "law.go:184", after := #[{ on := 30, ground := Ground.data }, { on := 28, ground := Ground.chain }, { on := 25, ground := Ground.guard }], guard := some (25, true) }) rfl (fun KQ hK => ?_) AllReadyH.nil)
  go_simp
  refine (HRP.out _ T5.out.doc).mono ?_
  rintro e wa ⟨rfl, hw⟩
  subst wa
  go_wp2_with fail
  refine hK.out _ _ T5.out.hold (fun hHeld => ?_)
  clear hK KQ
  try simp only [Act.put, List.setIfInBounds_toArray, List.set_cons_zero, List.set_cons_succ]
  refine wpAnyH_take (i := 32) (oi := { dst := some 227, op := Op.binOp BinOp.eql 3 (Operand.tmp 223) (Operand.tmp 226) 3, type := 4, pos := "law.go:184", after := #[{ on := 28, ground := Ground.data }, { on := 31, ground := Ground.data }, { on := 25, ground := Ground.guard }], guard := some (25, true) }) (v := .bool true) rfl (by kernel_rfl) (by kernel_rfl) (by kernel_rfl) (fun _ _ _ h => h) (Or.inl ⟨by rfl, by intro w hSw; go_simp⟩) (by assumption) ?_
  simp only [Act.put, List.setIfInBounds_toArray, List.set_cons_zero, List.set_cons_succ]
  refine wpAnyH_take (i := 33) (oi := { dst := some 228, op := Op.pick (Operand.tmp 220) (Operand.tmp 227) (Operand.const (Value.bool false)), type := 4, pos := "law.go:184", after := #[{ on := 25, ground := Ground.data }, { on := 32, ground := Ground.data }], guard := none }) (v := .bool true) rfl (by kernel_rfl) (by kernel_rfl) (by kernel_rfl) (fun _ _ _ h => h) (Or.inl ⟨by rfl, by intro w hSw; go_simp⟩) (by assumption) ?_
  simp only [Act.put, List.setIfInBounds_toArray, List.set_cons_zero, List.set_cons_succ]
  refine wpAnyH_ready (rs := [34]) (by kernel_rfl) (by simp) (AllReadyH.cons (o := { dst := some 4, op := Op.assign (Operand.tmp 228), type := 4, pos := "law.go:184", after := #[{ on := 33, ground := Ground.data }, { on := 31, ground := Ground.chain }, { on := 0, ground := Ground.phase }, { on := 1, ground := Ground.phase }, { on := 2, ground := Ground.phase }, { on := 3, ground := Ground.phase }, { on := 4, ground := Ground.phase }, { on := 5, ground := Ground.phase }, { on := 6, ground := Ground.phase }, { on := 7, ground := Ground.phase }, { on := 8, ground := Ground.phase }, { on := 9, ground := Ground.phase }, { on := 10, ground := Ground.phase }, { on := 11, ground := Ground.phase }, { on := 12, ground := Ground.phase }, { on := 13, ground := Ground.phase }, { on := 14, ground := Ground.phase }, { on := 15, ground := Ground.phase }, { on := 16, ground := Ground.phase }, { on := 17, ground := Ground.phase }, { on := 18, ground := Ground.phase }, { on := 19, ground := Ground.phase }, { on := 20, ground := Ground.phase }, { on := 21, ground := Ground.phase }, { on := 22, ground := Ground.phase }, { on := 23, ground := Ground.phase }, { on := 24, ground := Ground.phase }, { on := 25, ground := Ground.phase }, { on := 26, ground := Ground.phase }, { on := 27, ground := Ground.phase }, { on := 28, ground := Ground.phase }, { on := 29, ground := Ground.phase }, { on := 30, ground := Ground.phase }, { on := 31, ground := Ground.phase }, { on := 32, ground := Ground.phase }, { on := 33, ground := Ground.phase }], guard := none }) rfl (fun KQ hK => ?_) AllReadyH.nil)
  go_simp
  refine hK.out _ _ T5.out.hold (fun hHeld => ?_)
  clear hK KQ
  try simp only [Act.put, List.setIfInBounds_toArray, List.set_cons_zero, List.set_cons_succ]
  refine wpAnyH_done (by kernel_rfl) ?_ _
  go_wp2_with fail
  go_ret
  exact ⟨rfl, _, T5.out.drop⟩
theorem step_0 (W : World) (p : Dp) (r : Rp) (d : DS) (h : DB W p d) (h' : RDB W r d) (ha : ∀ k ∈ p.all, k ∉ r.all) (o : Oq) (hk : ¬ (1 ≤ o.k ∧ o.k ≤ 9)) (hk2 : o.k ≠ 14) :
    Calls Try.prog 37 #[.agg #[ptr p.g, ptr r.g], o.val] W fun x W' => x = .returned (.bool true) ∧ ∃ q, TP W W' p r q d d [] := by
  have T0 := hid (TP.begin h h' ha o)
  clear h h' ha
  obtain ⟨k, dd, a, b, t, on, off, v⟩ := o
  simp only at hk hk2
  have k1 : (k == 1) = false := by rw [beq_eq_false_iff_ne]; omega
  have k2 : (k == 2) = false := by rw [beq_eq_false_iff_ne]; omega
  have k3 : (k == 3) = false := by rw [beq_eq_false_iff_ne]; omega
  have k4 : (k == 4) = false := by rw [beq_eq_false_iff_ne]; omega
  have k5 : (k == 5) = false := by rw [beq_eq_false_iff_ne]; omega
  have k6 : (k == 6) = false := by rw [beq_eq_false_iff_ne]; omega
  have k7 : (k == 7) = false := by rw [beq_eq_false_iff_ne]; omega
  have k8 : (k == 8) = false := by rw [beq_eq_false_iff_ne]; omega
  have k9 : (k == 9) = false := by rw [beq_eq_false_iff_ne]; omega
  have k14 : (k == 14) = false := by rw [beq_eq_false_iff_ne]; exact hk2
  clear hk hk2
  simp only [Oq.val, Oq.cs, ptr] at *
  go_enter Try.func37, Try.ntmps37
  go_upto_region 1 with fail
  generalize World.alloc _ _ = X at *
  generalize W.heap.size = g2 at *
  generalize g2 + 1 = g3 at *
  obtain ⟨y0, y1, y2, y3, y4, y5, y6, y7⟩ := T0.out.op 0 rfl
  go_wp2_with fail
  go_ret
  exact ⟨rfl, _, T0.out.drop⟩
theorem step_any (W : World) (p : Dp) (r : Rp) (d : DS) (h : DB W p d) (h' : RDB W r d) (ha : ∀ k ∈ p.all, k ∉ r.all) (o : Oq) :
    Calls Try.prog 37 #[.agg #[ptr p.g, ptr r.g], o.val] W fun x W' => x = .returned (.bool true) ∧ ∃ q, TP W W' p r q (d.step o) (d.step o) [] := by
  unfold DS.step DS.call
  by_cases h9 : o.k = 9
  · rw [if_pos h9]; exact step_9 W p r d h h' ha o h9
  rw [if_neg h9]
  by_cases hc : 1 ≤ o.k ∧ o.k ≤ 6
  · rw [if_pos hc]
    by_cases h1 : o.k = 1
    · rw [if_pos h1]; exact step_1 W p r d h h' ha o h1
    rw [if_neg h1]
    by_cases h2 : o.k = 2
    · rw [if_pos h2]; exact step_2 W p r d h h' ha o h2
    rw [if_neg h2]
    by_cases h3 : o.k = 3
    · rw [if_pos h3]; exact step_3 W p r d h h' ha o h3
    rw [if_neg h3]
    by_cases h4 : o.k = 4
    · rw [if_pos h4]; exact step_4 W p r d h h' ha o h4
    rw [if_neg h4]
    by_cases h5 : o.k = 5
    · rw [if_pos h5]; exact step_5 W p r d h h' ha o h5
    rw [if_neg h5]
    exact step_6 W p r d h h' ha o (by omega)
  · rw [if_neg hc]
    by_cases h7 : o.k = 7
    · exact step_7 W p r d h h' ha o h7
    by_cases h8 : o.k = 8
    · exact step_8 W p r d h h' ha o h8
    by_cases h14 : o.k = 14
    · exact step_14 W p r d h h' ha o h14
    exact step_0 W p r d h h' ha o (by omega) h14
end Go.Proofs.Ytajkhkaidjjioaa
