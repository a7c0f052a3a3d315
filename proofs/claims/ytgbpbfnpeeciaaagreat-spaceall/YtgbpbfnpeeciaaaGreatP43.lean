import Derived.Test.YtgbpbfnpeeciaaaGreatP37
import Derived.Test.YtgbpbfnpeeciaaaGreatP01
import Derived.Test.YtgbpbfnpeeciaaaGreatP39
import Derived.Test.YtgbpbfnpeeciaaaGreatP42
import Derived.Test.YtgbpbfnpeeciaaaGreatP32
import Derived.Test.YtgbpbfnpeeciaaaGreatP33
namespace Go.Proofs.YtgbpbfnpeeciaaaGreat
open Go.RowKit
set_option maxHeartbeats 4000000
set_option maxRecDepth 100000
theorem TP.boxput {W w w' : World} {p : Dp} {r q : Rp} {d e : DS} {L : List (Nat × TypeId × List Value)} {t : TypeId} {cs es : List Value} (h : TP W w p r q d e L) (hc : Cel w' w.heap.size t es) (hb : ButL [w.heap.size] (w.alloc (.cells cs.toArray t)) w') : TP W w' p r q d e ((w.heap.size, t, es) :: L) :=
  (h.box t cs).put (fun x hx => by have := (h.bag x hx).lt; omega) hc hb
def DS.lst (d : DS) (s : Int) : List (Int × Mp) := if d.folE s = 0 then d.lsn s 256 else []
theorem DS.lst_len (d : DS) (s : Int) : (d.lst s).length ≤ 1000000 := by
  unfold DS.lst
  split
  · have := d.lsn_len s 256; omega
  · simp
theorem rowq_nil (w : World) : RowQ w none [] := fun k x hk => by simp at hk
theorem list_p (w : World) (p : Dp) (d : DS) (h : DB w p d) (hU : d.m.U) (s : Int) :
    Calls Tryz.prog 42 #[ptr p.g, .int .i64 s] w fun x w' => ∃ ao c d', x = .returned (.tuple #[.slice ao (d.lst s).length c, .int .i64 (d.folE s)]) ∧ RowQ w' ao (d.lst s) ∧ DB w' p d' ∧ DS.Sim d d' ∧ ButL p.f.w w w' :=
  (list2_any w p d h hU s).mono fun x w' hx => by
    unfold DS.lst
    rcases hx with ⟨hf, rfl, hd, hb⟩ | ⟨hf, v, c, rfl, ho, hd, hb⟩
    · rw [if_neg hf]
      exact ⟨none, 0, _, rfl, rowq_nil _, hd, .folD d s, hb⟩
    · rw [if_pos hf, hf]
      obtain ⟨ao, c', rfl, hq⟩ := RowQ.of ho
      exact ⟨ao, c', _, rfl, hq, hd, ⟨rfl, rfl, rfl, rfl⟩, hb⟩
theorem list_r (w : World) (q : Rp) (d e : DS) (hs : DS.Sim d e) (h : RDB w q e) (hU : d.m.U) (s : Int) :
    Calls Tryz.prog 43 #[ptr q.g, .int .i64 s] w fun x w' => ∃ ao c, x = .returned (.tuple #[.slice ao (d.lst s).length c, .int .i64 (d.folE s)]) ∧ RowQ w' ao (d.lst s) ∧ Below w.heap.size w w' :=
  (rlist_any w q e h (hs.U hU) s).mono fun x w' hx => by
    unfold DS.lst
    rw [hs.folE] at hx
    rcases hx with ⟨hf, rfl, hb⟩ | ⟨hf, v, rfl, ho⟩
    · rw [if_neg hf]
      exact ⟨none, 0, rfl, rowq_nil _, hb⟩
    · rw [if_pos hf, hf]
      rw [hs.rlst, lsn_rlst hf 256 (Nat.le_refl _)] at ho
      obtain ⟨ao, c', rfl, hq⟩ := RowQ.of ho.own
      exact ⟨ao, c', rfl, hq, ho.below⟩
theorem ask_1 (W w : World) (p : Dp) (r q : Rp) (d e : DS) (gs : Nat) (h : SX W w p r q d e gs) (o : Oq) (hk : o.k = 1) (v0 : 0 ≤ o.v) (v1 : o.v < 4294967296) :
    Calls Tryz.prog 7 #[.pointer (some ⟨gs, 0, none⟩), o.val] w fun x w' => x = .returned (.bool true) ∧ ∃ q', SX W w' p r q' (d) (e) gs := by
  have T0 := hid (h.begin o)
  have HG : q.g = r.g := h.tp.g
  have hs := h.sim
  have hu := h.u
  have hue := hs.U hu
  have hok := h.tp.own.ok
  have H1 : Hid (∀ w, Calls Tryz.prog 13 #[.agg #[.int .u32 o.v, .bool o.m.wr, .bool o.m.ex]] w fun x W' => x = .returned (.tuple #[.int .u32 (Gm.w ⟨o.v, o.m.wr, o.m.ex⟩), .int .i64 (Gm.e ⟨o.v, o.m.wr, o.m.ex⟩)]) ∧ Below w.heap.size w W') := hid (fun w => word_any w ⟨o.v, o.m.wr, o.m.ex⟩ v0 v1)
  have H2 : Hid (∀ w, Calls Tryz.prog 27 #[.agg #[.int .u32 o.v, .bool o.m.wr, .bool o.m.ex]] w fun x W' => x = .returned (.tuple #[.int .u32 (Gm.w ⟨o.v, o.m.wr, o.m.ex⟩), .int .i64 (Gm.e ⟨o.v, o.m.wr, o.m.ex⟩)]) ∧ Below w.heap.size w W') := hid (fun w => rword_any w ⟨o.v, o.m.wr, o.m.ex⟩ v0 v1)
  have HX := hid (And.intro hs hu)
  clear h hu hs hok HG hue v0 v1
  obtain ⟨k, a, b, c, v, m, on⟩ := o
  simp only at hk
  subst hk
  simp only [Oq.val, Oq.cs, sdC] at *
  generalize Gm.w ⟨v, m.wr, m.ex⟩ = gw at *
  generalize Gm.e ⟨v, m.wr, m.ex⟩ = ge at *
  go_enter Tryz.func7, Tryz.ntmps7
  go_upto_region 1 with fail
  generalize World.alloc _ _ = X at *
  generalize w.heap.size = g3 at *
  obtain ⟨y0, y1, y2, y3, y4, y5, y6, y7, y8, y9⟩ := T0.out.ocl
  go_upto_region 4 with (go_at_call 13; refine (H1.out _).mono ?_; rintro x w1 ⟨rfl, hb⟩; have T1 := hid (T0.out.on hb); clear hb T0 y0 y1 y2 y3 y4 y5 y6 y7 y8 y9)
  obtain ⟨y0, y1, y2, y3, y4, y5, y6, y7, y8, y9⟩ := T1.out.ocl
  go_wp2_with (go_at_call 27; refine (H2.out _).mono ?_; rintro x w2 ⟨rfl, hb⟩; have T2 := hid (T1.out.on hb); clear hb T1 y0 y1 y2 y3 y4 y5 y6 y7 y8 y9)
  go_ret
  exact ⟨rfl, _, T2.out.tail, HX.out.1, HX.out.2⟩
theorem ask_2 (W w : World) (p : Dp) (r q : Rp) (d e : DS) (gs : Nat) (h : SX W w p r q d e gs) (o : Oq) (hk : o.k = 2) (v0 : 0 ≤ o.v) (v1 : o.v < 4294967296) :
    Calls Tryz.prog 7 #[.pointer (some ⟨gs, 0, none⟩), o.val] w fun x w' => x = .returned (.bool true) ∧ ∃ q', SX W w' p r q' (d) (e) gs := by
  have T0 := hid (h.begin o)
  have HG : q.g = r.g := h.tp.g
  have hs := h.sim
  have hu := h.u
  have hue := hs.U hu
  have hok := h.tp.own.ok
  have H1 := hid (fun w => parse_any w o.v v0 v1)
  have H2 := hid (fun w => rparse_any w o.v v0 v1)
  have HX := hid (And.intro hs hu)
  clear h hu hs hok HG hue v0 v1
  obtain ⟨k, a, b, c, v, m, on⟩ := o
  simp only at hk
  subst hk
  simp only [Oq.val, Oq.cs, sdC] at *
  generalize gP v = G at *
  generalize gPE v = ge at *
  simp only [Gm.v] at *
  go_enter Tryz.func7, Tryz.ntmps7
  go_upto_region 1 with fail
  generalize World.alloc _ _ = X at *
  generalize w.heap.size = g3 at *
  obtain ⟨y0, y1, y2, y3, y4, y5, y6, y7, y8, y9⟩ := T0.out.ocl
  go_upto_region 8 with (first | (go_at_call 14; refine (H1.out _).mono ?_; rintro x w1 ⟨rfl, hb⟩; have T1 := hid (T0.out.on hb); clear hb T0 y0 y1 y2 y3 y4 y5 y6 y7 y8 y9) | (refine wpList_store_st rfl 52 _ _ rfl w1.heap.size [.int .u32 G.va, .bool G.wr, .bool G.ex] rfl rfl (Cel.new w1 52 [.int .u32 0, .bool false, .bool false]) size26 rfl rfl ?_; intro w2 hc hb hs; have T2 := hid (T1.out.boxput hc hb); clear hc hb hs T1))
  generalize w1.heap.size = g9 at *
  obtain ⟨y0, y1, y2, y3, y4, y5, y6, y7, y8, y9⟩ := T2.out.tail.ocl
  go_upto_region 9 with (first | (go_at_call 28; refine (H2.out _).mono ?_; rintro x w3 ⟨rfl, hb⟩; have T3 := hid (T2.out.on hb); clear hb T2 y0 y1 y2 y3 y4 y5 y6 y7 y8 y9) | (refine wpList_store_st rfl 75 _ _ rfl w3.heap.size [.int .u32 G.va, .bool G.wr, .bool G.ex] rfl rfl (Cel.new w3 75 [.int .u32 0, .bool false, .bool false]) sizeM rfl rfl ?_; intro w4 hc hb hs; have T4 := hid (T3.out.boxput hc hb); clear hc hb hs T3))
  generalize w3.heap.size = g11 at *
  have u0 : w4.cell? ⟨g9, 0, none⟩ = some (.int .u32 G.va) := (T4.out.get 1 rfl).cell 0
  have u1 : w4.cell? ⟨g9, 1, none⟩ = some (.bool G.wr) := (T4.out.get 1 rfl).cell 1
  have u2 : w4.cell? ⟨g9, 2, none⟩ = some (.bool G.ex) := (T4.out.get 1 rfl).cell 2
  have v0 : w4.cell? ⟨g11, 0, none⟩ = some (.int .u32 G.va) := (T4.out.get 0 rfl).cell 0
  have v1 : w4.cell? ⟨g11, 1, none⟩ = some (.bool G.wr) := (T4.out.get 0 rfl).cell 1
  have v2 : w4.cell? ⟨g11, 2, none⟩ = some (.bool G.ex) := (T4.out.get 0 rfl).cell 2
  go_wp2_with fail
  go_ret
  exact ⟨rfl, _, T4.out.tail.tail.tail, HX.out.1, HX.out.2⟩
theorem ask_3 (W w : World) (p : Dp) (r q : Rp) (d e : DS) (gs : Nat) (h : SX W w p r q d e gs) (o : Oq) (hk : o.k = 3) :
    Calls Tryz.prog 7 #[.pointer (some ⟨gs, 0, none⟩), o.val] w fun x w' => x = .returned (.bool true) ∧ ∃ q', SX W w' p r q' (d.folD o.a) (e) gs := by
  have T0 := hid (h.begin o)
  have HG : q.g = r.g := h.tp.g
  have hs := h.sim
  have hu := h.u
  have hue := hs.U hu
  have hok := h.tp.own.ok
  have HA := hid (fun w (hw : DB w p d) => table_any w p d hw hu o.a)
  have HR := hid (fun w (hw : RDB w q e) => by
    have := rtable_any w q e hw hue o.a
    rw [hs.folE, hs.fst, HG] at this
    exact this)
  have HX := hid (And.intro ((DS.Sim.folD d o.a).symm.trans hs) ((DS.Sim.folD d o.a).U hu))
  have HT : Hid (d.tab o.a = if d.folE o.a = 0 then d.fst o.a else 0) := hid rfl
  rw [← HT.out] at HR
  clear h hu hs hok HG hue
  obtain ⟨k, a, b, c, v, m, on⟩ := o
  simp only at hk
  subst hk
  simp only [Oq.val, Oq.cs, sdC, ptr] at *
  clear HT
  generalize d.folD a = d2 at *
  generalize d.folE a = f at *
  generalize d.tab a = t at *
  go_enter Tryz.func7, Tryz.ntmps7
  go_upto_region 1 with fail
  generalize World.alloc _ _ = X at *
  generalize w.heap.size = g3 at *
  obtain ⟨y0, y1, y2, y3, y4, y5, y6, y7, y8, y9⟩ := T0.out.ocl
  go_upto_region 11 with fail
  clear y0 y1 y2 y3 y4 y5 y6 y7 y8 y9
  have T1 := hid (T0.out.on (Below.refl _ _).drew)
  clear T0
  refine wp_region_held_drew (S := fun w => Cel w gs 48 [.pointer (some ⟨p.f.gm, 0, none⟩), .pointer (some ⟨p.g, 0, none⟩), .pointer (some ⟨r.g, 0, none⟩)] ∧ Cel w g3 33 [.int .i64 3, .int .i64 a, .int .i64 b, .int .i64 c, .int .u32 v, .bool m.s, .int .i64 m.p, .bool m.wr, .bool m.ex, .bool on]) (by kernel_rfl) T1.out.hold (fun hHeld => ?_)
  generalize World.drew _ = w1 at *
  refine tk 0 ⟨some 104, .move (.tmp 0), 25, "law.go:149", #[], none⟩ (.pointer (some ⟨gs, 0, none⟩)) ?_
  simp only [Act.put, List.setIfInBounds_toArray, List.set_cons_zero, List.set_cons_succ]
  refine tk 1 ⟨some 105, .nilCheck (.tmp 104), 0, "law.go:149", #[⟨0, .data⟩], none⟩ (.pointer (some ⟨gs, 0, none⟩)) ?_
  simp only [Act.put, List.setIfInBounds_toArray, List.set_cons_zero, List.set_cons_succ]
  refine tk 2 ⟨some 106, .fieldAddr 48 (.tmp 105) 1, 0, "law.go:149", #[⟨1, .data⟩], none⟩ (.pointer (some ⟨gs, 1, none⟩)) ?_
  simp only [Act.put, List.setIfInBounds_toArray, List.set_cons_zero, List.set_cons_succ]
  refine tk 3 ⟨some 107, .load 43 (.tmp 106), 43, "law.go:149", #[⟨2, .data⟩], none⟩ (.pointer (some ⟨p.g, 0, none⟩)) ?_ (hy := Or.inl ⟨by rfl, by intro w hSw; have hc : w.cell? ⟨gs, 1, none⟩ = some (.pointer (some ⟨p.g, 0, none⟩)) := hSw.1.cell 1; go_simp⟩)
  simp only [Act.put, List.setIfInBounds_toArray, List.set_cons_zero, List.set_cons_succ]
  refine tk 4 ⟨some 108, .fieldAddr 33 (.tmp 3) 1, 0, "law.go:149", #[], none⟩ (.pointer (some ⟨g3, 1, none⟩)) ?_
  simp only [Act.put, List.setIfInBounds_toArray, List.set_cons_zero, List.set_cons_succ]
  refine tk 5 ⟨some 109, .load 3 (.tmp 108), 3, "law.go:149", #[⟨4, .data⟩], none⟩ (.int .i64 a) ?_ (hy := Or.inl ⟨by rfl, by intro w hSw; have hc : w.cell? ⟨g3, 1, none⟩ = some (.int .i64 a) := hSw.2.cell 1; go_simp⟩)
  simp only [Act.put, List.setIfInBounds_toArray, List.set_cons_zero, List.set_cons_succ]
  refine wpAnyH_ready (rs := [6]) (by kernel_rfl) (by simp) (AllReadyH.cons (o := ⟨some 110, .call { callee := .value (.func 29), args := #[.tmp 107, .tmp 109], argTypes := #[43, 3] }, 78, "law.go:149", #[⟨3, .data⟩, ⟨5, .data⟩], none⟩) rfl (fun KQ hK => ?_) AllReadyH.nil)
  go_simp
  refine (HA.out _ T1.out.own).mono ?_
  rintro x w2 ⟨rfl, hd, hb⟩
  have T2 := hid (T1.out.stepF hd hb)
  clear hd hb T1
  go_wp2_with fail
  refine hK.out _ _ T2.out.hold (fun hHeld => ?_)
  clear hK KQ
  try simp only [Act.put, List.setIfInBounds_toArray, List.set_cons_zero, List.set_cons_succ]
  refine tk 7 ⟨some 103, .move (.tmp 110), 78, "law.go:149", #[⟨6, .data⟩], none⟩ (.tuple #[.int .i64 t, .int .i64 f]) ?_
  simp only [Act.put, List.setIfInBounds_toArray, List.set_cons_zero, List.set_cons_succ]
  refine tk 8 ⟨some 111, .extract (.tmp 103) 0, 3, "law.go:149", #[⟨7, .data⟩], none⟩ (.int .i64 t) ?_
  simp only [Act.put, List.setIfInBounds_toArray, List.set_cons_zero, List.set_cons_succ]
  refine tk 9 ⟨some 112, .extract (.tmp 103) 1, 37, "law.go:149", #[⟨7, .data⟩, { on := 10, ground := .gcOnly Departure.lateStores }], none⟩ (.int .i64 f) ?_
  simp only [Act.put, List.setIfInBounds_toArray, List.set_cons_zero, List.set_cons_succ]
  refine wpAnyH_ready (rs := [10]) (by kernel_rfl) (by simp) (AllReadyH.cons (o := ⟨some 13, .assign (.tmp 111), 3, "law.go:149", #[⟨8, .data⟩, ⟨6, .chain⟩, ⟨0, .phase⟩, ⟨1, .phase⟩, ⟨2, .phase⟩, ⟨3, .phase⟩, ⟨4, .phase⟩, ⟨5, .phase⟩, ⟨6, .phase⟩, ⟨7, .phase⟩, ⟨8, .phase⟩, { on := 9, ground := .textOnly Departure.lateStores }], none⟩) rfl (fun KQ hK => ?_) AllReadyH.nil)
  go_simp
  refine hK.out _ _ T2.out.hold (fun hHeld => ?_)
  clear hK KQ
  try simp only [Act.put, List.setIfInBounds_toArray, List.set_cons_zero, List.set_cons_succ]
  refine wpAnyH_ready (rs := [11]) (by kernel_rfl) (by simp) (AllReadyH.cons (o := ⟨some 14, .assign (.tmp 112), 37, "law.go:149", #[⟨9, .data⟩, ⟨10, .chain⟩, ⟨0, .phase⟩, ⟨1, .phase⟩, ⟨2, .phase⟩, ⟨3, .phase⟩, ⟨4, .phase⟩, ⟨5, .phase⟩, ⟨6, .phase⟩, ⟨7, .phase⟩, ⟨8, .phase⟩, ⟨9, .phase⟩, ⟨10, .phase⟩], none⟩) rfl (fun KQ hK => ?_) AllReadyH.nil)
  go_simp
  refine hK.out _ _ T2.out.hold (fun hHeld => ?_)
  clear hK KQ
  try simp only [Act.put, List.setIfInBounds_toArray, List.set_cons_zero, List.set_cons_succ]
  refine wpAnyH_done (by kernel_rfl) ?_ _
  have T3 := hid (T2.out.on (Below.refl _ _).drew)
  clear T2
  go_upto_region 12 with fail
  refine wp_region_held_drew (S := fun w => Cel w gs 48 [.pointer (some ⟨p.f.gm, 0, none⟩), .pointer (some ⟨p.g, 0, none⟩), .pointer (some ⟨r.g, 0, none⟩)] ∧ Cel w g3 33 [.int .i64 3, .int .i64 a, .int .i64 b, .int .i64 c, .int .u32 v, .bool m.s, .int .i64 m.p, .bool m.wr, .bool m.ex, .bool on]) (by kernel_rfl) T3.out.hold (fun hHeld => ?_)
  generalize World.drew _ = w3 at *
  refine tk 0 ⟨some 114, .move (.tmp 0), 25, "law.go:150", #[], none⟩ (.pointer (some ⟨gs, 0, none⟩)) ?_
  simp only [Act.put, List.setIfInBounds_toArray, List.set_cons_zero, List.set_cons_succ]
  refine tk 1 ⟨some 115, .nilCheck (.tmp 114), 0, "law.go:150", #[⟨0, .data⟩], none⟩ (.pointer (some ⟨gs, 0, none⟩)) ?_
  simp only [Act.put, List.setIfInBounds_toArray, List.set_cons_zero, List.set_cons_succ]
  refine tk 2 ⟨some 116, .fieldAddr 48 (.tmp 115) 2, 0, "law.go:150", #[⟨1, .data⟩], none⟩ (.pointer (some ⟨gs, 2, none⟩)) ?_
  simp only [Act.put, List.setIfInBounds_toArray, List.set_cons_zero, List.set_cons_succ]
  refine tk 3 ⟨some 117, .load 45 (.tmp 116), 45, "law.go:150", #[⟨2, .data⟩], none⟩ (.pointer (some ⟨r.g, 0, none⟩)) ?_ (hy := Or.inl ⟨by rfl, by intro w hSw; have hc : w.cell? ⟨gs, 2, none⟩ = some (.pointer (some ⟨r.g, 0, none⟩)) := hSw.1.cell 2; go_simp⟩)
  simp only [Act.put, List.setIfInBounds_toArray, List.set_cons_zero, List.set_cons_succ]
  refine tk 4 ⟨some 118, .fieldAddr 33 (.tmp 3) 1, 0, "law.go:150", #[], none⟩ (.pointer (some ⟨g3, 1, none⟩)) ?_
  simp only [Act.put, List.setIfInBounds_toArray, List.set_cons_zero, List.set_cons_succ]
  refine tk 5 ⟨some 119, .load 3 (.tmp 118), 3, "law.go:150", #[⟨4, .data⟩], none⟩ (.int .i64 a) ?_ (hy := Or.inl ⟨by rfl, by intro w hSw; have hc : w.cell? ⟨g3, 1, none⟩ = some (.int .i64 a) := hSw.2.cell 1; go_simp⟩)
  simp only [Act.put, List.setIfInBounds_toArray, List.set_cons_zero, List.set_cons_succ]
  refine wpAnyH_ready (rs := [6]) (by kernel_rfl) (by simp) (AllReadyH.cons (o := ⟨some 120, .call { callee := .value (.func 30), args := #[.tmp 117, .tmp 119], argTypes := #[45, 3] }, 80, "law.go:150", #[⟨3, .data⟩, ⟨5, .data⟩], none⟩) rfl (fun KQ hK => ?_) AllReadyH.nil)
  go_simp
  refine (HR.out _ T3.out.doc).mono ?_
  rintro x w4 ⟨rfl, hb⟩
  have T4 := hid (T3.out.on hb)
  clear hb T3
  go_wp2_with fail
  refine hK.out _ _ T4.out.hold (fun hHeld => ?_)
  clear hK KQ
  try simp only [Act.put, List.setIfInBounds_toArray, List.set_cons_zero, List.set_cons_succ]
  refine tk 7 ⟨some 113, .move (.tmp 120), 80, "law.go:150", #[⟨6, .data⟩], none⟩ (.tuple #[.int .i64 t, .int .i64 f]) ?_
  simp only [Act.put, List.setIfInBounds_toArray, List.set_cons_zero, List.set_cons_succ]
  refine tk 8 ⟨some 121, .extract (.tmp 113) 0, 3, "law.go:150", #[⟨7, .data⟩], none⟩ (.int .i64 t) ?_
  simp only [Act.put, List.setIfInBounds_toArray, List.set_cons_zero, List.set_cons_succ]
  refine tk 9 ⟨some 122, .extract (.tmp 113) 1, 3, "law.go:150", #[⟨7, .data⟩, { on := 10, ground := .gcOnly Departure.lateStores }], none⟩ (.int .i64 f) ?_
  simp only [Act.put, List.setIfInBounds_toArray, List.set_cons_zero, List.set_cons_succ]
  refine wpAnyH_ready (rs := [10]) (by kernel_rfl) (by simp) (AllReadyH.cons (o := ⟨some 15, .assign (.tmp 121), 3, "law.go:150", #[⟨8, .data⟩, ⟨6, .chain⟩, ⟨0, .phase⟩, ⟨1, .phase⟩, ⟨2, .phase⟩, ⟨3, .phase⟩, ⟨4, .phase⟩, ⟨5, .phase⟩, ⟨6, .phase⟩, ⟨7, .phase⟩, ⟨8, .phase⟩, { on := 9, ground := .textOnly Departure.lateStores }], none⟩) rfl (fun KQ hK => ?_) AllReadyH.nil)
  go_simp
  refine hK.out _ _ T4.out.hold (fun hHeld => ?_)
  clear hK KQ
  try simp only [Act.put, List.setIfInBounds_toArray, List.set_cons_zero, List.set_cons_succ]
  refine wpAnyH_ready (rs := [11]) (by kernel_rfl) (by simp) (AllReadyH.cons (o := ⟨some 16, .assign (.tmp 122), 3, "law.go:150", #[⟨9, .data⟩, ⟨10, .chain⟩, ⟨0, .phase⟩, ⟨1, .phase⟩, ⟨2, .phase⟩, ⟨3, .phase⟩, ⟨4, .phase⟩, ⟨5, .phase⟩, ⟨6, .phase⟩, ⟨7, .phase⟩, ⟨8, .phase⟩, ⟨9, .phase⟩, ⟨10, .phase⟩], none⟩) rfl (fun KQ hK => ?_) AllReadyH.nil)
  go_simp
  refine hK.out _ _ T4.out.hold (fun hHeld => ?_)
  clear hK KQ
  try simp only [Act.put, List.setIfInBounds_toArray, List.set_cons_zero, List.set_cons_succ]
  refine wpAnyH_done (by kernel_rfl) ?_ _
  go_wp2_with fail
  go_ret
  exact ⟨rfl, _, T4.out.tail, HX.out.1, HX.out.2⟩
theorem ask_4 (W w : World) (p : Dp) (r q : Rp) (d e : DS) (gs : Nat) (h : SX W w p r q d e gs) (o : Oq) (hk : o.k = 4) :
    Calls Tryz.prog 7 #[.pointer (some ⟨gs, 0, none⟩), o.val] w fun x w' => x = .returned (.bool true) ∧ ∃ q', SX W w' p r q' (d.add o.a o.b o.c) (e.addS o.a o.b o.c) gs := by
  have T0 := hid (h.begin o)
  have HG : q.g = r.g := h.tp.g
  have hs := h.sim
  have hu := h.u
  have hue := hs.U hu
  have hok := h.tp.own.ok
  have HA := hid (fun w (hw : DB w p d) => addTable_any w p d hw hu o.a o.b o.c)
  have HR := hid (fun w (hw : RDB w q e) => by
    have := raddTable_any w q e hw hue o.a o.b o.c
    rw [hs.addE, HG] at this
    exact this)
  have HX : Hid (DS.Sim (d.add o.a o.b o.c) (e.addS o.a o.b o.c) ∧ (d.add o.a o.b o.c).m.U) := hid ⟨(DS.Sim.add d _ _ _).symm.trans (hs.addS _ _ _), (DS.Sim.add d _ _ _).U (U_add hu _ _ _)⟩
  clear h hu hs hok HG hue
  obtain ⟨k, a, b, c, v, m, on⟩ := o
  simp only at hk
  subst hk
  simp only [Oq.val, Oq.cs, sdC, ptr] at *
  generalize d.add a b c = d2 at *
  generalize e.addS a b c = e2 at *
  generalize d.addE a b c = f at *
  go_enter Tryz.func7, Tryz.ntmps7
  go_upto_region 1 with fail
  generalize World.alloc _ _ = X at *
  generalize w.heap.size = g3 at *
  obtain ⟨y0, y1, y2, y3, y4, y5, y6, y7, y8, y9⟩ := T0.out.ocl
  go_upto_region 15 with fail
  clear y0 y1 y2 y3 y4 y5 y6 y7 y8 y9
  have T1 := hid (T0.out.on (Below.refl _ _).drew)
  clear T0
  refine wp_region_held_drew (S := fun w => Cel w gs 48 [.pointer (some ⟨p.f.gm, 0, none⟩), .pointer (some ⟨p.g, 0, none⟩), .pointer (some ⟨r.g, 0, none⟩)] ∧ Cel w g3 33 [.int .i64 4, .int .i64 a, .int .i64 b, .int .i64 c, .int .u32 v, .bool m.s, .int .i64 m.p, .bool m.wr, .bool m.ex, .bool on]) (by kernel_rfl) T1.out.hold (fun hHeld => ?_)
  generalize World.drew _ = w1 at *
  refine tk 0 ⟨some 133, .move (.tmp 0), 25, "law.go:153", #[], none⟩ (.pointer (some ⟨gs, 0, none⟩)) ?_
  simp only [Act.put, List.setIfInBounds_toArray, List.set_cons_zero, List.set_cons_succ]
  refine tk 1 ⟨some 134, .nilCheck (.tmp 133), 0, "law.go:153", #[⟨0, .data⟩], none⟩ (.pointer (some ⟨gs, 0, none⟩)) ?_
  simp only [Act.put, List.setIfInBounds_toArray, List.set_cons_zero, List.set_cons_succ]
  refine tk 2 ⟨some 135, .fieldAddr 48 (.tmp 134) 1, 0, "law.go:153", #[⟨1, .data⟩], none⟩ (.pointer (some ⟨gs, 1, none⟩)) ?_
  simp only [Act.put, List.setIfInBounds_toArray, List.set_cons_zero, List.set_cons_succ]
  refine tk 3 ⟨some 136, .load 43 (.tmp 135), 43, "law.go:153", #[⟨2, .data⟩], none⟩ (.pointer (some ⟨p.g, 0, none⟩)) ?_ (hy := Or.inl ⟨by rfl, by intro w hSw; have hc : w.cell? ⟨gs, 1, none⟩ = some (.pointer (some ⟨p.g, 0, none⟩)) := hSw.1.cell 1; go_simp⟩)
  simp only [Act.put, List.setIfInBounds_toArray, List.set_cons_zero, List.set_cons_succ]
  refine tk 4 ⟨some 137, .fieldAddr 33 (.tmp 3) 1, 0, "law.go:153", #[], none⟩ (.pointer (some ⟨g3, 1, none⟩)) ?_
  simp only [Act.put, List.setIfInBounds_toArray, List.set_cons_zero, List.set_cons_succ]
  refine tk 5 ⟨some 138, .load 3 (.tmp 137), 3, "law.go:153", #[⟨4, .data⟩], none⟩ (.int .i64 a) ?_ (hy := Or.inl ⟨by rfl, by intro w hSw; have hc : w.cell? ⟨g3, 1, none⟩ = some (.int .i64 a) := hSw.2.cell 1; go_simp⟩)
  simp only [Act.put, List.setIfInBounds_toArray, List.set_cons_zero, List.set_cons_succ]
  refine tk 6 ⟨some 139, .fieldAddr 33 (.tmp 3) 2, 0, "law.go:153", #[], none⟩ (.pointer (some ⟨g3, 2, none⟩)) ?_
  simp only [Act.put, List.setIfInBounds_toArray, List.set_cons_zero, List.set_cons_succ]
  refine tk 7 ⟨some 140, .load 3 (.tmp 139), 3, "law.go:153", #[⟨6, .data⟩], none⟩ (.int .i64 b) ?_ (hy := Or.inl ⟨by rfl, by intro w hSw; have hc : w.cell? ⟨g3, 2, none⟩ = some (.int .i64 b) := hSw.2.cell 2; go_simp⟩)
  simp only [Act.put, List.setIfInBounds_toArray, List.set_cons_zero, List.set_cons_succ]
  refine tk 8 ⟨some 141, .fieldAddr 33 (.tmp 3) 3, 0, "law.go:153", #[], none⟩ (.pointer (some ⟨g3, 3, none⟩)) ?_
  simp only [Act.put, List.setIfInBounds_toArray, List.set_cons_zero, List.set_cons_succ]
  refine tk 9 ⟨some 142, .load 3 (.tmp 141), 3, "law.go:153", #[⟨8, .data⟩], none⟩ (.int .i64 c) ?_ (hy := Or.inl ⟨by rfl, by intro w hSw; have hc : w.cell? ⟨g3, 3, none⟩ = some (.int .i64 c) := hSw.2.cell 3; go_simp⟩)
  simp only [Act.put, List.setIfInBounds_toArray, List.set_cons_zero, List.set_cons_succ]
  refine tk 11 ⟨some 144, .move (.tmp 0), 25, "law.go:153", #[], none⟩ (.pointer (some ⟨gs, 0, none⟩)) ?_
  simp only [Act.put, List.setIfInBounds_toArray, List.set_cons_zero, List.set_cons_succ]
  refine tk 12 ⟨some 145, .nilCheck (.tmp 144), 0, "law.go:153", #[⟨11, .data⟩], none⟩ (.pointer (some ⟨gs, 0, none⟩)) ?_
  simp only [Act.put, List.setIfInBounds_toArray, List.set_cons_zero, List.set_cons_succ]
  refine tk 13 ⟨some 146, .fieldAddr 48 (.tmp 145) 2, 0, "law.go:153", #[⟨12, .data⟩], none⟩ (.pointer (some ⟨gs, 2, none⟩)) ?_
  simp only [Act.put, List.setIfInBounds_toArray, List.set_cons_zero, List.set_cons_succ]
  refine tk 14 ⟨some 147, .load 45 (.tmp 146), 45, "law.go:153", #[⟨13, .data⟩], none⟩ (.pointer (some ⟨r.g, 0, none⟩)) ?_ (hy := Or.inl ⟨by rfl, by intro w hSw; have hc : w.cell? ⟨gs, 2, none⟩ = some (.pointer (some ⟨r.g, 0, none⟩)) := hSw.1.cell 2; go_simp⟩)
  simp only [Act.put, List.setIfInBounds_toArray, List.set_cons_zero, List.set_cons_succ]
  refine tk 15 ⟨some 148, .fieldAddr 33 (.tmp 3) 1, 0, "law.go:153", #[], none⟩ (.pointer (some ⟨g3, 1, none⟩)) ?_
  simp only [Act.put, List.setIfInBounds_toArray, List.set_cons_zero, List.set_cons_succ]
  refine tk 16 ⟨some 149, .load 3 (.tmp 148), 3, "law.go:153", #[⟨15, .data⟩], none⟩ (.int .i64 a) ?_ (hy := Or.inl ⟨by rfl, by intro w hSw; have hc : w.cell? ⟨g3, 1, none⟩ = some (.int .i64 a) := hSw.2.cell 1; go_simp⟩)
  simp only [Act.put, List.setIfInBounds_toArray, List.set_cons_zero, List.set_cons_succ]
  refine tk 17 ⟨some 150, .fieldAddr 33 (.tmp 3) 2, 0, "law.go:153", #[], none⟩ (.pointer (some ⟨g3, 2, none⟩)) ?_
  simp only [Act.put, List.setIfInBounds_toArray, List.set_cons_zero, List.set_cons_succ]
  refine tk 18 ⟨some 151, .load 3 (.tmp 150), 3, "law.go:153", #[⟨17, .data⟩], none⟩ (.int .i64 b) ?_ (hy := Or.inl ⟨by rfl, by intro w hSw; have hc : w.cell? ⟨g3, 2, none⟩ = some (.int .i64 b) := hSw.2.cell 2; go_simp⟩)
  simp only [Act.put, List.setIfInBounds_toArray, List.set_cons_zero, List.set_cons_succ]
  refine tk 19 ⟨some 152, .fieldAddr 33 (.tmp 3) 3, 0, "law.go:153", #[], none⟩ (.pointer (some ⟨g3, 3, none⟩)) ?_
  simp only [Act.put, List.setIfInBounds_toArray, List.set_cons_zero, List.set_cons_succ]
  refine tk 20 ⟨some 153, .load 3 (.tmp 152), 3, "law.go:153", #[⟨19, .data⟩], none⟩ (.int .i64 c) ?_ (hy := Or.inl ⟨by rfl, by intro w hSw; have hc : w.cell? ⟨g3, 3, none⟩ = some (.int .i64 c) := hSw.2.cell 3; go_simp⟩)
  simp only [Act.put, List.setIfInBounds_toArray, List.set_cons_zero, List.set_cons_succ]
  refine wpAnyH_ready (rs := [10]) (by kernel_rfl) (by simp) (AllReadyH.cons (o := ⟨some 143, .call { callee := .value (.func 31), args := #[.tmp 136, .tmp 138, .tmp 140, .tmp 142], argTypes := #[43, 3, 3, 3] }, 37, "law.go:153", #[⟨3, .data⟩, ⟨5, .data⟩, ⟨7, .data⟩, ⟨9, .data⟩], none⟩) rfl (fun KQ hK => ?_) AllReadyH.nil)
  go_simp
  refine (HA.out _ T1.out.own).mono ?_
  rintro x w2 ⟨rfl, hd, hb⟩
  have T2 := hid (T1.out.stepF hd hb)
  clear hd hb T1
  go_wp2_with fail
  refine hK.out _ _ T2.out.hold (fun hHeld => ?_)
  clear hK KQ
  try simp only [Act.put, List.setIfInBounds_toArray, List.set_cons_zero, List.set_cons_succ]
  refine wpAnyH_ready (rs := [21]) (by kernel_rfl) (by simp) (AllReadyH.cons (o := ⟨some 154, .call { callee := .value (.func 32), args := #[.tmp 147, .tmp 149, .tmp 151, .tmp 153], argTypes := #[45, 3, 3, 3] }, 3, "law.go:153", #[⟨14, .data⟩, ⟨16, .data⟩, ⟨18, .data⟩, ⟨20, .data⟩, ⟨10, .chain⟩], none⟩) rfl (fun KQ hK => ?_) AllReadyH.nil)
  go_simp
  refine (HR.out _ T2.out.doc).mono ?_
  rintro x w3 ⟨rfl, r1, hg⟩
  have T3 := hid (T2.out.stepR hg)
  clear hg T2
  go_wp2_with fail
  refine hK.out _ _ T3.out.hold (fun hHeld => ?_)
  clear hK KQ
  try simp only [Act.put, List.setIfInBounds_toArray, List.set_cons_zero, List.set_cons_succ]
  refine tk 22 ⟨some 155, .binOp .eql 3 (.tmp 143) (.tmp 154) 3, 4, "law.go:153", #[⟨10, .data⟩, ⟨21, .data⟩], none⟩ (.bool true) ?_
  simp only [Act.put, List.setIfInBounds_toArray, List.set_cons_zero, List.set_cons_succ]
  refine wpAnyH_ready (rs := [23]) (by kernel_rfl) (by simp) (AllReadyH.cons (o := ⟨some 4, .assign (.tmp 155), 4, "law.go:153", #[⟨22, .data⟩, ⟨21, .chain⟩, ⟨0, .phase⟩, ⟨1, .phase⟩, ⟨2, .phase⟩, ⟨3, .phase⟩, ⟨4, .phase⟩, ⟨5, .phase⟩, ⟨6, .phase⟩, ⟨7, .phase⟩, ⟨8, .phase⟩, ⟨9, .phase⟩, ⟨10, .phase⟩, ⟨11, .phase⟩, ⟨12, .phase⟩, ⟨13, .phase⟩, ⟨14, .phase⟩, ⟨15, .phase⟩, ⟨16, .phase⟩, ⟨17, .phase⟩, ⟨18, .phase⟩, ⟨19, .phase⟩, ⟨20, .phase⟩, ⟨21, .phase⟩, ⟨22, .phase⟩], none⟩) rfl (fun KQ hK => ?_) AllReadyH.nil)
  go_simp
  refine hK.out _ _ T3.out.hold (fun hHeld => ?_)
  clear hK KQ
  try simp only [Act.put, List.setIfInBounds_toArray, List.set_cons_zero, List.set_cons_succ]
  refine wpAnyH_done (by kernel_rfl) ?_ _
  go_wp2_with fail
  go_ret
  exact ⟨rfl, _, T3.out.tail, HX.out.1, HX.out.2⟩
theorem ask_5 (W w : World) (p : Dp) (r q : Rp) (d e : DS) (gs : Nat) (h : SX W w p r q d e gs) (o : Oq) (hk : o.k = 5) (v0 : 0 ≤ o.v) (v1 : o.v < 4294967296) :
    Calls Tryz.prog 7 #[.pointer (some ⟨gs, 0, none⟩), o.val] w fun x w' => x = .returned (.bool true) ∧ ∃ q', SX W w' p r q' (d.look o.a o.v) (e) gs := by
  have T0 := hid (h.begin o)
  have HG : q.g = r.g := h.tp.g
  have hs := h.sim
  have hu := h.u
  have hue := hs.U hu
  have hok := h.tp.own.ok
  have HA := hid (fun w (hw : DB w p d) => slot_any w p d hw hu o.a o.v v0 v1)
  have HR := hid (fun w (hw : RDB w q e) => by
    have := rslot_any w q e hw hue o.a o.v v0 v1
    rw [hs.slotE, HG] at this
    exact this)
  have HX : Hid (DS.Sim (d.look o.a o.v) (e) ∧ (d.look o.a o.v).m.U) := hid ⟨(DS.Sim.look d _ _).symm.trans hs, (DS.Sim.look d _ _).U hu⟩
  clear h hu hs hok HG hue v0 v1
  obtain ⟨k, a, b, c, v, m, on⟩ := o
  simp only at hk
  subst hk
  simp only [Oq.val, Oq.cs, sdC, ptr] at *
  generalize d.look a v = d2 at *
  generalize d.slotE a v = f at *
  go_enter Tryz.func7, Tryz.ntmps7
  go_upto_region 1 with fail
  generalize World.alloc _ _ = X at *
  generalize w.heap.size = g3 at *
  obtain ⟨y0, y1, y2, y3, y4, y5, y6, y7, y8, y9⟩ := T0.out.ocl
  go_upto_region 17 with fail
  clear y0 y1 y2 y3 y4 y5 y6 y7 y8 y9
  have T1 := hid (T0.out.on (Below.refl _ _).drew)
  clear T0
  refine wp_region_held_drew (S := fun w => Cel w gs 48 [.pointer (some ⟨p.f.gm, 0, none⟩), .pointer (some ⟨p.g, 0, none⟩), .pointer (some ⟨r.g, 0, none⟩)] ∧ Cel w g3 33 [.int .i64 5, .int .i64 a, .int .i64 b, .int .i64 c, .int .u32 v, .bool m.s, .int .i64 m.p, .bool m.wr, .bool m.ex, .bool on]) (by kernel_rfl) T1.out.hold (fun hHeld => ?_)
  generalize World.drew _ = w1 at *
  refine tk 0 ⟨some 158, .move (.tmp 0), 25, "law.go:155", #[], none⟩ (.pointer (some ⟨gs, 0, none⟩)) ?_
  simp only [Act.put, List.setIfInBounds_toArray, List.set_cons_zero, List.set_cons_succ]
  refine tk 1 ⟨some 159, .nilCheck (.tmp 158), 0, "law.go:155", #[⟨0, .data⟩], none⟩ (.pointer (some ⟨gs, 0, none⟩)) ?_
  simp only [Act.put, List.setIfInBounds_toArray, List.set_cons_zero, List.set_cons_succ]
  refine tk 2 ⟨some 160, .fieldAddr 48 (.tmp 159) 1, 0, "law.go:155", #[⟨1, .data⟩], none⟩ (.pointer (some ⟨gs, 1, none⟩)) ?_
  simp only [Act.put, List.setIfInBounds_toArray, List.set_cons_zero, List.set_cons_succ]
  refine tk 3 ⟨some 161, .load 43 (.tmp 160), 43, "law.go:155", #[⟨2, .data⟩], none⟩ (.pointer (some ⟨p.g, 0, none⟩)) ?_ (hy := Or.inl ⟨by rfl, by intro w hSw; have hc : w.cell? ⟨gs, 1, none⟩ = some (.pointer (some ⟨p.g, 0, none⟩)) := hSw.1.cell 1; go_simp⟩)
  simp only [Act.put, List.setIfInBounds_toArray, List.set_cons_zero, List.set_cons_succ]
  refine tk 4 ⟨some 162, .fieldAddr 33 (.tmp 3) 1, 0, "law.go:155", #[], none⟩ (.pointer (some ⟨g3, 1, none⟩)) ?_
  simp only [Act.put, List.setIfInBounds_toArray, List.set_cons_zero, List.set_cons_succ]
  refine tk 5 ⟨some 163, .load 3 (.tmp 162), 3, "law.go:155", #[⟨4, .data⟩], none⟩ (.int .i64 a) ?_ (hy := Or.inl ⟨by rfl, by intro w hSw; have hc : w.cell? ⟨g3, 1, none⟩ = some (.int .i64 a) := hSw.2.cell 1; go_simp⟩)
  simp only [Act.put, List.setIfInBounds_toArray, List.set_cons_zero, List.set_cons_succ]
  refine tk 6 ⟨some 164, .fieldAddr 33 (.tmp 3) 4, 0, "law.go:155", #[], none⟩ (.pointer (some ⟨g3, 4, none⟩)) ?_
  simp only [Act.put, List.setIfInBounds_toArray, List.set_cons_zero, List.set_cons_succ]
  refine tk 7 ⟨some 165, .load 29 (.tmp 164), 29, "law.go:155", #[⟨6, .data⟩], none⟩ (.int .u32 v) ?_ (hy := Or.inl ⟨by rfl, by intro w hSw; have hc : w.cell? ⟨g3, 4, none⟩ = some (.int .u32 v) := hSw.2.cell 4; go_simp⟩)
  simp only [Act.put, List.setIfInBounds_toArray, List.set_cons_zero, List.set_cons_succ]
  refine tk 9 ⟨some 167, .move (.tmp 0), 25, "law.go:155", #[], none⟩ (.pointer (some ⟨gs, 0, none⟩)) ?_
  simp only [Act.put, List.setIfInBounds_toArray, List.set_cons_zero, List.set_cons_succ]
  refine tk 10 ⟨some 168, .nilCheck (.tmp 167), 0, "law.go:155", #[⟨9, .data⟩], none⟩ (.pointer (some ⟨gs, 0, none⟩)) ?_
  simp only [Act.put, List.setIfInBounds_toArray, List.set_cons_zero, List.set_cons_succ]
  refine tk 11 ⟨some 169, .fieldAddr 48 (.tmp 168) 2, 0, "law.go:155", #[⟨10, .data⟩], none⟩ (.pointer (some ⟨gs, 2, none⟩)) ?_
  simp only [Act.put, List.setIfInBounds_toArray, List.set_cons_zero, List.set_cons_succ]
  refine tk 12 ⟨some 170, .load 45 (.tmp 169), 45, "law.go:155", #[⟨11, .data⟩], none⟩ (.pointer (some ⟨r.g, 0, none⟩)) ?_ (hy := Or.inl ⟨by rfl, by intro w hSw; have hc : w.cell? ⟨gs, 2, none⟩ = some (.pointer (some ⟨r.g, 0, none⟩)) := hSw.1.cell 2; go_simp⟩)
  simp only [Act.put, List.setIfInBounds_toArray, List.set_cons_zero, List.set_cons_succ]
  refine tk 13 ⟨some 171, .fieldAddr 33 (.tmp 3) 1, 0, "law.go:155", #[], none⟩ (.pointer (some ⟨g3, 1, none⟩)) ?_
  simp only [Act.put, List.setIfInBounds_toArray, List.set_cons_zero, List.set_cons_succ]
  refine tk 14 ⟨some 172, .load 3 (.tmp 171), 3, "law.go:155", #[⟨13, .data⟩], none⟩ (.int .i64 a) ?_ (hy := Or.inl ⟨by rfl, by intro w hSw; have hc : w.cell? ⟨g3, 1, none⟩ = some (.int .i64 a) := hSw.2.cell 1; go_simp⟩)
  simp only [Act.put, List.setIfInBounds_toArray, List.set_cons_zero, List.set_cons_succ]
  refine tk 15 ⟨some 173, .fieldAddr 33 (.tmp 3) 4, 0, "law.go:155", #[], none⟩ (.pointer (some ⟨g3, 4, none⟩)) ?_
  simp only [Act.put, List.setIfInBounds_toArray, List.set_cons_zero, List.set_cons_succ]
  refine tk 16 ⟨some 174, .load 29 (.tmp 173), 29, "law.go:155", #[⟨15, .data⟩], none⟩ (.int .u32 v) ?_ (hy := Or.inl ⟨by rfl, by intro w hSw; have hc : w.cell? ⟨g3, 4, none⟩ = some (.int .u32 v) := hSw.2.cell 4; go_simp⟩)
  simp only [Act.put, List.setIfInBounds_toArray, List.set_cons_zero, List.set_cons_succ]
  refine wpAnyH_ready (rs := [8]) (by kernel_rfl) (by simp) (AllReadyH.cons (o := ⟨some 166, .call { callee := .value (.func 33), args := #[.tmp 161, .tmp 163, .tmp 165], argTypes := #[43, 3, 29] }, 37, "law.go:155", #[⟨3, .data⟩, ⟨5, .data⟩, ⟨7, .data⟩], none⟩) rfl (fun KQ hK => ?_) AllReadyH.nil)
  go_simp
  refine (HA.out _ T1.out.own).mono ?_
  rintro x w2 ⟨rfl, hd, hb⟩
  have T2 := hid (T1.out.stepF hd hb)
  clear hd hb T1
  go_wp2_with fail
  refine hK.out _ _ T2.out.hold (fun hHeld => ?_)
  clear hK KQ
  try simp only [Act.put, List.setIfInBounds_toArray, List.set_cons_zero, List.set_cons_succ]
  refine wpAnyH_ready (rs := [17]) (by kernel_rfl) (by simp) (AllReadyH.cons (o := ⟨some 175, .call { callee := .value (.func 34), args := #[.tmp 170, .tmp 172, .tmp 174], argTypes := #[45, 3, 29] }, 3, "law.go:155", #[⟨12, .data⟩, ⟨14, .data⟩, ⟨16, .data⟩, ⟨8, .chain⟩], none⟩) rfl (fun KQ hK => ?_) AllReadyH.nil)
  go_simp
  refine (HR.out _ T2.out.doc).mono ?_
  rintro x w3 ⟨rfl, hb⟩
  have T3 := hid (T2.out.on hb)
  clear hb T2
  go_wp2_with fail
  refine hK.out _ _ T3.out.hold (fun hHeld => ?_)
  clear hK KQ
  try simp only [Act.put, List.setIfInBounds_toArray, List.set_cons_zero, List.set_cons_succ]
  refine tk 18 ⟨some 176, .binOp .eql 3 (.tmp 166) (.tmp 175) 3, 4, "law.go:155", #[⟨8, .data⟩, ⟨17, .data⟩], none⟩ (.bool true) ?_
  simp only [Act.put, List.setIfInBounds_toArray, List.set_cons_zero, List.set_cons_succ]
  refine wpAnyH_ready (rs := [19]) (by kernel_rfl) (by simp) (AllReadyH.cons (o := ⟨some 4, .assign (.tmp 176), 4, "law.go:155", #[⟨18, .data⟩, ⟨17, .chain⟩, ⟨0, .phase⟩, ⟨1, .phase⟩, ⟨2, .phase⟩, ⟨3, .phase⟩, ⟨4, .phase⟩, ⟨5, .phase⟩, ⟨6, .phase⟩, ⟨7, .phase⟩, ⟨8, .phase⟩, ⟨9, .phase⟩, ⟨10, .phase⟩, ⟨11, .phase⟩, ⟨12, .phase⟩, ⟨13, .phase⟩, ⟨14, .phase⟩, ⟨15, .phase⟩, ⟨16, .phase⟩, ⟨17, .phase⟩, ⟨18, .phase⟩], none⟩) rfl (fun KQ hK => ?_) AllReadyH.nil)
  go_simp
  refine hK.out _ _ T3.out.hold (fun hHeld => ?_)
  clear hK KQ
  try simp only [Act.put, List.setIfInBounds_toArray, List.set_cons_zero, List.set_cons_succ]
  refine wpAnyH_done (by kernel_rfl) ?_ _
  go_wp2_with fail
  go_ret
  exact ⟨rfl, _, T3.out.tail, HX.out.1, HX.out.2⟩
theorem ask_6 (W w : World) (p : Dp) (r q : Rp) (d e : DS) (gs : Nat) (h : SX W w p r q d e gs) (o : Oq) (hk : o.k = 6) (v0 : 0 ≤ o.v) (v1 : o.v < 4294967296) :
    Calls Tryz.prog 7 #[.pointer (some ⟨gs, 0, none⟩), o.val] w fun x w' => x = .returned (.bool true) ∧ ∃ q', SX W w' p r q' (d.put o.a o.v o.m) (e.putS o.a o.v o.m) gs := by
  have T0 := hid (h.begin o)
  have HG : q.g = r.g := h.tp.g
  have hs := h.sim
  have hu := h.u
  have hue := hs.U hu
  have hok := h.tp.own.ok
  have HA := hid (fun w (hw : DB w p d) => put_any w p d hw hu o.a o.v o.m v0 v1)
  have HR := hid (fun w (hw : RDB w q e) => by
    have := rput_any w q e hw hue o.a o.v o.m v0 v1
    rw [hs.putE, HG] at this
    exact this)
  have HX : Hid (DS.Sim (d.put o.a o.v o.m) (e.putS o.a o.v o.m) ∧ (d.put o.a o.v o.m).m.U) := hid ⟨(DS.Sim.put d _ _ _).symm.trans (hs.putS _ _ _), (DS.Sim.put d _ _ _).U (U_put hu _ _ _)⟩
  have HOw := hid (fun x => turned_any x o.m)
  clear h hu hs hok HG hue v0 v1
  obtain ⟨k, a, b, c, v, m, on⟩ := o
  simp only at hk
  subst hk
  simp only [Oq.val, Oq.cs, sdC, ptr, Mp.v] at *
  generalize d.put a v m = d2 at *
  generalize e.putS a v m = e2 at *
  generalize d.putE a v m = f at *
  go_enter Tryz.func7, Tryz.ntmps7
  go_upto_region 1 with fail
  generalize World.alloc _ _ = X at *
  generalize w.heap.size = g3 at *
  obtain ⟨y0, y1, y2, y3, y4, y5, y6, y7, y8, y9⟩ := T0.out.ocl
  go_upto_region 19 with fail
  clear y0 y1 y2 y3 y4 y5 y6 y7 y8 y9
  have T1 := hid (T0.out.on (Below.refl _ _).drew)
  clear T0
  refine wp_region_held_drew (S := fun w => Cel w gs 48 [.pointer (some ⟨p.f.gm, 0, none⟩), .pointer (some ⟨p.g, 0, none⟩), .pointer (some ⟨r.g, 0, none⟩)] ∧ Cel w g3 33 [.int .i64 6, .int .i64 a, .int .i64 b, .int .i64 c, .int .u32 v, .bool m.s, .int .i64 m.p, .bool m.wr, .bool m.ex, .bool on]) (by kernel_rfl) T1.out.hold (fun hHeld => ?_)
  generalize World.drew _ = w1 at *
  refine tk 0 ⟨some 179, .move (.tmp 0), 25, "law.go:157", #[], none⟩ (.pointer (some ⟨gs, 0, none⟩)) ?_
  simp only [Act.put, List.setIfInBounds_toArray, List.set_cons_zero, List.set_cons_succ]
  refine tk 1 ⟨some 180, .nilCheck (.tmp 179), 0, "law.go:157", #[⟨0, .data⟩], none⟩ (.pointer (some ⟨gs, 0, none⟩)) ?_
  simp only [Act.put, List.setIfInBounds_toArray, List.set_cons_zero, List.set_cons_succ]
  refine tk 2 ⟨some 181, .fieldAddr 48 (.tmp 180) 1, 0, "law.go:157", #[⟨1, .data⟩], none⟩ (.pointer (some ⟨gs, 1, none⟩)) ?_
  simp only [Act.put, List.setIfInBounds_toArray, List.set_cons_zero, List.set_cons_succ]
  refine tk 3 ⟨some 182, .load 43 (.tmp 181), 43, "law.go:157", #[⟨2, .data⟩], none⟩ (.pointer (some ⟨p.g, 0, none⟩)) ?_ (hy := Or.inl ⟨by rfl, by intro w hSw; have hc : w.cell? ⟨gs, 1, none⟩ = some (.pointer (some ⟨p.g, 0, none⟩)) := hSw.1.cell 1; go_simp⟩)
  simp only [Act.put, List.setIfInBounds_toArray, List.set_cons_zero, List.set_cons_succ]
  refine tk 4 ⟨some 183, .fieldAddr 33 (.tmp 3) 1, 0, "law.go:157", #[], none⟩ (.pointer (some ⟨g3, 1, none⟩)) ?_
  simp only [Act.put, List.setIfInBounds_toArray, List.set_cons_zero, List.set_cons_succ]
  refine tk 5 ⟨some 184, .load 3 (.tmp 183), 3, "law.go:157", #[⟨4, .data⟩], none⟩ (.int .i64 a) ?_ (hy := Or.inl ⟨by rfl, by intro w hSw; have hc : w.cell? ⟨g3, 1, none⟩ = some (.int .i64 a) := hSw.2.cell 1; go_simp⟩)
  simp only [Act.put, List.setIfInBounds_toArray, List.set_cons_zero, List.set_cons_succ]
  refine tk 6 ⟨some 185, .fieldAddr 33 (.tmp 3) 4, 0, "law.go:157", #[], none⟩ (.pointer (some ⟨g3, 4, none⟩)) ?_
  simp only [Act.put, List.setIfInBounds_toArray, List.set_cons_zero, List.set_cons_succ]
  refine tk 7 ⟨some 186, .load 29 (.tmp 185), 29, "law.go:157", #[⟨6, .data⟩], none⟩ (.int .u32 v) ?_ (hy := Or.inl ⟨by rfl, by intro w hSw; have hc : w.cell? ⟨g3, 4, none⟩ = some (.int .u32 v) := hSw.2.cell 4; go_simp⟩)
  simp only [Act.put, List.setIfInBounds_toArray, List.set_cons_zero, List.set_cons_succ]
  refine tk 8 ⟨some 187, .fieldAddr 33 (.tmp 3) 5, 0, "law.go:157", #[], none⟩ (.pointer (some ⟨g3, 5, none⟩)) ?_
  simp only [Act.put, List.setIfInBounds_toArray, List.set_cons_zero, List.set_cons_succ]
  refine tk 9 ⟨some 188, .load 31 (.tmp 187), 31, "law.go:157", #[⟨8, .data⟩], none⟩ (.agg #[.bool m.s, .int .i64 m.p, .bool m.wr, .bool m.ex]) ?_ (hy := Or.inl ⟨by rfl, by intro w hSw; have z5 := hSw.2.cell 5; have z6 := hSw.2.cell 6; have z7 := hSw.2.cell 7; have z8 := hSw.2.cell 8; simp only [List.getElem?_cons_zero, List.getElem?_cons_succ] at z5 z6 z7 z8; go_simp⟩)
  simp only [Act.put, List.setIfInBounds_toArray, List.set_cons_zero, List.set_cons_succ]
  refine tk 12 ⟨some 191, .move (.tmp 0), 25, "law.go:157", #[], none⟩ (.pointer (some ⟨gs, 0, none⟩)) ?_
  simp only [Act.put, List.setIfInBounds_toArray, List.set_cons_zero, List.set_cons_succ]
  refine tk 13 ⟨some 192, .nilCheck (.tmp 191), 0, "law.go:157", #[⟨12, .data⟩], none⟩ (.pointer (some ⟨gs, 0, none⟩)) ?_
  simp only [Act.put, List.setIfInBounds_toArray, List.set_cons_zero, List.set_cons_succ]
  refine tk 14 ⟨some 193, .fieldAddr 48 (.tmp 192) 2, 0, "law.go:157", #[⟨13, .data⟩], none⟩ (.pointer (some ⟨gs, 2, none⟩)) ?_
  simp only [Act.put, List.setIfInBounds_toArray, List.set_cons_zero, List.set_cons_succ]
  refine tk 15 ⟨some 194, .load 45 (.tmp 193), 45, "law.go:157", #[⟨14, .data⟩], none⟩ (.pointer (some ⟨r.g, 0, none⟩)) ?_ (hy := Or.inl ⟨by rfl, by intro w hSw; have hc : w.cell? ⟨gs, 2, none⟩ = some (.pointer (some ⟨r.g, 0, none⟩)) := hSw.1.cell 2; go_simp⟩)
  simp only [Act.put, List.setIfInBounds_toArray, List.set_cons_zero, List.set_cons_succ]
  refine tk 16 ⟨some 195, .fieldAddr 33 (.tmp 3) 1, 0, "law.go:157", #[], none⟩ (.pointer (some ⟨g3, 1, none⟩)) ?_
  simp only [Act.put, List.setIfInBounds_toArray, List.set_cons_zero, List.set_cons_succ]
  refine tk 17 ⟨some 196, .load 3 (.tmp 195), 3, "law.go:157", #[⟨16, .data⟩], none⟩ (.int .i64 a) ?_ (hy := Or.inl ⟨by rfl, by intro w hSw; have hc : w.cell? ⟨g3, 1, none⟩ = some (.int .i64 a) := hSw.2.cell 1; go_simp⟩)
  simp only [Act.put, List.setIfInBounds_toArray, List.set_cons_zero, List.set_cons_succ]
  refine tk 18 ⟨some 197, .fieldAddr 33 (.tmp 3) 4, 0, "law.go:157", #[], none⟩ (.pointer (some ⟨g3, 4, none⟩)) ?_
  simp only [Act.put, List.setIfInBounds_toArray, List.set_cons_zero, List.set_cons_succ]
  refine tk 19 ⟨some 198, .load 29 (.tmp 197), 29, "law.go:157", #[⟨18, .data⟩], none⟩ (.int .u32 v) ?_ (hy := Or.inl ⟨by rfl, by intro w hSw; have hc : w.cell? ⟨g3, 4, none⟩ = some (.int .u32 v) := hSw.2.cell 4; go_simp⟩)
  simp only [Act.put, List.setIfInBounds_toArray, List.set_cons_zero, List.set_cons_succ]
  refine tk 20 ⟨some 199, .fieldAddr 33 (.tmp 3) 5, 0, "law.go:157", #[], none⟩ (.pointer (some ⟨g3, 5, none⟩)) ?_
  simp only [Act.put, List.setIfInBounds_toArray, List.set_cons_zero, List.set_cons_succ]
  refine tk 21 ⟨some 200, .load 31 (.tmp 199), 31, "law.go:157", #[⟨20, .data⟩], none⟩ (.agg #[.bool m.s, .int .i64 m.p, .bool m.wr, .bool m.ex]) ?_ (hy := Or.inl ⟨by rfl, by intro w hSw; have z5 := hSw.2.cell 5; have z6 := hSw.2.cell 6; have z7 := hSw.2.cell 7; have z8 := hSw.2.cell 8; simp only [List.getElem?_cons_zero, List.getElem?_cons_succ] at z5 z6 z7 z8; go_simp⟩)
  simp only [Act.put, List.setIfInBounds_toArray, List.set_cons_zero, List.set_cons_succ]
  refine wpAnyH_ready (rs := [10]) (by kernel_rfl) (by simp) (AllReadyH.cons (o := ⟨some 189, .call { callee := .value (.func 36), args := #[.tmp 188], argTypes := #[31] }, 88, "law.go:157", #[⟨9, .data⟩], none⟩) rfl (fun KQ hK => ?_) AllReadyH.nil)
  go_simp
  refine (HOw.out _).mono ?_
  rintro x w9 ⟨rfl, hb⟩
  have T9 := hid (T1.out.on hb)
  clear hb T1
  go_wp2_with fail
  refine hK.out _ _ T9.out.hold (fun hHeld => ?_)
  clear hK KQ
  try simp only [Act.put, List.setIfInBounds_toArray, List.set_cons_zero, List.set_cons_succ]
  refine wpAnyH_ready (rs := [11]) (by kernel_rfl) (by simp) (AllReadyH.cons (o := ⟨some 190, .call { callee := .value (.func 35), args := #[.tmp 182, .tmp 184, .tmp 186, .tmp 189], argTypes := #[43, 3, 29, 88] }, 37, "law.go:157", #[⟨3, .data⟩, ⟨5, .data⟩, ⟨7, .data⟩, ⟨10, .data⟩, ⟨10, .chain⟩], none⟩) rfl (fun KQ hK => ?_) AllReadyH.nil)
  go_simp
  refine (HA.out _ T9.out.own).mono ?_
  rintro x w2 ⟨rfl, hd, hb⟩
  have T2 := hid (T9.out.stepF hd hb)
  clear hd hb T9
  go_wp2_with fail
  refine hK.out _ _ T2.out.hold (fun hHeld => ?_)
  clear hK KQ
  try simp only [Act.put, List.setIfInBounds_toArray, List.set_cons_zero, List.set_cons_succ]
  refine wpAnyH_ready (rs := [22]) (by kernel_rfl) (by simp) (AllReadyH.cons (o := ⟨some 201, .call { callee := .value (.func 37), args := #[.tmp 194, .tmp 196, .tmp 198, .tmp 200], argTypes := #[45, 3, 29, 31] }, 3, "law.go:157", #[⟨15, .data⟩, ⟨17, .data⟩, ⟨19, .data⟩, ⟨21, .data⟩, ⟨11, .chain⟩], none⟩) rfl (fun KQ hK => ?_) AllReadyH.nil)
  go_simp
  refine (HR.out _ T2.out.doc).mono ?_
  rintro x w3 ⟨rfl, r1, hg⟩
  have T3 := hid (T2.out.stepR hg)
  clear hg T2
  go_wp2_with fail
  refine hK.out _ _ T3.out.hold (fun hHeld => ?_)
  clear hK KQ
  try simp only [Act.put, List.setIfInBounds_toArray, List.set_cons_zero, List.set_cons_succ]
  refine tk 23 ⟨some 202, .binOp .eql 3 (.tmp 190) (.tmp 201) 3, 4, "law.go:157", #[⟨11, .data⟩, ⟨22, .data⟩], none⟩ (.bool true) ?_
  simp only [Act.put, List.setIfInBounds_toArray, List.set_cons_zero, List.set_cons_succ]
  refine wpAnyH_ready (rs := [24]) (by kernel_rfl) (by simp) (AllReadyH.cons (o := ⟨some 4, .assign (.tmp 202), 4, "law.go:157", #[⟨23, .data⟩, ⟨22, .chain⟩, ⟨0, .phase⟩, ⟨1, .phase⟩, ⟨2, .phase⟩, ⟨3, .phase⟩, ⟨4, .phase⟩, ⟨5, .phase⟩, ⟨6, .phase⟩, ⟨7, .phase⟩, ⟨8, .phase⟩, ⟨9, .phase⟩, ⟨10, .phase⟩, ⟨11, .phase⟩, ⟨12, .phase⟩, ⟨13, .phase⟩, ⟨14, .phase⟩, ⟨15, .phase⟩, ⟨16, .phase⟩, ⟨17, .phase⟩, ⟨18, .phase⟩, ⟨19, .phase⟩, ⟨20, .phase⟩, ⟨21, .phase⟩, ⟨22, .phase⟩, ⟨23, .phase⟩], none⟩) rfl (fun KQ hK => ?_) AllReadyH.nil)
  go_simp
  refine hK.out _ _ T3.out.hold (fun hHeld => ?_)
  clear hK KQ
  try simp only [Act.put, List.setIfInBounds_toArray, List.set_cons_zero, List.set_cons_succ]
  refine wpAnyH_done (by kernel_rfl) ?_ _
  go_wp2_with fail
  go_ret
  exact ⟨rfl, _, T3.out.tail, HX.out.1, HX.out.2⟩
theorem ask_7 (W w : World) (p : Dp) (r q : Rp) (d e : DS) (gs : Nat) (h : SX W w p r q d e gs) (o : Oq) (hk : o.k = 7) (v0 : 0 ≤ o.v) (v1 : o.v < 4294967296) :
    Calls Tryz.prog 7 #[.pointer (some ⟨gs, 0, none⟩), o.val] w fun x w' => x = .returned (.bool true) ∧ ∃ q', SX W w' p r q' (d.cut o.a o.v) (e.cutS o.a o.v) gs := by
  have T0 := hid (h.begin o)
  have HG : q.g = r.g := h.tp.g
  have hs := h.sim
  have hu := h.u
  have hue := hs.U hu
  have hok := h.tp.own.ok
  have HA := hid (fun w (hw : DB w p d) => cut_any w p d hw hu o.a o.v v0 v1)
  have HR := hid (fun w (hw : RDB w q e) => by
    have := rcut_any w q e hw hue o.a o.v v0 v1
    rw [hs.cutE, HG] at this
    exact this)
  have HX : Hid (DS.Sim (d.cut o.a o.v) (e.cutS o.a o.v) ∧ (d.cut o.a o.v).m.U) := hid ⟨(DS.Sim.cut d _ _).symm.trans (hs.cutS _ _), (DS.Sim.cut d _ _).U (U_cut hu _ _)⟩
  clear h hu hs hok HG hue v0 v1
  obtain ⟨k, a, b, c, v, m, on⟩ := o
  simp only at hk
  subst hk
  simp only [Oq.val, Oq.cs, sdC, ptr] at *
  generalize d.cut a v = d2 at *
  generalize e.cutS a v = e2 at *
  generalize d.cutE a v = f at *
  go_enter Tryz.func7, Tryz.ntmps7
  go_upto_region 1 with fail
  generalize World.alloc _ _ = X at *
  generalize w.heap.size = g3 at *
  obtain ⟨y0, y1, y2, y3, y4, y5, y6, y7, y8, y9⟩ := T0.out.ocl
  go_upto_region 21 with fail
  clear y0 y1 y2 y3 y4 y5 y6 y7 y8 y9
  have T1 := hid (T0.out.on (Below.refl _ _).drew)
  clear T0
  refine wp_region_held_drew (S := fun w => Cel w gs 48 [.pointer (some ⟨p.f.gm, 0, none⟩), .pointer (some ⟨p.g, 0, none⟩), .pointer (some ⟨r.g, 0, none⟩)] ∧ Cel w g3 33 [.int .i64 7, .int .i64 a, .int .i64 b, .int .i64 c, .int .u32 v, .bool m.s, .int .i64 m.p, .bool m.wr, .bool m.ex, .bool on]) (by kernel_rfl) T1.out.hold (fun hHeld => ?_)
  generalize World.drew _ = w1 at *
  refine tk 0 ⟨some 205, .move (.tmp 0), 25, "law.go:159", #[], none⟩ (.pointer (some ⟨gs, 0, none⟩)) ?_
  simp only [Act.put, List.setIfInBounds_toArray, List.set_cons_zero, List.set_cons_succ]
  refine tk 1 ⟨some 206, .nilCheck (.tmp 205), 0, "law.go:159", #[⟨0, .data⟩], none⟩ (.pointer (some ⟨gs, 0, none⟩)) ?_
  simp only [Act.put, List.setIfInBounds_toArray, List.set_cons_zero, List.set_cons_succ]
  refine tk 2 ⟨some 207, .fieldAddr 48 (.tmp 206) 1, 0, "law.go:159", #[⟨1, .data⟩], none⟩ (.pointer (some ⟨gs, 1, none⟩)) ?_
  simp only [Act.put, List.setIfInBounds_toArray, List.set_cons_zero, List.set_cons_succ]
  refine tk 3 ⟨some 208, .load 43 (.tmp 207), 43, "law.go:159", #[⟨2, .data⟩], none⟩ (.pointer (some ⟨p.g, 0, none⟩)) ?_ (hy := Or.inl ⟨by rfl, by intro w hSw; have hc : w.cell? ⟨gs, 1, none⟩ = some (.pointer (some ⟨p.g, 0, none⟩)) := hSw.1.cell 1; go_simp⟩)
  simp only [Act.put, List.setIfInBounds_toArray, List.set_cons_zero, List.set_cons_succ]
  refine tk 4 ⟨some 209, .fieldAddr 33 (.tmp 3) 1, 0, "law.go:159", #[], none⟩ (.pointer (some ⟨g3, 1, none⟩)) ?_
  simp only [Act.put, List.setIfInBounds_toArray, List.set_cons_zero, List.set_cons_succ]
  refine tk 5 ⟨some 210, .load 3 (.tmp 209), 3, "law.go:159", #[⟨4, .data⟩], none⟩ (.int .i64 a) ?_ (hy := Or.inl ⟨by rfl, by intro w hSw; have hc : w.cell? ⟨g3, 1, none⟩ = some (.int .i64 a) := hSw.2.cell 1; go_simp⟩)
  simp only [Act.put, List.setIfInBounds_toArray, List.set_cons_zero, List.set_cons_succ]
  refine tk 6 ⟨some 211, .fieldAddr 33 (.tmp 3) 4, 0, "law.go:159", #[], none⟩ (.pointer (some ⟨g3, 4, none⟩)) ?_
  simp only [Act.put, List.setIfInBounds_toArray, List.set_cons_zero, List.set_cons_succ]
  refine tk 7 ⟨some 212, .load 29 (.tmp 211), 29, "law.go:159", #[⟨6, .data⟩], none⟩ (.int .u32 v) ?_ (hy := Or.inl ⟨by rfl, by intro w hSw; have hc : w.cell? ⟨g3, 4, none⟩ = some (.int .u32 v) := hSw.2.cell 4; go_simp⟩)
  simp only [Act.put, List.setIfInBounds_toArray, List.set_cons_zero, List.set_cons_succ]
  refine tk 9 ⟨some 214, .move (.tmp 0), 25, "law.go:159", #[], none⟩ (.pointer (some ⟨gs, 0, none⟩)) ?_
  simp only [Act.put, List.setIfInBounds_toArray, List.set_cons_zero, List.set_cons_succ]
  refine tk 10 ⟨some 215, .nilCheck (.tmp 214), 0, "law.go:159", #[⟨9, .data⟩], none⟩ (.pointer (some ⟨gs, 0, none⟩)) ?_
  simp only [Act.put, List.setIfInBounds_toArray, List.set_cons_zero, List.set_cons_succ]
  refine tk 11 ⟨some 216, .fieldAddr 48 (.tmp 215) 2, 0, "law.go:159", #[⟨10, .data⟩], none⟩ (.pointer (some ⟨gs, 2, none⟩)) ?_
  simp only [Act.put, List.setIfInBounds_toArray, List.set_cons_zero, List.set_cons_succ]
  refine tk 12 ⟨some 217, .load 45 (.tmp 216), 45, "law.go:159", #[⟨11, .data⟩], none⟩ (.pointer (some ⟨r.g, 0, none⟩)) ?_ (hy := Or.inl ⟨by rfl, by intro w hSw; have hc : w.cell? ⟨gs, 2, none⟩ = some (.pointer (some ⟨r.g, 0, none⟩)) := hSw.1.cell 2; go_simp⟩)
  simp only [Act.put, List.setIfInBounds_toArray, List.set_cons_zero, List.set_cons_succ]
  refine tk 13 ⟨some 218, .fieldAddr 33 (.tmp 3) 1, 0, "law.go:159", #[], none⟩ (.pointer (some ⟨g3, 1, none⟩)) ?_
  simp only [Act.put, List.setIfInBounds_toArray, List.set_cons_zero, List.set_cons_succ]
  refine tk 14 ⟨some 219, .load 3 (.tmp 218), 3, "law.go:159", #[⟨13, .data⟩], none⟩ (.int .i64 a) ?_ (hy := Or.inl ⟨by rfl, by intro w hSw; have hc : w.cell? ⟨g3, 1, none⟩ = some (.int .i64 a) := hSw.2.cell 1; go_simp⟩)
  simp only [Act.put, List.setIfInBounds_toArray, List.set_cons_zero, List.set_cons_succ]
  refine tk 15 ⟨some 220, .fieldAddr 33 (.tmp 3) 4, 0, "law.go:159", #[], none⟩ (.pointer (some ⟨g3, 4, none⟩)) ?_
  simp only [Act.put, List.setIfInBounds_toArray, List.set_cons_zero, List.set_cons_succ]
  refine tk 16 ⟨some 221, .load 29 (.tmp 220), 29, "law.go:159", #[⟨15, .data⟩], none⟩ (.int .u32 v) ?_ (hy := Or.inl ⟨by rfl, by intro w hSw; have hc : w.cell? ⟨g3, 4, none⟩ = some (.int .u32 v) := hSw.2.cell 4; go_simp⟩)
  simp only [Act.put, List.setIfInBounds_toArray, List.set_cons_zero, List.set_cons_succ]
  refine wpAnyH_ready (rs := [8]) (by kernel_rfl) (by simp) (AllReadyH.cons (o := ⟨some 213, .call { callee := .value (.func 38), args := #[.tmp 208, .tmp 210, .tmp 212], argTypes := #[43, 3, 29] }, 37, "law.go:159", #[⟨3, .data⟩, ⟨5, .data⟩, ⟨7, .data⟩], none⟩) rfl (fun KQ hK => ?_) AllReadyH.nil)
  go_simp
  refine (HA.out _ T1.out.own).mono ?_
  rintro x w2 ⟨rfl, hd, hb⟩
  have T2 := hid (T1.out.stepF hd hb)
  clear hd hb T1
  go_wp2_with fail
  refine hK.out _ _ T2.out.hold (fun hHeld => ?_)
  clear hK KQ
  try simp only [Act.put, List.setIfInBounds_toArray, List.set_cons_zero, List.set_cons_succ]
  refine wpAnyH_ready (rs := [17]) (by kernel_rfl) (by simp) (AllReadyH.cons (o := ⟨some 222, .call { callee := .value (.func 39), args := #[.tmp 217, .tmp 219, .tmp 221], argTypes := #[45, 3, 29] }, 3, "law.go:159", #[⟨12, .data⟩, ⟨14, .data⟩, ⟨16, .data⟩, ⟨8, .chain⟩], none⟩) rfl (fun KQ hK => ?_) AllReadyH.nil)
  go_simp
  refine (HR.out _ T2.out.doc).mono ?_
  rintro x w3 ⟨rfl, r1, hg⟩
  have T3 := hid (T2.out.stepR hg)
  clear hg T2
  go_wp2_with fail
  refine hK.out _ _ T3.out.hold (fun hHeld => ?_)
  clear hK KQ
  try simp only [Act.put, List.setIfInBounds_toArray, List.set_cons_zero, List.set_cons_succ]
  refine tk 18 ⟨some 223, .binOp .eql 3 (.tmp 213) (.tmp 222) 3, 4, "law.go:159", #[⟨8, .data⟩, ⟨17, .data⟩], none⟩ (.bool true) ?_
  simp only [Act.put, List.setIfInBounds_toArray, List.set_cons_zero, List.set_cons_succ]
  refine wpAnyH_ready (rs := [19]) (by kernel_rfl) (by simp) (AllReadyH.cons (o := ⟨some 4, .assign (.tmp 223), 4, "law.go:159", #[⟨18, .data⟩, ⟨17, .chain⟩, ⟨0, .phase⟩, ⟨1, .phase⟩, ⟨2, .phase⟩, ⟨3, .phase⟩, ⟨4, .phase⟩, ⟨5, .phase⟩, ⟨6, .phase⟩, ⟨7, .phase⟩, ⟨8, .phase⟩, ⟨9, .phase⟩, ⟨10, .phase⟩, ⟨11, .phase⟩, ⟨12, .phase⟩, ⟨13, .phase⟩, ⟨14, .phase⟩, ⟨15, .phase⟩, ⟨16, .phase⟩, ⟨17, .phase⟩, ⟨18, .phase⟩], none⟩) rfl (fun KQ hK => ?_) AllReadyH.nil)
  go_simp
  refine hK.out _ _ T3.out.hold (fun hHeld => ?_)
  clear hK KQ
  try simp only [Act.put, List.setIfInBounds_toArray, List.set_cons_zero, List.set_cons_succ]
  refine wpAnyH_done (by kernel_rfl) ?_ _
  go_wp2_with fail
  go_ret
  exact ⟨rfl, _, T3.out.tail, HX.out.1, HX.out.2⟩
theorem ask_8 (W w : World) (p : Dp) (r q : Rp) (d e : DS) (gs : Nat) (h : SX W w p r q d e gs) (o : Oq) (hk : o.k = 8) (v0 : 0 ≤ o.v) (v1 : o.v < 4294967296) :
    Calls Tryz.prog 7 #[.pointer (some ⟨gs, 0, none⟩), o.val] w fun x w' => x = .returned (.bool true) ∧ ∃ q', SX W w' p r q' (d.look o.a o.v) (e) gs := by
  have T0 := hid (h.begin o)
  have HG : q.g = r.g := h.tp.g
  have hs := h.sim
  have hu := h.u
  have hue := hs.U hu
  have hok := h.tp.own.ok
  have HA := hid (fun w (hw : DB w p d) => at_any2 w p d hw hu o.a o.v v0 v1)
  have HR := hid (fun w (hw : RDB w q e) => by
    have := rat_any w q e hw hue o.a o.v v0 v1
    rw [hs.atM, hs.atE, HG] at this
    exact this)
  have HX : Hid (DS.Sim (d.look o.a o.v) e ∧ (d.look o.a o.v).m.U) := hid ⟨(DS.Sim.look d _ _).symm.trans hs, (DS.Sim.look d _ _).U hu⟩
  have HOw := hid (fun x => turned_any x (d.atM o.a o.v))
  clear h hu hs hok HG hue v0 v1
  obtain ⟨k, a, b, c, v, m, on⟩ := o
  simp only at hk
  subst hk
  simp only [Oq.val, Oq.cs, sdC, ptr, Mp.v] at *
  generalize d.look a v = d2 at *
  generalize d.atE a v = f at *
  generalize d.atM a v = M at *
  go_enter Tryz.func7, Tryz.ntmps7
  go_upto_region 1 with fail
  generalize World.alloc _ _ = X at *
  generalize w.heap.size = g3 at *
  obtain ⟨y0, y1, y2, y3, y4, y5, y6, y7, y8, y9⟩ := T0.out.ocl
  go_upto_region 23 with fail
  clear y0 y1 y2 y3 y4 y5 y6 y7 y8 y9
  have T1 := hid (T0.out.on (Below.refl _ _).drew)
  clear T0
  go_cut [17, 18] (fun v17 v18 wx => ∃ g17, v17 = .pointer (some ⟨g17, 0, none⟩) ∧ v18 = .int .i64 f ∧ Hid (TP W wx p r q d2 e [(g17, 88, [.bool M.s, .int .i64 M.p, .bool M.wr, .bool M.ex]), (g3, 33, [.int .i64 8, .int .i64 a, .int .i64 b, .int .i64 c, .int .u32 v, .bool m.s, .int .i64 m.p, .bool m.wr, .bool m.ex, .bool on]), (gs, 48, [.pointer (some ⟨p.f.gm, 0, none⟩), .pointer (some ⟨p.g, 0, none⟩), .pointer (some ⟨r.g, 0, none⟩)])]))
  case first =>
    refine wp_region_held_drew (S := fun w => Cel w gs 48 [.pointer (some ⟨p.f.gm, 0, none⟩), .pointer (some ⟨p.g, 0, none⟩), .pointer (some ⟨r.g, 0, none⟩)] ∧ Cel w g3 33 [.int .i64 8, .int .i64 a, .int .i64 b, .int .i64 c, .int .u32 v, .bool m.s, .int .i64 m.p, .bool m.wr, .bool m.ex, .bool on]) (by kernel_rfl) T1.out.hold (fun hHeld => ?_)
    generalize World.drew _ = w1 at *
    refine tk 0 ⟨some 227, .move (.tmp 0), 25, "law.go:161", #[], none⟩ (.pointer (some ⟨gs, 0, none⟩)) ?_
    simp only [Act.put, List.setIfInBounds_toArray, List.set_cons_zero, List.set_cons_succ]
    refine tk 1 ⟨some 228, .nilCheck (.tmp 227), 0, "law.go:161", #[⟨0, .data⟩], none⟩ (.pointer (some ⟨gs, 0, none⟩)) ?_
    simp only [Act.put, List.setIfInBounds_toArray, List.set_cons_zero, List.set_cons_succ]
    refine tk 2 ⟨some 229, .fieldAddr 48 (.tmp 228) 1, 0, "law.go:161", #[⟨1, .data⟩], none⟩ (.pointer (some ⟨gs, 1, none⟩)) ?_
    simp only [Act.put, List.setIfInBounds_toArray, List.set_cons_zero, List.set_cons_succ]
    refine tk 3 ⟨some 230, .load 43 (.tmp 229), 43, "law.go:161", #[⟨2, .data⟩], none⟩ (.pointer (some ⟨p.g, 0, none⟩)) ?_ (hy := Or.inl ⟨by rfl, by intro w hSw; have hc : w.cell? ⟨gs, 1, none⟩ = some (.pointer (some ⟨p.g, 0, none⟩)) := hSw.1.cell 1; go_simp⟩)
    simp only [Act.put, List.setIfInBounds_toArray, List.set_cons_zero, List.set_cons_succ]
    refine tk 4 ⟨some 231, .fieldAddr 33 (.tmp 3) 1, 0, "law.go:161", #[], none⟩ (.pointer (some ⟨g3, 1, none⟩)) ?_
    simp only [Act.put, List.setIfInBounds_toArray, List.set_cons_zero, List.set_cons_succ]
    refine tk 5 ⟨some 232, .load 3 (.tmp 231), 3, "law.go:161", #[⟨4, .data⟩], none⟩ (.int .i64 a) ?_ (hy := Or.inl ⟨by rfl, by intro w hSw; have hc : w.cell? ⟨g3, 1, none⟩ = some (.int .i64 a) := hSw.2.cell 1; go_simp⟩)
    simp only [Act.put, List.setIfInBounds_toArray, List.set_cons_zero, List.set_cons_succ]
    refine tk 6 ⟨some 233, .fieldAddr 33 (.tmp 3) 4, 0, "law.go:161", #[], none⟩ (.pointer (some ⟨g3, 4, none⟩)) ?_
    simp only [Act.put, List.setIfInBounds_toArray, List.set_cons_zero, List.set_cons_succ]
    refine tk 7 ⟨some 234, .load 29 (.tmp 233), 29, "law.go:161", #[⟨6, .data⟩], none⟩ (.int .u32 v) ?_ (hy := Or.inl ⟨by rfl, by intro w hSw; have hc : w.cell? ⟨g3, 4, none⟩ = some (.int .u32 v) := hSw.2.cell 4; go_simp⟩)
    simp only [Act.put, List.setIfInBounds_toArray, List.set_cons_zero, List.set_cons_succ]
    refine wpAnyH_ready (rs := [8, 12]) (by kernel_rfl) (by simp) (AllReadyH.cons (o := ⟨some 235, .call { callee := .value (.func 40), args := #[.tmp 230, .tmp 232, .tmp 234], argTypes := #[43, 3, 29] }, 91, "law.go:161", #[⟨3, .data⟩, ⟨5, .data⟩, ⟨7, .data⟩], none⟩) rfl (fun KQ hK => ?_) (AllReadyH.cons (o := ⟨some 17, .alloc 88, 0, "law.go:161", #[], none⟩) rfl (fun KQ hK => ?_) AllReadyH.nil))
    · go_simp
      refine (HA.out _ T1.out.own).mono ?_
      rintro x w2 ⟨rfl, hd, hb⟩
      have T1c := hid (T1.out.stepF hd hb)
      clear hd hb T1
      go_wp2_with fail
      refine hK.out _ _ T1c.out.hold (fun hHeld => ?_)
      clear hK KQ
      try simp only [Act.put, List.setIfInBounds_toArray, List.set_cons_zero, List.set_cons_succ]
      refine tk 9 ⟨some 226, .move (.tmp 235), 91, "law.go:161", #[⟨8, .data⟩], none⟩ (.tuple #[.agg #[.bool M.s, .int .i64 M.p, .bool M.wr, .bool M.ex], .int .i64 f]) ?_
      simp only [Act.put, List.setIfInBounds_toArray, List.set_cons_zero, List.set_cons_succ]
      refine tk 10 ⟨some 236, .extract (.tmp 226) 0, 88, "law.go:161", #[⟨9, .data⟩], none⟩ (.agg #[.bool M.s, .int .i64 M.p, .bool M.wr, .bool M.ex]) ?_
      simp only [Act.put, List.setIfInBounds_toArray, List.set_cons_zero, List.set_cons_succ]
      refine tk 11 ⟨some 237, .extract (.tmp 226) 1, 37, "law.go:161", #[⟨9, .data⟩, { on := 13, ground := .gcOnly Departure.lateStores }], none⟩ (.int .i64 f) ?_
      simp only [Act.put, List.setIfInBounds_toArray, List.set_cons_zero, List.set_cons_succ]
      refine wpAnyH_ready (rs := [12]) (by kernel_rfl) (by simp) (AllReadyH.cons (o := ⟨some 17, .alloc 88, 0, "law.go:161", #[], none⟩) rfl (fun KQ hK => ?_) AllReadyH.nil)
      go_simp
      have T1n := hid (T1c.out.box 88 [.bool false, .int .i64 0, .bool false, .bool false])
      have HN : Hid (∀ y ∈ ([(g3, 33, [.int .i64 8, .int .i64 a, .int .i64 b, .int .i64 c, .int .u32 v, .bool m.s, .int .i64 m.p, .bool m.wr, .bool m.ex, .bool on]), (gs, 48, [.pointer (some ⟨p.f.gm, 0, none⟩), .pointer (some ⟨p.g, 0, none⟩), .pointer (some ⟨r.g, 0, none⟩)])] : List (Nat × TypeId × List Value)), y.1 ≠ w2.heap.size) := hid (fun y hy => by have := (T1c.out.bag y hy).lt; omega)
      clear T1c
      generalize World.alloc _ _ = wz at *
      generalize w2.heap.size = gn at *
      refine hK.out _ _ T1n.out.tail.hold (fun hHeld => ?_)
      clear hK KQ
      try simp only [Act.put, List.setIfInBounds_toArray, List.set_cons_zero, List.set_cons_succ]
      refine wpAnyH_ready (rs := [13]) (by kernel_rfl) (by simp) (AllReadyH.cons (o := ⟨none, .store 88 (.tmp 17) (.tmp 236), 0, "law.go:161", #[⟨12, .data⟩, ⟨10, .data⟩, ⟨8, .chain⟩, ⟨0, .phase⟩, ⟨1, .phase⟩, ⟨2, .phase⟩, ⟨3, .phase⟩, ⟨4, .phase⟩, ⟨5, .phase⟩, ⟨6, .phase⟩, ⟨7, .phase⟩, ⟨8, .phase⟩, ⟨9, .phase⟩, ⟨10, .phase⟩, { on := 11, ground := .textOnly Departure.lateStores }, ⟨12, .phase⟩], none⟩) rfl (fun KQ hK => ?_) AllReadyH.nil)
      rw [if_pos (by rfl)]
      refine wp_store_st 88 _ _ rfl gn [.bool M.s, .int .i64 M.p, .bool M.wr, .bool M.ex] rfl rfl (T1n.out.get 0 rfl) size49 rfl rfl ?_
      intro w4 hc hb hs
      have TZ := hid (T1n.out.put HN.out hc hb)
      clear hc hb hs T1n HN
      refine hK.out _ _ TZ.out.tail.hold (fun hHeld => ?_)
      clear hK KQ
      try simp only [Act.put]
      refine wpAnyH_ready (rs := [14]) (by kernel_rfl) (by simp) (AllReadyH.cons (o := ⟨some 18, .assign (.tmp 237), 37, "law.go:161", #[⟨11, .data⟩, ⟨13, .chain⟩, ⟨0, .phase⟩, ⟨1, .phase⟩, ⟨2, .phase⟩, ⟨3, .phase⟩, ⟨4, .phase⟩, ⟨5, .phase⟩, ⟨6, .phase⟩, ⟨7, .phase⟩, ⟨8, .phase⟩, ⟨9, .phase⟩, ⟨10, .phase⟩, ⟨11, .phase⟩, ⟨12, .phase⟩, ⟨13, .phase⟩], none⟩) rfl (fun KQ hK => ?_) AllReadyH.nil)
      go_simp
      refine hK.out _ _ TZ.out.tail.hold (fun hHeld => ?_)
      clear hK KQ
      try simp only [Act.put, List.setIfInBounds_toArray, List.set_cons_zero, List.set_cons_succ]
      refine wpAnyH_done (by kernel_rfl) ?_ _
      go_wp2_with fail
      go_meet
      exact ⟨_, rfl, rfl, TZ⟩
    · go_simp
      have T1b := hid (T1.out.box 88 [.bool false, .int .i64 0, .bool false, .bool false])
      have HN : Hid (∀ y ∈ ([(g3, 33, [.int .i64 8, .int .i64 a, .int .i64 b, .int .i64 c, .int .u32 v, .bool m.s, .int .i64 m.p, .bool m.wr, .bool m.ex, .bool on]), (gs, 48, [.pointer (some ⟨p.f.gm, 0, none⟩), .pointer (some ⟨p.g, 0, none⟩), .pointer (some ⟨r.g, 0, none⟩)])] : List (Nat × TypeId × List Value)), y.1 ≠ w1.heap.size) := hid (fun y hy => by have := (T1.out.bag y hy).lt; omega)
      clear T1
      generalize World.alloc _ _ = wz at *
      generalize w1.heap.size = gn at *
      refine hK.out _ _ T1b.out.tail.hold (fun hHeld => ?_)
      clear hK KQ
      try simp only [Act.put, List.setIfInBounds_toArray, List.set_cons_zero, List.set_cons_succ]
      refine wpAnyH_ready (rs := [8]) (by kernel_rfl) (by simp) (AllReadyH.cons (o := ⟨some 235, .call { callee := .value (.func 40), args := #[.tmp 230, .tmp 232, .tmp 234], argTypes := #[43, 3, 29] }, 91, "law.go:161", #[⟨3, .data⟩, ⟨5, .data⟩, ⟨7, .data⟩], none⟩) rfl (fun KQ hK => ?_) AllReadyH.nil)
      go_simp
      refine (HA.out _ T1b.out.own).mono ?_
      rintro x w2 ⟨rfl, hd, hb⟩
      have T1n := hid (T1b.out.stepF hd hb)
      clear hd hb T1b
      go_wp2_with fail
      refine hK.out _ _ T1n.out.tail.hold (fun hHeld => ?_)
      clear hK KQ
      try simp only [Act.put, List.setIfInBounds_toArray, List.set_cons_zero, List.set_cons_succ]
      refine tk 9 ⟨some 226, .move (.tmp 235), 91, "law.go:161", #[⟨8, .data⟩], none⟩ (.tuple #[.agg #[.bool M.s, .int .i64 M.p, .bool M.wr, .bool M.ex], .int .i64 f]) ?_
      simp only [Act.put, List.setIfInBounds_toArray, List.set_cons_zero, List.set_cons_succ]
      refine tk 10 ⟨some 236, .extract (.tmp 226) 0, 88, "law.go:161", #[⟨9, .data⟩], none⟩ (.agg #[.bool M.s, .int .i64 M.p, .bool M.wr, .bool M.ex]) ?_
      simp only [Act.put, List.setIfInBounds_toArray, List.set_cons_zero, List.set_cons_succ]
      refine tk 11 ⟨some 237, .extract (.tmp 226) 1, 37, "law.go:161", #[⟨9, .data⟩, { on := 13, ground := .gcOnly Departure.lateStores }], none⟩ (.int .i64 f) ?_
      simp only [Act.put, List.setIfInBounds_toArray, List.set_cons_zero, List.set_cons_succ]
      refine wpAnyH_ready (rs := [13]) (by kernel_rfl) (by simp) (AllReadyH.cons (o := ⟨none, .store 88 (.tmp 17) (.tmp 236), 0, "law.go:161", #[⟨12, .data⟩, ⟨10, .data⟩, ⟨8, .chain⟩, ⟨0, .phase⟩, ⟨1, .phase⟩, ⟨2, .phase⟩, ⟨3, .phase⟩, ⟨4, .phase⟩, ⟨5, .phase⟩, ⟨6, .phase⟩, ⟨7, .phase⟩, ⟨8, .phase⟩, ⟨9, .phase⟩, ⟨10, .phase⟩, { on := 11, ground := .textOnly Departure.lateStores }, ⟨12, .phase⟩], none⟩) rfl (fun KQ hK => ?_) AllReadyH.nil)
      rw [if_pos (by rfl)]
      refine wp_store_st 88 _ _ rfl gn [.bool M.s, .int .i64 M.p, .bool M.wr, .bool M.ex] rfl rfl (T1n.out.get 0 rfl) size49 rfl rfl ?_
      intro w4 hc hb hs
      have TZ := hid (T1n.out.put HN.out hc hb)
      clear hc hb hs T1n HN
      refine hK.out _ _ TZ.out.tail.hold (fun hHeld => ?_)
      clear hK KQ
      try simp only [Act.put]
      refine wpAnyH_ready (rs := [14]) (by kernel_rfl) (by simp) (AllReadyH.cons (o := ⟨some 18, .assign (.tmp 237), 37, "law.go:161", #[⟨11, .data⟩, ⟨13, .chain⟩, ⟨0, .phase⟩, ⟨1, .phase⟩, ⟨2, .phase⟩, ⟨3, .phase⟩, ⟨4, .phase⟩, ⟨5, .phase⟩, ⟨6, .phase⟩, ⟨7, .phase⟩, ⟨8, .phase⟩, ⟨9, .phase⟩, ⟨10, .phase⟩, ⟨11, .phase⟩, ⟨12, .phase⟩, ⟨13, .phase⟩], none⟩) rfl (fun KQ hK => ?_) AllReadyH.nil)
      go_simp
      refine hK.out _ _ TZ.out.tail.hold (fun hHeld => ?_)
      clear hK KQ
      try simp only [Act.put, List.setIfInBounds_toArray, List.set_cons_zero, List.set_cons_succ]
      refine wpAnyH_done (by kernel_rfl) ?_ _
      go_wp2_with fail
      go_meet
      exact ⟨_, rfl, rfl, TZ⟩
  case rest =>
    obtain ⟨g17, rfl, rfl, T2⟩ := hcut
    clear T1
    go_upto_region 24 with fail
    have T3 := hid (T2.out.on (Below.refl _ _).drew)
    clear T2
    go_cut [19, 20] (fun v19 v20 wx => ∃ g19, v19 = .pointer (some ⟨g19, 0, none⟩) ∧ v20 = .int .i64 f ∧ Hid (TP W wx p r q d2 e [(g19, 31, [.bool M.s, .int .i64 M.p, .bool M.wr, .bool M.ex]), (g17, 88, [.bool M.s, .int .i64 M.p, .bool M.wr, .bool M.ex]), (g3, 33, [.int .i64 8, .int .i64 a, .int .i64 b, .int .i64 c, .int .u32 v, .bool m.s, .int .i64 m.p, .bool m.wr, .bool m.ex, .bool on]), (gs, 48, [.pointer (some ⟨p.f.gm, 0, none⟩), .pointer (some ⟨p.g, 0, none⟩), .pointer (some ⟨r.g, 0, none⟩)])]))
    case first =>
      refine wp_region_held_drew (S := fun w => Cel w gs 48 [.pointer (some ⟨p.f.gm, 0, none⟩), .pointer (some ⟨p.g, 0, none⟩), .pointer (some ⟨r.g, 0, none⟩)] ∧ Cel w g3 33 [.int .i64 8, .int .i64 a, .int .i64 b, .int .i64 c, .int .u32 v, .bool m.s, .int .i64 m.p, .bool m.wr, .bool m.ex, .bool on]) (by kernel_rfl) T3.out.tail.hold (fun hHeld => ?_)
      generalize World.drew _ = w1 at *
      refine tk 0 ⟨some 239, .move (.tmp 0), 25, "law.go:162", #[], none⟩ (.pointer (some ⟨gs, 0, none⟩)) ?_
      simp only [Act.put, List.setIfInBounds_toArray, List.set_cons_zero, List.set_cons_succ]
      refine tk 1 ⟨some 240, .nilCheck (.tmp 239), 0, "law.go:162", #[⟨0, .data⟩], none⟩ (.pointer (some ⟨gs, 0, none⟩)) ?_
      simp only [Act.put, List.setIfInBounds_toArray, List.set_cons_zero, List.set_cons_succ]
      refine tk 2 ⟨some 241, .fieldAddr 48 (.tmp 240) 2, 0, "law.go:162", #[⟨1, .data⟩], none⟩ (.pointer (some ⟨gs, 2, none⟩)) ?_
      simp only [Act.put, List.setIfInBounds_toArray, List.set_cons_zero, List.set_cons_succ]
      refine tk 3 ⟨some 242, .load 45 (.tmp 241), 45, "law.go:162", #[⟨2, .data⟩], none⟩ (.pointer (some ⟨r.g, 0, none⟩)) ?_ (hy := Or.inl ⟨by rfl, by intro w hSw; have hc : w.cell? ⟨gs, 2, none⟩ = some (.pointer (some ⟨r.g, 0, none⟩)) := hSw.1.cell 2; go_simp⟩)
      simp only [Act.put, List.setIfInBounds_toArray, List.set_cons_zero, List.set_cons_succ]
      refine tk 4 ⟨some 243, .fieldAddr 33 (.tmp 3) 1, 0, "law.go:162", #[], none⟩ (.pointer (some ⟨g3, 1, none⟩)) ?_
      simp only [Act.put, List.setIfInBounds_toArray, List.set_cons_zero, List.set_cons_succ]
      refine tk 5 ⟨some 244, .load 3 (.tmp 243), 3, "law.go:162", #[⟨4, .data⟩], none⟩ (.int .i64 a) ?_ (hy := Or.inl ⟨by rfl, by intro w hSw; have hc : w.cell? ⟨g3, 1, none⟩ = some (.int .i64 a) := hSw.2.cell 1; go_simp⟩)
      simp only [Act.put, List.setIfInBounds_toArray, List.set_cons_zero, List.set_cons_succ]
      refine tk 6 ⟨some 245, .fieldAddr 33 (.tmp 3) 4, 0, "law.go:162", #[], none⟩ (.pointer (some ⟨g3, 4, none⟩)) ?_
      simp only [Act.put, List.setIfInBounds_toArray, List.set_cons_zero, List.set_cons_succ]
      refine tk 7 ⟨some 246, .load 29 (.tmp 245), 29, "law.go:162", #[⟨6, .data⟩], none⟩ (.int .u32 v) ?_ (hy := Or.inl ⟨by rfl, by intro w hSw; have hc : w.cell? ⟨g3, 4, none⟩ = some (.int .u32 v) := hSw.2.cell 4; go_simp⟩)
      simp only [Act.put, List.setIfInBounds_toArray, List.set_cons_zero, List.set_cons_succ]
      refine wpAnyH_ready (rs := [8, 12]) (by kernel_rfl) (by simp) (AllReadyH.cons (o := ⟨some 247, .call { callee := .value (.func 41), args := #[.tmp 242, .tmp 244, .tmp 246], argTypes := #[45, 3, 29] }, 93, "law.go:162", #[⟨3, .data⟩, ⟨5, .data⟩, ⟨7, .data⟩], none⟩) rfl (fun KQ hK => ?_) (AllReadyH.cons (o := ⟨some 19, .alloc 31, 0, "law.go:162", #[], none⟩) rfl (fun KQ hK => ?_) AllReadyH.nil))
      · go_simp
        refine (HR.out _ T3.out.doc).mono ?_
        rintro x w2 ⟨rfl, hb⟩
        have T3c := hid (T3.out.on hb)
        clear hb T3
        go_wp2_with fail
        refine hK.out _ _ T3c.out.tail.hold (fun hHeld => ?_)
        clear hK KQ
        try simp only [Act.put, List.setIfInBounds_toArray, List.set_cons_zero, List.set_cons_succ]
        refine tk 9 ⟨some 238, .move (.tmp 247), 93, "law.go:162", #[⟨8, .data⟩], none⟩ (.tuple #[.agg #[.bool M.s, .int .i64 M.p, .bool M.wr, .bool M.ex], .int .i64 f]) ?_
        simp only [Act.put, List.setIfInBounds_toArray, List.set_cons_zero, List.set_cons_succ]
        refine tk 10 ⟨some 248, .extract (.tmp 238) 0, 31, "law.go:162", #[⟨9, .data⟩], none⟩ (.agg #[.bool M.s, .int .i64 M.p, .bool M.wr, .bool M.ex]) ?_
        simp only [Act.put, List.setIfInBounds_toArray, List.set_cons_zero, List.set_cons_succ]
        refine tk 11 ⟨some 249, .extract (.tmp 238) 1, 3, "law.go:162", #[⟨9, .data⟩, { on := 13, ground := .gcOnly Departure.lateStores }], none⟩ (.int .i64 f) ?_
        simp only [Act.put, List.setIfInBounds_toArray, List.set_cons_zero, List.set_cons_succ]
        refine wpAnyH_ready (rs := [12]) (by kernel_rfl) (by simp) (AllReadyH.cons (o := ⟨some 19, .alloc 31, 0, "law.go:162", #[], none⟩) rfl (fun KQ hK => ?_) AllReadyH.nil)
        go_simp
        have T3n := hid (T3c.out.box 31 [.bool false, .int .i64 0, .bool false, .bool false])
        have HN : Hid (∀ y ∈ ([(g17, 88, [.bool M.s, .int .i64 M.p, .bool M.wr, .bool M.ex]), (g3, 33, [.int .i64 8, .int .i64 a, .int .i64 b, .int .i64 c, .int .u32 v, .bool m.s, .int .i64 m.p, .bool m.wr, .bool m.ex, .bool on]), (gs, 48, [.pointer (some ⟨p.f.gm, 0, none⟩), .pointer (some ⟨p.g, 0, none⟩), .pointer (some ⟨r.g, 0, none⟩)])] : List (Nat × TypeId × List Value)), y.1 ≠ w2.heap.size) := hid (fun y hy => by have := (T3c.out.bag y hy).lt; omega)
        clear T3c
        generalize World.alloc _ _ = wz at *
        generalize w2.heap.size = gn at *
        refine hK.out _ _ T3n.out.tail.tail.hold (fun hHeld => ?_)
        clear hK KQ
        try simp only [Act.put, List.setIfInBounds_toArray, List.set_cons_zero, List.set_cons_succ]
        refine wpAnyH_ready (rs := [13]) (by kernel_rfl) (by simp) (AllReadyH.cons (o := ⟨none, .store 31 (.tmp 19) (.tmp 248), 0, "law.go:162", #[⟨12, .data⟩, ⟨10, .data⟩, ⟨8, .chain⟩, ⟨0, .phase⟩, ⟨1, .phase⟩, ⟨2, .phase⟩, ⟨3, .phase⟩, ⟨4, .phase⟩, ⟨5, .phase⟩, ⟨6, .phase⟩, ⟨7, .phase⟩, ⟨8, .phase⟩, ⟨9, .phase⟩, ⟨10, .phase⟩, { on := 11, ground := .textOnly Departure.lateStores }, ⟨12, .phase⟩], none⟩) rfl (fun KQ hK => ?_) AllReadyH.nil)
        rw [if_pos (by rfl)]
        refine wp_store_st 31 _ _ rfl gn [.bool M.s, .int .i64 M.p, .bool M.wr, .bool M.ex] rfl rfl (T3n.out.get 0 rfl) size31 rfl rfl ?_
        intro w4 hc hb hs
        have TZ := hid (T3n.out.put HN.out hc hb)
        clear hc hb hs T3n HN
        refine hK.out _ _ TZ.out.tail.tail.hold (fun hHeld => ?_)
        clear hK KQ
        try simp only [Act.put]
        refine wpAnyH_ready (rs := [14]) (by kernel_rfl) (by simp) (AllReadyH.cons (o := ⟨some 20, .assign (.tmp 249), 3, "law.go:162", #[⟨11, .data⟩, ⟨13, .chain⟩, ⟨0, .phase⟩, ⟨1, .phase⟩, ⟨2, .phase⟩, ⟨3, .phase⟩, ⟨4, .phase⟩, ⟨5, .phase⟩, ⟨6, .phase⟩, ⟨7, .phase⟩, ⟨8, .phase⟩, ⟨9, .phase⟩, ⟨10, .phase⟩, ⟨11, .phase⟩, ⟨12, .phase⟩, ⟨13, .phase⟩], none⟩) rfl (fun KQ hK => ?_) AllReadyH.nil)
        go_simp
        refine hK.out _ _ TZ.out.tail.tail.hold (fun hHeld => ?_)
        clear hK KQ
        try simp only [Act.put, List.setIfInBounds_toArray, List.set_cons_zero, List.set_cons_succ]
        refine wpAnyH_done (by kernel_rfl) ?_ _
        go_wp2_with fail
        go_meet
        exact ⟨_, rfl, rfl, TZ⟩
      · go_simp
        have T3b := hid (T3.out.box 31 [.bool false, .int .i64 0, .bool false, .bool false])
        have HN : Hid (∀ y ∈ ([(g17, 88, [.bool M.s, .int .i64 M.p, .bool M.wr, .bool M.ex]), (g3, 33, [.int .i64 8, .int .i64 a, .int .i64 b, .int .i64 c, .int .u32 v, .bool m.s, .int .i64 m.p, .bool m.wr, .bool m.ex, .bool on]), (gs, 48, [.pointer (some ⟨p.f.gm, 0, none⟩), .pointer (some ⟨p.g, 0, none⟩), .pointer (some ⟨r.g, 0, none⟩)])] : List (Nat × TypeId × List Value)), y.1 ≠ w1.heap.size) := hid (fun y hy => by have := (T3.out.bag y hy).lt; omega)
        clear T3
        generalize World.alloc _ _ = wz at *
        generalize w1.heap.size = gn at *
        refine hK.out _ _ T3b.out.tail.tail.hold (fun hHeld => ?_)
        clear hK KQ
        try simp only [Act.put, List.setIfInBounds_toArray, List.set_cons_zero, List.set_cons_succ]
        refine wpAnyH_ready (rs := [8]) (by kernel_rfl) (by simp) (AllReadyH.cons (o := ⟨some 247, .call { callee := .value (.func 41), args := #[.tmp 242, .tmp 244, .tmp 246], argTypes := #[45, 3, 29] }, 93, "law.go:162", #[⟨3, .data⟩, ⟨5, .data⟩, ⟨7, .data⟩], none⟩) rfl (fun KQ hK => ?_) AllReadyH.nil)
        go_simp
        refine (HR.out _ T3b.out.doc).mono ?_
        rintro x w2 ⟨rfl, hb⟩
        have T3n := hid (T3b.out.on hb)
        clear hb T3b
        go_wp2_with fail
        refine hK.out _ _ T3n.out.tail.tail.hold (fun hHeld => ?_)
        clear hK KQ
        try simp only [Act.put, List.setIfInBounds_toArray, List.set_cons_zero, List.set_cons_succ]
        refine tk 9 ⟨some 238, .move (.tmp 247), 93, "law.go:162", #[⟨8, .data⟩], none⟩ (.tuple #[.agg #[.bool M.s, .int .i64 M.p, .bool M.wr, .bool M.ex], .int .i64 f]) ?_
        simp only [Act.put, List.setIfInBounds_toArray, List.set_cons_zero, List.set_cons_succ]
        refine tk 10 ⟨some 248, .extract (.tmp 238) 0, 31, "law.go:162", #[⟨9, .data⟩], none⟩ (.agg #[.bool M.s, .int .i64 M.p, .bool M.wr, .bool M.ex]) ?_
        simp only [Act.put, List.setIfInBounds_toArray, List.set_cons_zero, List.set_cons_succ]
        refine tk 11 ⟨some 249, .extract (.tmp 238) 1, 3, "law.go:162", #[⟨9, .data⟩, { on := 13, ground := .gcOnly Departure.lateStores }], none⟩ (.int .i64 f) ?_
        simp only [Act.put, List.setIfInBounds_toArray, List.set_cons_zero, List.set_cons_succ]
        refine wpAnyH_ready (rs := [13]) (by kernel_rfl) (by simp) (AllReadyH.cons (o := ⟨none, .store 31 (.tmp 19) (.tmp 248), 0, "law.go:162", #[⟨12, .data⟩, ⟨10, .data⟩, ⟨8, .chain⟩, ⟨0, .phase⟩, ⟨1, .phase⟩, ⟨2, .phase⟩, ⟨3, .phase⟩, ⟨4, .phase⟩, ⟨5, .phase⟩, ⟨6, .phase⟩, ⟨7, .phase⟩, ⟨8, .phase⟩, ⟨9, .phase⟩, ⟨10, .phase⟩, { on := 11, ground := .textOnly Departure.lateStores }, ⟨12, .phase⟩], none⟩) rfl (fun KQ hK => ?_) AllReadyH.nil)
        rw [if_pos (by rfl)]
        refine wp_store_st 31 _ _ rfl gn [.bool M.s, .int .i64 M.p, .bool M.wr, .bool M.ex] rfl rfl (T3n.out.get 0 rfl) size31 rfl rfl ?_
        intro w4 hc hb hs
        have TZ := hid (T3n.out.put HN.out hc hb)
        clear hc hb hs T3n HN
        refine hK.out _ _ TZ.out.tail.tail.hold (fun hHeld => ?_)
        clear hK KQ
        try simp only [Act.put]
        refine wpAnyH_ready (rs := [14]) (by kernel_rfl) (by simp) (AllReadyH.cons (o := ⟨some 20, .assign (.tmp 249), 3, "law.go:162", #[⟨11, .data⟩, ⟨13, .chain⟩, ⟨0, .phase⟩, ⟨1, .phase⟩, ⟨2, .phase⟩, ⟨3, .phase⟩, ⟨4, .phase⟩, ⟨5, .phase⟩, ⟨6, .phase⟩, ⟨7, .phase⟩, ⟨8, .phase⟩, ⟨9, .phase⟩, ⟨10, .phase⟩, ⟨11, .phase⟩, ⟨12, .phase⟩, ⟨13, .phase⟩], none⟩) rfl (fun KQ hK => ?_) AllReadyH.nil)
        go_simp
        refine hK.out _ _ TZ.out.tail.tail.hold (fun hHeld => ?_)
        clear hK KQ
        try simp only [Act.put, List.setIfInBounds_toArray, List.set_cons_zero, List.set_cons_succ]
        refine wpAnyH_done (by kernel_rfl) ?_ _
        go_wp2_with fail
        go_meet
        exact ⟨_, rfl, rfl, TZ⟩
    case rest =>
      obtain ⟨g19, rfl, rfl, T4⟩ := hcut
      clear T3
      go_upto_region 25 with fail
      have T5 := hid (T4.out.on (Below.refl _ _).drew)
      clear T4
      refine wp_region_held_drew (S := fun w => Cel w g17 88 [.bool M.s, .int .i64 M.p, .bool M.wr, .bool M.ex] ∧ Cel w g19 31 [.bool M.s, .int .i64 M.p, .bool M.wr, .bool M.ex]) (by kernel_rfl) ⟨T5.out.get 1 rfl, T5.out.get 0 rfl⟩ (fun hHeld => ?_)
      generalize World.drew _ = w1 at *
      refine tk 0 ⟨some 250, .load 88 (.tmp 17), 88, "law.go:163", #[], none⟩ (.agg #[.bool M.s, .int .i64 M.p, .bool M.wr, .bool M.ex]) ?_ (hy := yieldsIf_load_mid (by rfl) _ _ rfl _ _ rfl _ _ (fun w hSw => hSw.1.range) under49 rfl (by rw [size49]; rfl))
      simp only [Act.put, List.setIfInBounds_toArray, List.set_cons_zero, List.set_cons_succ]
      refine tk 1 ⟨some 251, .load 31 (.tmp 19), 31, "law.go:163", #[], none⟩ (.agg #[.bool M.s, .int .i64 M.p, .bool M.wr, .bool M.ex]) ?_ (hy := yieldsIf_load_mid (by rfl) _ _ rfl _ _ rfl _ _ (fun w hSw => hSw.2.range) under31 rfl (by rw [size31]; rfl))
      simp only [Act.put, List.setIfInBounds_toArray, List.set_cons_zero, List.set_cons_succ]
      refine wpAnyH_ready (rs := [2]) (by kernel_rfl) (by simp) (AllReadyH.cons (o := ⟨some 252, .call { callee := .value (.func 36), args := #[.tmp 251], argTypes := #[31] }, 88, "law.go:163", #[⟨1, .data⟩], none⟩) rfl (fun KQ hK => ?_) AllReadyH.nil)
      go_simp
      refine (HOw.out _).mono ?_
      rintro x w9 ⟨rfl, hb⟩
      have T6 := hid (T5.out.on hb)
      clear hb T5
      go_wp2_with fail
      refine hK.out _ _ ⟨T6.out.get 1 rfl, T6.out.get 0 rfl⟩ (fun hHeld => ?_)
      clear hK KQ
      try simp only [Act.put, List.setIfInBounds_toArray, List.set_cons_zero, List.set_cons_succ]
      refine tk 3 ⟨some 253, .binOp .eql 88 (.tmp 250) (.tmp 252) 88, 4, "law.go:163", #[⟨0, .data⟩, ⟨2, .data⟩], none⟩ (.bool true) ?_
      simp only [Act.put, List.setIfInBounds_toArray, List.set_cons_zero, List.set_cons_succ]
      refine tk 4 ⟨some 254, .move (.tmp 253), 4, "law.go:163", #[⟨3, .data⟩, ⟨2, .chain⟩], none⟩ (.bool true) ?_
      simp only [Act.put, List.setIfInBounds_toArray, List.set_cons_zero, List.set_cons_succ]
      refine tk 5 ⟨some 255, .move (.tmp 18), 37, "law.go:163", #[⟨4, .guard⟩], some (4, true)⟩ (.int .i64 f) ?_
      simp only [Act.put, List.setIfInBounds_toArray, List.set_cons_zero, List.set_cons_succ]
      refine tk 6 ⟨some 256, .move (.tmp 20), 3, "law.go:163", #[⟨4, .guard⟩], some (4, true)⟩ (.int .i64 f) ?_
      simp only [Act.put, List.setIfInBounds_toArray, List.set_cons_zero, List.set_cons_succ]
      refine tk 7 ⟨some 257, .binOp .eql 3 (.tmp 255) (.tmp 256) 3, 4, "law.go:163", #[⟨5, .data⟩, ⟨6, .data⟩, ⟨4, .guard⟩], some (4, true)⟩ (.bool true) ?_
      simp only [Act.put, List.setIfInBounds_toArray, List.set_cons_zero, List.set_cons_succ]
      refine tk 8 ⟨some 258, .pick (.tmp 254) (.tmp 257) (.const (.bool false)), 4, "law.go:163", #[⟨4, .data⟩, ⟨7, .data⟩], none⟩ (.bool true) ?_
      simp only [Act.put, List.setIfInBounds_toArray, List.set_cons_zero, List.set_cons_succ]
      refine wpAnyH_ready (rs := [9]) (by kernel_rfl) (by simp) (AllReadyH.cons (o := ⟨some 4, .assign (.tmp 258), 4, "law.go:163", #[⟨8, .data⟩, ⟨4, .chain⟩, ⟨0, .phase⟩, ⟨1, .phase⟩, ⟨2, .phase⟩, ⟨3, .phase⟩, ⟨4, .phase⟩, ⟨5, .phase⟩, ⟨6, .phase⟩, ⟨7, .phase⟩, ⟨8, .phase⟩], none⟩) rfl (fun KQ hK => ?_) AllReadyH.nil)
      go_simp
      refine hK.out _ _ ⟨T6.out.get 1 rfl, T6.out.get 0 rfl⟩ (fun hHeld => ?_)
      clear hK KQ
      try simp only [Act.put, List.setIfInBounds_toArray, List.set_cons_zero, List.set_cons_succ]
      refine wpAnyH_done (by kernel_rfl) ?_ _
      go_wp2_with fail
      go_ret
      exact ⟨rfl, _, T6.out.tail.tail.tail, HX.out.1, HX.out.2⟩
theorem ask_9 (W w : World) (p : Dp) (r q : Rp) (d e : DS) (gs : Nat) (h : SX W w p r q d e gs) (o : Oq) (hk : o.k = 9) :
    Calls Tryz.prog 7 #[.pointer (some ⟨gs, 0, none⟩), o.val] w fun x w' => x = .returned (.bool true) ∧ ∃ q' d', SX W w' p r q' d' e gs := by
  have T0 := hid (h.begin o)
  have HG : q.g = r.g := h.tp.g
  have hs := h.sim
  have hu := h.u
  have hue := hs.U hu
  have hok := h.tp.own.ok
  have HA := hid (fun w (hw : DB w p d) => list_p w p d hw hu o.a)
  have HR := hid (fun w (hw : RDB w q e) => by
    have := list_r w q d e hs hw hu o.a
    rw [HG] at this
    exact this)
  have HSm := hid (fun w ao bo c c' hA hB => sameList_any w ao bo c c' (d.lst o.a) hA hB (d.lst_len o.a))
  have HX := hid (And.intro hs hu)
  clear h hu hs hok HG hue
  obtain ⟨k, a, b, c, v, m, on⟩ := o
  simp only at hk
  subst hk
  simp only [Oq.val, Oq.cs, sdC, ptr] at *
  generalize d.folE a = f at *
  generalize d.lst a = A at *
  go_enter Tryz.func7, Tryz.ntmps7
  go_upto_region 1 with fail
  generalize World.alloc _ _ = X at *
  generalize w.heap.size = g3 at *
  obtain ⟨y0, y1, y2, y3, y4, y5, y6, y7, y8, y9⟩ := T0.out.ocl
  go_upto_region 26 with fail
  clear y0 y1 y2 y3 y4 y5 y6 y7 y8 y9
  have T1 := hid (T0.out.on (Below.refl _ _).drew)
  clear T0
  refine wp_region_held_drew (S := fun w => Cel w gs 48 [.pointer (some ⟨p.f.gm, 0, none⟩), .pointer (some ⟨p.g, 0, none⟩), .pointer (some ⟨r.g, 0, none⟩)] ∧ Cel w g3 33 [.int .i64 9, .int .i64 a, .int .i64 b, .int .i64 c, .int .u32 v, .bool m.s, .int .i64 m.p, .bool m.wr, .bool m.ex, .bool on]) (by kernel_rfl) T1.out.hold (fun hHeld => ?_)
  generalize World.drew _ = w1 at *
  refine tk 0 ⟨some 260, .move (.tmp 0), 25, "law.go:165", #[], none⟩ (.pointer (some ⟨gs, 0, none⟩)) ?_
  simp only [Act.put, List.setIfInBounds_toArray, List.set_cons_zero, List.set_cons_succ]
  refine tk 1 ⟨some 261, .nilCheck (.tmp 260), 0, "law.go:165", #[⟨0, .data⟩], none⟩ (.pointer (some ⟨gs, 0, none⟩)) ?_
  simp only [Act.put, List.setIfInBounds_toArray, List.set_cons_zero, List.set_cons_succ]
  refine tk 2 ⟨some 262, .fieldAddr 48 (.tmp 261) 1, 0, "law.go:165", #[⟨1, .data⟩], none⟩ (.pointer (some ⟨gs, 1, none⟩)) ?_
  simp only [Act.put, List.setIfInBounds_toArray, List.set_cons_zero, List.set_cons_succ]
  refine tk 3 ⟨some 263, .load 43 (.tmp 262), 43, "law.go:165", #[⟨2, .data⟩], none⟩ (.pointer (some ⟨p.g, 0, none⟩)) ?_ (hy := Or.inl ⟨by rfl, by intro w hSw; have hc : w.cell? ⟨gs, 1, none⟩ = some (.pointer (some ⟨p.g, 0, none⟩)) := hSw.1.cell 1; go_simp⟩)
  simp only [Act.put, List.setIfInBounds_toArray, List.set_cons_zero, List.set_cons_succ]
  refine tk 4 ⟨some 264, .fieldAddr 33 (.tmp 3) 1, 0, "law.go:165", #[], none⟩ (.pointer (some ⟨g3, 1, none⟩)) ?_
  simp only [Act.put, List.setIfInBounds_toArray, List.set_cons_zero, List.set_cons_succ]
  refine tk 5 ⟨some 265, .load 3 (.tmp 264), 3, "law.go:165", #[⟨4, .data⟩], none⟩ (.int .i64 a) ?_ (hy := Or.inl ⟨by rfl, by intro w hSw; have hc : w.cell? ⟨g3, 1, none⟩ = some (.int .i64 a) := hSw.2.cell 1; go_simp⟩)
  simp only [Act.put, List.setIfInBounds_toArray, List.set_cons_zero, List.set_cons_succ]
  refine wpAnyH_ready (rs := [6]) (by kernel_rfl) (by simp) (AllReadyH.cons (o := ⟨some 266, .call { callee := .value (.func 42), args := #[.tmp 263, .tmp 265], argTypes := #[43, 3] }, 96, "law.go:165", #[⟨3, .data⟩, ⟨5, .data⟩], none⟩) rfl (fun KQ hK => ?_) AllReadyH.nil)
  go_simp
  refine (HA.out _ T1.out.own).mono ?_
  rintro x w2 ⟨ao, ca, d2, rfl, hq, hd, hsm, hb⟩
  have T2 := hid (T1.out.stepF hd hb)
  have QA := hid hq
  have HX2 := hid (And.intro (hsm.symm.trans HX.out.1) (hsm.U HX.out.2))
  clear hd hb T1 hq hsm HX
  go_wp2_with fail
  refine hK.out _ _ T2.out.hold (fun hHeld => ?_)
  clear hK KQ
  try simp only [Act.put, List.setIfInBounds_toArray, List.set_cons_zero, List.set_cons_succ]
  refine tk 7 ⟨some 259, .move (.tmp 266), 96, "law.go:165", #[⟨6, .data⟩], none⟩ (.tuple #[.slice ao A.length ca, .int .i64 f]) ?_
  simp only [Act.put, List.setIfInBounds_toArray, List.set_cons_zero, List.set_cons_succ]
  refine tk 8 ⟨some 267, .extract (.tmp 259) 0, 95, "law.go:165", #[⟨7, .data⟩], none⟩ (.slice ao A.length ca) ?_
  simp only [Act.put, List.setIfInBounds_toArray, List.set_cons_zero, List.set_cons_succ]
  refine tk 9 ⟨some 268, .extract (.tmp 259) 1, 37, "law.go:165", #[⟨7, .data⟩, { on := 10, ground := .gcOnly Departure.lateStores }], none⟩ (.int .i64 f) ?_
  simp only [Act.put, List.setIfInBounds_toArray, List.set_cons_zero, List.set_cons_succ]
  refine wpAnyH_ready (rs := [10]) (by kernel_rfl) (by simp) (AllReadyH.cons (o := ⟨some 21, .assign (.tmp 267), 95, "law.go:165", #[⟨8, .data⟩, ⟨6, .chain⟩, ⟨0, .phase⟩, ⟨1, .phase⟩, ⟨2, .phase⟩, ⟨3, .phase⟩, ⟨4, .phase⟩, ⟨5, .phase⟩, ⟨6, .phase⟩, ⟨7, .phase⟩, ⟨8, .phase⟩, { on := 9, ground := .textOnly Departure.lateStores }], none⟩) rfl (fun KQ hK => ?_) AllReadyH.nil)
  go_simp
  refine hK.out _ _ T2.out.hold (fun hHeld => ?_)
  clear hK KQ
  try simp only [Act.put, List.setIfInBounds_toArray, List.set_cons_zero, List.set_cons_succ]
  refine wpAnyH_ready (rs := [11]) (by kernel_rfl) (by simp) (AllReadyH.cons (o := ⟨some 22, .assign (.tmp 268), 37, "law.go:165", #[⟨9, .data⟩, ⟨10, .chain⟩, ⟨0, .phase⟩, ⟨1, .phase⟩, ⟨2, .phase⟩, ⟨3, .phase⟩, ⟨4, .phase⟩, ⟨5, .phase⟩, ⟨6, .phase⟩, ⟨7, .phase⟩, ⟨8, .phase⟩, ⟨9, .phase⟩, ⟨10, .phase⟩], none⟩) rfl (fun KQ hK => ?_) AllReadyH.nil)
  go_simp
  refine hK.out _ _ T2.out.hold (fun hHeld => ?_)
  clear hK KQ
  try simp only [Act.put, List.setIfInBounds_toArray, List.set_cons_zero, List.set_cons_succ]
  refine wpAnyH_done (by kernel_rfl) ?_ _
  have T3 := hid (T2.out.on (Below.refl _ _).drew)
  have QA3 := hid (QA.out.on (Below.refl _ _).drew)
  clear T2 QA
  go_upto_region 27 with fail
  refine wp_region_held_drew (S := fun w => Cel w gs 48 [.pointer (some ⟨p.f.gm, 0, none⟩), .pointer (some ⟨p.g, 0, none⟩), .pointer (some ⟨r.g, 0, none⟩)] ∧ Cel w g3 33 [.int .i64 9, .int .i64 a, .int .i64 b, .int .i64 c, .int .u32 v, .bool m.s, .int .i64 m.p, .bool m.wr, .bool m.ex, .bool on]) (by kernel_rfl) T3.out.hold (fun hHeld => ?_)
  generalize World.drew _ = w3 at *
  refine tk 0 ⟨some 270, .move (.tmp 0), 25, "law.go:166", #[], none⟩ (.pointer (some ⟨gs, 0, none⟩)) ?_
  simp only [Act.put, List.setIfInBounds_toArray, List.set_cons_zero, List.set_cons_succ]
  refine tk 1 ⟨some 271, .nilCheck (.tmp 270), 0, "law.go:166", #[⟨0, .data⟩], none⟩ (.pointer (some ⟨gs, 0, none⟩)) ?_
  simp only [Act.put, List.setIfInBounds_toArray, List.set_cons_zero, List.set_cons_succ]
  refine tk 2 ⟨some 272, .fieldAddr 48 (.tmp 271) 2, 0, "law.go:166", #[⟨1, .data⟩], none⟩ (.pointer (some ⟨gs, 2, none⟩)) ?_
  simp only [Act.put, List.setIfInBounds_toArray, List.set_cons_zero, List.set_cons_succ]
  refine tk 3 ⟨some 273, .load 45 (.tmp 272), 45, "law.go:166", #[⟨2, .data⟩], none⟩ (.pointer (some ⟨r.g, 0, none⟩)) ?_ (hy := Or.inl ⟨by rfl, by intro w hSw; have hc : w.cell? ⟨gs, 2, none⟩ = some (.pointer (some ⟨r.g, 0, none⟩)) := hSw.1.cell 2; go_simp⟩)
  simp only [Act.put, List.setIfInBounds_toArray, List.set_cons_zero, List.set_cons_succ]
  refine tk 4 ⟨some 274, .fieldAddr 33 (.tmp 3) 1, 0, "law.go:166", #[], none⟩ (.pointer (some ⟨g3, 1, none⟩)) ?_
  simp only [Act.put, List.setIfInBounds_toArray, List.set_cons_zero, List.set_cons_succ]
  refine tk 5 ⟨some 275, .load 3 (.tmp 274), 3, "law.go:166", #[⟨4, .data⟩], none⟩ (.int .i64 a) ?_ (hy := Or.inl ⟨by rfl, by intro w hSw; have hc : w.cell? ⟨g3, 1, none⟩ = some (.int .i64 a) := hSw.2.cell 1; go_simp⟩)
  simp only [Act.put, List.setIfInBounds_toArray, List.set_cons_zero, List.set_cons_succ]
  refine wpAnyH_ready (rs := [6]) (by kernel_rfl) (by simp) (AllReadyH.cons (o := ⟨some 276, .call { callee := .value (.func 43), args := #[.tmp 273, .tmp 275], argTypes := #[45, 3] }, 99, "law.go:166", #[⟨3, .data⟩, ⟨5, .data⟩], none⟩) rfl (fun KQ hK => ?_) AllReadyH.nil)
  go_simp
  refine (HR.out _ T3.out.doc).mono ?_
  rintro x w4 ⟨bo, cb, rfl, hq, hb⟩
  have T4 := hid (T3.out.on hb)
  have QA4 := hid (QA3.out.on hb)
  have QB4 := hid hq
  clear hb T3 QA3 hq
  go_wp2_with fail
  refine hK.out _ _ T4.out.hold (fun hHeld => ?_)
  clear hK KQ
  try simp only [Act.put, List.setIfInBounds_toArray, List.set_cons_zero, List.set_cons_succ]
  refine tk 7 ⟨some 269, .move (.tmp 276), 99, "law.go:166", #[⟨6, .data⟩], none⟩ (.tuple #[.slice bo A.length cb, .int .i64 f]) ?_
  simp only [Act.put, List.setIfInBounds_toArray, List.set_cons_zero, List.set_cons_succ]
  refine tk 8 ⟨some 277, .extract (.tmp 269) 0, 98, "law.go:166", #[⟨7, .data⟩], none⟩ (.slice bo A.length cb) ?_
  simp only [Act.put, List.setIfInBounds_toArray, List.set_cons_zero, List.set_cons_succ]
  refine tk 9 ⟨some 278, .extract (.tmp 269) 1, 3, "law.go:166", #[⟨7, .data⟩, { on := 10, ground := .gcOnly Departure.lateStores }], none⟩ (.int .i64 f) ?_
  simp only [Act.put, List.setIfInBounds_toArray, List.set_cons_zero, List.set_cons_succ]
  refine wpAnyH_ready (rs := [10]) (by kernel_rfl) (by simp) (AllReadyH.cons (o := ⟨some 23, .assign (.tmp 277), 98, "law.go:166", #[⟨8, .data⟩, ⟨6, .chain⟩, ⟨0, .phase⟩, ⟨1, .phase⟩, ⟨2, .phase⟩, ⟨3, .phase⟩, ⟨4, .phase⟩, ⟨5, .phase⟩, ⟨6, .phase⟩, ⟨7, .phase⟩, ⟨8, .phase⟩, { on := 9, ground := .textOnly Departure.lateStores }], none⟩) rfl (fun KQ hK => ?_) AllReadyH.nil)
  go_simp
  refine hK.out _ _ T4.out.hold (fun hHeld => ?_)
  clear hK KQ
  try simp only [Act.put, List.setIfInBounds_toArray, List.set_cons_zero, List.set_cons_succ]
  refine wpAnyH_ready (rs := [11]) (by kernel_rfl) (by simp) (AllReadyH.cons (o := ⟨some 24, .assign (.tmp 278), 3, "law.go:166", #[⟨9, .data⟩, ⟨10, .chain⟩, ⟨0, .phase⟩, ⟨1, .phase⟩, ⟨2, .phase⟩, ⟨3, .phase⟩, ⟨4, .phase⟩, ⟨5, .phase⟩, ⟨6, .phase⟩, ⟨7, .phase⟩, ⟨8, .phase⟩, ⟨9, .phase⟩, ⟨10, .phase⟩], none⟩) rfl (fun KQ hK => ?_) AllReadyH.nil)
  go_simp
  refine hK.out _ _ T4.out.hold (fun hHeld => ?_)
  clear hK KQ
  try simp only [Act.put, List.setIfInBounds_toArray, List.set_cons_zero, List.set_cons_succ]
  refine wpAnyH_done (by kernel_rfl) ?_ _
  go_wp2_with (go_at_call 44; refine (HSm.out _ _ _ _ _ QA4.out QB4.out).mono ?_; rintro x w5 ⟨rfl, hb⟩; have T5 := hid (T4.out.on hb); clear hb T4)
  go_ret
  exact ⟨rfl, _, _, T5.out.tail, HX2.out.1, HX2.out.2⟩
end Go.Proofs.YtgbpbfnpeeciaaaGreat
