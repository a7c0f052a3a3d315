import Derived.Test.YtgbpbfnpeeciaaaGreatP11
import Derived.Test.YtgbpbfnpeeciaaaGreatP01
namespace Go.Proofs.YtgbpbfnpeeciaaaGreat
open Go.RowKit
set_option maxHeartbeats 8000000
set_option maxRecDepth 100000
theorem two_in (cur : List Value) (off : Nat) (x y : Value) (h : off + 2 ≤ cur.length) : cur.take off ++ ([x, y] ++ cur.drop (off + 2)) = (cur.set off x).set (off + 1) y := by
  apply List.ext_getElem?
  intro j
  rw [List.getElem?_set, List.getElem?_set, List.length_set]
  by_cases h1 : j < off
  · rw [List.getElem?_append_left (by simp; omega), List.getElem?_take_of_lt h1, if_neg (by omega), if_neg (by omega)]
  · rw [List.getElem?_append_right (by simp; omega)]
    have e : (cur.take off).length = off := by simp; omega
    rw [e]
    by_cases h2 : j = off
    · subst h2; simp; omega
    · by_cases h3 : j = off + 1
      · subst h3; simp; omega
      · rw [List.getElem?_append_right (by simp; omega), List.getElem?_drop, if_neg (by omega), if_neg (by omega)]
        congr 1
        simp
        omega
theorem wp_copy_two {op : Oper} {a : Act} {w : World} {K : Act → World → Prop} {Q : Exit → Act → World → Prop} (d s : Operand) (ho : op.op = .call { callee := .builtin .copy, args := #[d, s], argTypes := #[102, 102] })
    (g off n c gs : Nat) (hd : a.eval d = .slice (some ⟨g, off, none⟩) n c) (hs : a.eval s = .slice (some ⟨gs, 0, none⟩) 2 2) (t : TypeId) (cur : List Value) (hg : Cel w g t cur) (x y : Int) (hsrc : Cel w gs 178 (two x y)) (hfit : off + 2 ≤ cur.length) (hn : 2 ≤ n)
    (h : ∀ w', Cel w' g t ((cur.set off (.int .u32 x)).set (off + 1) (.int .u32 y)) → ButL [g] w w' → w'.heap.size = w.heap.size → K (a.put op.dst (goInt 2)) w') : op.wp Tryz.prog a w K Q := by
  have hrun := run_copy_row (P := Tryz.prog) w 102 102 op.type 29 g off n c ⟨gs, 0, none⟩ 2 2 cur.toArray t (two x y) under24 size32 hg (by show 2 = min 2 n; omega) hsrc.src (by simp [two]; exact hfit) (by simp [two, Value.oneCell'])
  unfold Oper.wp
  have e := two_in cur off (.int .u32 x) (.int .u32 y) hfit
  simp only [two, List.length_cons, List.length_nil, Nat.zero_add, Nat.reduceAdd, List.append_assoc, e] at hrun
  simp [execOp, ho, resolve, invoke, builtin, hd, hs, hrun, Result.andThen]
  exact h _ (hg.set _) (.setRow _ _ _ (by simp)) (by simp)
def DS.lay (d : DS) (k : Nat) (x : En) : DS := { d with E := d.E.set k x }
theorem DS.Ok.lay {d : DS} (h : d.Ok) (k : Nat) (x : En) (hx : x.ok = true) (ho : x.o < (d.m.ns : Int)) : (d.lay k x).Ok := by
  obtain ⟨a, b, c, e, f, g⟩ := h
  refine ⟨by simpa [DS.lay] using a, b, fun j hj => ?_, fun j hj => ?_, f, g⟩
  · by_cases hjk : j = k
    · subst hjk
      have hj' : j < d.E.length := by rw [a]; exact hj
      simp [DS.at, DS.lay, List.getD_eq_getElem?_getD, List.getElem?_set_self hj', hx]
    · simpa [DS.at, DS.lay, List.getD_eq_getElem?_getD, List.getElem?_set_ne (Ne.symm hjk)] using c j hj
  · by_cases hjk : j = k
    · subst hjk
      have hj' : j < d.E.length := by rw [a]; exact hj
      simpa [DS.at, DS.lay, List.getD_eq_getElem?_getD, List.getElem?_set_self hj'] using ho
    · simpa [DS.at, DS.lay, List.getD_eq_getElem?_getD, List.getElem?_set_ne (Ne.symm hjk)] using e j hj
theorem u32s_set2 (L : List Int) (j : Nat) (x y : Int) : ((u32s L).set j (.int .u32 x)).set (j + 1) (.int .u32 y) = u32s ((L.set j x).set (j + 1) y) := by rw [u32s_set, u32s_set]
theorem DB.laid {w w' : World} {p : Dp} {d : DS} (h : DB w p d) (k : Nat) (hk : k < d.m.ns) (x : En) (hx : x.ok = true) (ho : x.o < (d.m.ns : Int)) (hc : Cel w' p.gw 29 (((u32s d.ws).set (1 + 2 * k) (.int .u32 (e0 x))).set (1 + 2 * k + 1) (.int .u32 (e1 x)))) (hb : ButL [p.gw] w w') : DB w' p (d.lay k x) := by
  refine h.words ?_ hb (h.ok.lay k x hx ho)
  rw [u32s_set2] at hc
  rw [wdsOf_set d.b d.E k x (by rw [h.ok.len]; exact hk), show 2 + 2 * k = 1 + 2 * k + 1 by omega]
  exact hc
theorem lay_any (W : World) (p : Dp) (d : DS) (h : DB W p d) (k : Nat) (hk : k < d.m.ns) (x : En) (hx : x.ok = true) (ho : x.o < (d.m.ns : Int)) :
    Calls Tryz.prog 60 #[ptr p.g, .int .i64 (k : Int), x.v] W fun e W' => e = .returned (.tuple #[]) ∧ DB W' p (d.lay k x) ∧ ButL [p.gw] W W' := by
  have B0 := hid (bag_one W 125 x.cs)
  have HX := hid (h.on (below_one W (.cells x.cs.toArray 125)))
  have HE := hid (fun W => encode_any W x)
  have n64 := h.ok.n64
  have HP := hid (fun W => place_any W (k : Int) (by omega) (by omega))
  have HK : Hid (k < d.m.ns) := hid hk
  have HO := hid (And.intro hx ho)
  obtain ⟨N, hN⟩ : ∃ N, N = 1 + 2 * d.m.ns := ⟨_, rfl⟩
  have HN := hid hN
  have i0 : 0 ≤ 1 + 2 * (k : Int) := by omega
  have i1 : 1 + 2 * (k : Int) ≤ (N : Int) := by omega
  have i2 : ¬ (N = (1 + 2 * (k : Int)).toNat) := by omega
  clear h hk hx ho n64 hN
  simp only [ptr, En.v, twoV] at HE ⊢
  go_enter Tryz.func60, Tryz.ntmps60
  go_upto_region 1 with fail
  generalize W.alloc _ = X at *
  generalize hg : W.heap.size = g5 at B0 ⊢
  have HG := hid hg
  clear hg
  go_upto_region 2 with (first | (refine wpList_load_mid rfl 125 _ rfl g5 0 rfl _ _ ((B0.out.get 0 rfl).range) underE rfl (by rw [sizeE]; rfl) ?_) | (go_at_call 103; refine (HE.out _).mono ?_; rintro e w1 ⟨rfl, hb⟩; have B1 := hid (B0.out.on hb); have HX1 := hid (HX.out.on hb); clear hb) | (refine wpList_store_st rfl 178 _ _ rfl w1.heap.size (two (e0 x) (e1 x)) rfl rfl (Cel.new w1 178 (two 0 0)) sizeA rfl rfl ?_; intro w2 hc hb hs; have B2 := hid (B1.out.add hc hb); have HX2 := hid ((HX1.out.on (below_one w1 (.cells (two 0 0).toArray 178))).frame hb (fun q hq hm => by rw [List.mem_singleton] at hm; have := HX1.out.lt q hq; omega)); clear hc hb hs))
  clear B0 B1 HX HX1
  have HL : Hid (w1.heap.size ≠ p.gw) := hid (fun e => by have := (B2.out.get 0 rfl); rw [e] at this; exact absurd (this.ty HX2.out.wds) (by decide))
  generalize w1.heap.size = g6 at *
  have B3 := hid (B2.out.on (Below.refl _ _).drew)
  have HX3 := hid (HX2.out.on (Below.refl _ _).drew)
  clear B2 HX2
  refine wp_region_held_drew (S := fun w => (Cel w p.g 117 [ptr p.f.gm, .slice (some ⟨p.gw, 0, none⟩) (1 + 2 * d.m.ns) (1 + 2 * d.m.ns)] ∧ Mem w p.f d.m) ∧ Cel w g6 178 (two (e0 x) (e1 x))) (by kernel_rfl) ⟨⟨HX3.out.cel, HX3.out.mem⟩, B3.out.get 0 rfl⟩ (fun hHeld => ?_)
  refine tk 0 ⟨some 13, .move (.tmp 0), 43, "pagedb.go:51", #[], none⟩ (.pointer (some ⟨p.g, 0, none⟩)) ?_
  simp only [Act.put, List.setIfInBounds_toArray, List.set_cons_zero, List.set_cons_succ]
  refine tk 1 ⟨some 14, .nilCheck (.tmp 13), 0, "pagedb.go:51", #[⟨0, .data⟩], none⟩ (.pointer (some ⟨p.g, 0, none⟩)) ?_
  simp only [Act.put, List.setIfInBounds_toArray, List.set_cons_zero, List.set_cons_succ]
  refine tk 2 ⟨some 15, .fieldAddr 117 (.tmp 14) 1, 0, "pagedb.go:51", #[⟨1, .data⟩], none⟩ (.pointer (some ⟨p.g, 1, none⟩)) ?_
  simp only [Act.put, List.setIfInBounds_toArray, List.set_cons_zero, List.set_cons_succ]
  refine tk 3 ⟨some 16, .load 102 (.tmp 15), 102, "pagedb.go:51", #[⟨2, .data⟩], none⟩ (.slice (some ⟨p.gw, 0, none⟩) N N) ?_ (hy := Or.inl ⟨by rfl, by intro w hSw; have hc := hSw.1.1.cell 1; rw [← HN.out] at hc; simp only [List.getElem?_cons_zero, List.getElem?_cons_succ] at hc; go_simp⟩)
  simp only [Act.put, List.setIfInBounds_toArray, List.set_cons_zero, List.set_cons_succ]
  refine tk 4 ⟨some 17, .move (.tmp 1), 3, "pagedb.go:51", #[], none⟩ (.int .i64 (k : Int)) ?_
  simp only [Act.put, List.setIfInBounds_toArray, List.set_cons_zero, List.set_cons_succ]
  refine tk 7 ⟨some 20, .slice 178 (.tmp 6) none none none, 102, "pagedb.go:51", #[], none⟩ (.slice (some ⟨g6, 0, none⟩) 2 2) ?_
  simp only [Act.put, List.setIfInBounds_toArray, List.set_cons_zero, List.set_cons_succ]
  refine wpAnyH_ready (rs := [5]) (by kernel_rfl) (by simp) (AllReadyH.cons (o := ⟨some 18, .call { callee := .value (.func 100), args := #[.tmp 17], argTypes := #[3] }, 3, "pagedb.go:51", #[⟨4, .data⟩], none⟩) rfl (fun KQ hK => ?_) AllReadyH.nil)
  go_simp
  refine (HP.out _).mono ?_
  rintro e w4 ⟨rfl, rfl⟩
  go_wp2_with fail
  refine hK.out _ _ ⟨⟨HX3.out.cel, HX3.out.mem⟩, B3.out.get 0 rfl⟩ (fun hHeld => ?_)
  clear hK KQ
  try simp only [Act.put, List.setIfInBounds_toArray, List.set_cons_zero, List.set_cons_succ]
  refine tk 6 ⟨some 19, .slice 102 (.tmp 16) (some (.tmp 18)) none none, 102, "pagedb.go:51", #[⟨3, .data⟩, ⟨5, .data⟩], none⟩ (.slice (some ⟨p.gw, (1 + 2 * (k : Int)).toNat, none⟩) (N - (1 + 2 * (k : Int)).toNat) (N - (1 + 2 * (k : Int)).toNat)) ?_
  simp only [Act.put, List.setIfInBounds_toArray, List.set_cons_zero, List.set_cons_succ]
  refine wpAnyH_ready (rs := [8]) (by kernel_rfl) (by simp) (AllReadyH.cons (o := ⟨some 21, .call { callee := .builtin .copy, args := #[.tmp 19, .tmp 20], argTypes := #[102, 102] }, 3, "pagedb.go:51", #[⟨6, .data⟩, ⟨7, .data⟩, ⟨5, .chain⟩], none⟩) rfl (fun KQ hK => ?_) AllReadyH.nil)
  rw [if_pos (by rfl)]
  refine wp_copy_two _ _ rfl p.gw (1 + 2 * (k : Int)).toNat (N - (1 + 2 * (k : Int)).toNat) (N - (1 + 2 * (k : Int)).toNat) g6 rfl rfl 29 (u32s d.ws) HX3.out.wds (e0 x) (e1 x) (B3.out.get 0 rfl) (by have := HK.out; rw [u32s_len, d.ws_len HX3.out.ok]; omega) (by have := HK.out; have := HN.out; omega) ?_
  intro w5 hc hb hs
  rw [show (1 + 2 * (k : Int)).toNat = 1 + 2 * k by omega] at hc
  have HZ := hid (HX3.out.laid k HK.out x HO.out.1 HO.out.2 hc hb)
  have HZB := hid ((ButL.of (G := [p.gw]) B3.out.below).trans hb)
  have HT : Hid (Cel w5 g6 178 (two (e0 x) (e1 x))) := hid ((B3.out.get 0 rfl).but hb (by rw [List.mem_singleton]; exact HL.out))
  clear hc hb hs
  refine hK.out _ _ ⟨⟨HZ.out.cel, HZ.out.mem⟩, HT.out⟩ (fun hHeld => ?_)
  clear hK KQ
  try simp only [Act.put, List.setIfInBounds_toArray, List.set_cons_zero, List.set_cons_succ]
  refine wpAnyH_done (by kernel_rfl) ?_ _
  go_wp2_with fail
  go_returns
  exact ⟨rfl, HZ.out, HZB.out⟩
end Go.Proofs.YtgbpbfnpeeciaaaGreat
namespace Go.Proofs.YtgbpbfnpeeciaaaGreat
open Go.RowKit
set_option maxHeartbeats 8000000
set_option maxRecDepth 100000
theorem MS.zero_ns (m : MS) (s : Bool) (p : Int) : (m.zero s p).ns = m.ns := by
  unfold MS.zero
  split <;> rfl
theorem MS.write_ns (m : MS) (s : Bool) (p off v : Int) : (m.write s p off v).ns = m.ns := by
  unfold MS.write
  split
  · rfl
  · split <;> rfl
def DS.wipe (d : DS) (q : Int) : DS := { d with m := d.m.zero true q }
theorem wipe_any (W : World) (p : Dp) (d : DS) (h : DB W p d) (q : Int) :
    Calls Tryz.prog 55 #[ptr p.g, .int .i64 q] W fun e W' => e = .returned (.tuple #[]) ∧ DB W' p (d.wipe q) ∧ ButL p.f.w W W' := by
  have HX := hid (h.on (Below.refl _ W).drew)
  have HB : Hid (Below W.heap.size W W.drew) := hid (Below.refl _ _).drew
  clear h
  simp only [ptr]
  go_enter Tryz.func55, Tryz.ntmps55
  refine wp_region_held_drew (S := fun w => w.cell? ⟨p.g, 0, none⟩ = some (.pointer (some ⟨p.f.gm, 0, none⟩))) (by kernel_rfl) HX.out.dv.mp (fun hHeld => ?_)
  refine tk 0 ⟨some 4, .move (.tmp 0), 43, "pagedb.go:55", #[], none⟩ (.pointer (some ⟨p.g, 0, none⟩)) ?_
  simp only [Act.put, List.setIfInBounds_toArray, List.set_cons_zero, List.set_cons_succ]
  refine tk 1 ⟨some 5, .nilCheck (.tmp 4), 0, "pagedb.go:55", #[⟨0, .data⟩], none⟩ (.pointer (some ⟨p.g, 0, none⟩)) ?_
  simp only [Act.put, List.setIfInBounds_toArray, List.set_cons_zero, List.set_cons_succ]
  refine tk 2 ⟨some 6, .fieldAddr 117 (.tmp 5) 0, 0, "pagedb.go:55", #[⟨1, .data⟩], none⟩ (.pointer (some ⟨p.g, 0, none⟩)) ?_
  simp only [Act.put, List.setIfInBounds_toArray, List.set_cons_zero, List.set_cons_succ]
  refine tk 3 ⟨some 7, .load 36 (.tmp 6), 36, "pagedb.go:55", #[⟨2, .data⟩], none⟩ (.pointer (some ⟨p.f.gm, 0, none⟩)) ?_ (hy := Or.inl ⟨by rfl, by intro w hSw; have hc := hSw; go_simp⟩)
  simp only [Act.put, List.setIfInBounds_toArray, List.set_cons_zero, List.set_cons_succ]
  refine tk 4 ⟨some 8, .move (.tmp 1), 3, "pagedb.go:55", #[], none⟩ (.int .i64 q) ?_
  simp only [Act.put, List.setIfInBounds_toArray, List.set_cons_zero, List.set_cons_succ]
  refine wpAnyH_ready (rs := [5]) (by kernel_rfl) (by simp) (AllReadyH.cons (o := ⟨some 9, .call { callee := .value (.func 61), args := #[.tmp 8], argTypes := #[3] }, 67, "pagedb.go:55", #[⟨4, .data⟩], none⟩) rfl (fun KQ hK => ?_) AllReadyH.nil)
  go_simp
  refine (frame_any _ q).mono ?_
  rintro e w1 ⟨rfl, hb⟩
  have HX1 := hid (HX.out.on hb)
  have HB1 := hid (below_on HB.out hb)
  clear hb
  go_wp2_with fail
  refine hK.out _ _ HX1.out.dv.mp (fun hHeld => ?_)
  clear hK KQ
  try simp only [Act.put, List.setIfInBounds_toArray, List.set_cons_zero, List.set_cons_succ]
  refine wpAnyH_ready (rs := [6]) (by kernel_rfl) (by simp) (AllReadyH.cons (o := ⟨some 10, .call { callee := .value (.func 101), args := #[.tmp 7, .tmp 9], argTypes := #[36, 67] }, 37, "pagedb.go:55", #[⟨3, .data⟩, ⟨5, .data⟩, ⟨5, .chain⟩], none⟩) rfl (fun KQ hK => ?_) AllReadyH.nil)
  go_simp
  refine (zero_any _ p.f d.m HX1.out.mem true q).mono ?_
  rintro e w2 ⟨rfl, hm, hb⟩
  have HZ := hid (HX1.out.memory hm hb (MS.zero_ns _ _ _))
  have HZB := hid ((ButL.of (G := p.f.w) HB1.out).trans hb)
  clear hb hm
  go_wp2_with fail
  refine hK.out _ _ HZ.out.dv.mp (fun hHeld => ?_)
  clear hK KQ
  try simp only [Act.put, List.setIfInBounds_toArray, List.set_cons_zero, List.set_cons_succ]
  refine wpAnyH_done (by kernel_rfl) ?_ _
  go_wp2_with fail
  go_returns
  exact ⟨rfl, HZ.out, HZB.out⟩
def trn (t : Int) : Bool := t == 4 || (t == 5 || t == 6)
theorem turns_any (W : World) (t : Int) : Calls Tryz.prog 63 #[.int .i64 t] W fun e W' => e = .returned (.bool (trn t)) ∧ W = W' := by
  unfold trn
  by_cases h4 : t = 4
  · subst h4
    go_enter Tryz.func63, Tryz.ntmps63
    go_wp2_with fail
    go_ret
    exact ⟨rfl, rfl⟩
  · by_cases h5 : t = 5
    · subst h5
      go_enter Tryz.func63, Tryz.ntmps63
      go_wp2_with fail
      go_ret
      exact ⟨rfl, rfl⟩
    · have q4 : (t == 4) = false := by simpa using h4
      have q5 : (t == 5) = false := by simpa using h5
      rw [q4, q5]
      clear h4 h5
      go_enter Tryz.func63, Tryz.ntmps63
      go_wp2_with fail
      go_ret
      exact ⟨rfl, rfl⟩
theorem isSpace_any (W : World) (p : Dp) (d : DS) (h : DB W p d) (q : Int) :
    Calls Tryz.prog 104 #[ptr p.g, .int .i64 q] W fun e W' => e = .returned (.bool ((d.ent q).t == 1)) ∧ Below W.heap.size W W' := by
  have HE := hid (fun w (hw : DB w p d) => entry_any w p d hw q)
  have HX := hid h
  clear h
  generalize d.ent q = D at *
  generalize d.entE q = DE at *
  simp only [ptr, En.v] at HE ⊢
  go_enter Tryz.func104, Tryz.ntmps104
  go_upto_region 2 with (first | (go_at_call 62; refine (HE.out _ HX.out).mono ?_; rintro e w1 ⟨rfl, hb⟩; have HB := hid hb; clear hb) | (refine wpList_store_st rfl 125 _ _ rfl w1.heap.size D.cs rfl rfl (Cel.new w1 125 En.zero.cs) sizeE rfl rfl ?_; intro w2 hc hb hs; have HC := hid hc; have HB2 := hid (new_below HB.out hb); clear hc hb hs))
  have c0 := HC.out.cell 0
  simp only [En.cs, List.getElem?_cons_zero] at c0
  go_wp2_with fail
  go_ret
  exact ⟨rfl, HB2.out⟩
def DS.more (d : DS) (q : Int) : Bool := (d.ent q).t == 1 && decide ((d.ent q).r < 63)
theorem ownsMore_any (W : World) (p : Dp) (d : DS) (h : DB W p d) (q : Int) :
    Calls Tryz.prog 64 #[ptr p.g, .int .i64 q] W fun e W' => e = .returned (.bool (d.more q)) ∧ Below W.heap.size W W' := by
  have HE := hid (isSpace_any W p d h q)
  have HX := hid h
  unfold DS.more
  cases ht : ((d.ent q).t == 1)
  · rw [ht] at HE
    clear h ht
    simp only [Bool.false_and]
    simp only [ptr] at HE ⊢
    go_enter Tryz.func64, Tryz.ntmps64
    go_wp2_with (go_at_call 104; refine HE.out.mono ?_; rintro e w1 ⟨rfl, hb⟩; have HB := hid hb; clear hb)
    go_ret
    exact ⟨rfl, HB.out⟩
  · rw [ht] at HE
    have hq : d.there q = true := by
      cases hh : d.there q
      · rw [DS.ent, hh, if_neg (by decide)] at ht; exact absurd ht (by decide)
      · rfl
    have e1 : d.ent q = d.at q.toNat := by rw [DS.ent, if_pos hq]
    obtain ⟨q0, q1⟩ := of_decide_eq_true hq
    have HA := hid (fun w (hw : DB w p d) => dat_any w p d hw q.toNat (by omega))
    rw [Int.toNat_of_nonneg q0, ← e1] at HA
    clear e1 hq h ht q0 q1
    generalize d.ent q = D at *
    obtain ⟨t, o, r, s, e⟩ := D
    simp only [ptr, En.v, En.cs, Bool.true_and] at HE HA ⊢
    have hfd : ∀ w : World, (Instr.field 125 (.agg #[.int .i64 t, .int .i64 o, .int .i64 r, .int .i64 s, .bool e]) 2).run Tryz.prog w = .ok (.int .i64 r) w := fun _ => by kernel_rfl
    go_enter Tryz.func64, Tryz.ntmps64
    go_wp2_with (first | (go_at_call 104; refine HE.out.mono ?_; rintro e w1 ⟨rfl, hb⟩; have HB := hid hb; clear hb) | (go_at_call 68; refine (HA.out _ (HX.out.on HB.out)).mono ?_; rintro e w2 ⟨rfl, hb⟩; have HB2 := hid (below_on HB.out hb); clear hb))
    go_ret
    exact ⟨rfl, HB2.out⟩
theorem Bag.cell {W w : World} {L : List (Nat × TypeId × List Value)} (h : Bag W w L) (k j : Nat) {g : Nat} {t : TypeId} {cs : List Value} (hk : L[k]? = some (g, t, cs)) : w.cell? ⟨g, j, none⟩ = cs[j]? := (h.get k hk).cell j
structure DG (W w : World) (p : Dp) (d : DS) (G : List Nat) (L : List (Nat × TypeId × List Value)) : Prop where
  db : DB w p d
  but : ButL G W w
  bag : ∀ q ∈ L, Cel w q.1 q.2.1 q.2.2
  off : ∀ q ∈ L, W.heap.size ≤ q.1
  old : ∀ k ∈ p.all, k < W.heap.size
  G : ∀ k ∈ G, k < W.heap.size
theorem DG.start {W : World} {p : Dp} {d : DS} (h : DB W p d) (G : List Nat) (hG : ∀ k ∈ G, k < W.heap.size) : DG W W p d G [] := ⟨h, .refl _ _, by simp, by simp, h.lt, hG⟩
theorem DG.on {W w w' : World} {p : Dp} {d : DS} {G : List Nat} {L : List (Nat × TypeId × List Value)} (h : DG W w p d G L) (hb : Below w.heap.size w w') : DG W w' p d G L :=
  ⟨h.db.on hb, h.but.on hb, fun q hq => (h.bag q hq).on hb, h.off, h.old, h.G⟩
theorem DG.get {W w : World} {p : Dp} {d : DS} {G : List Nat} {L : List (Nat × TypeId × List Value)} (h : DG W w p d G L) (k : Nat) {g : Nat} {t : TypeId} {cs : List Value} (hk : L[k]? = some (g, t, cs)) : Cel w g t cs := h.bag _ (List.mem_of_getElem? hk)
theorem DG.add {W w w2 : World} {p : Dp} {d : DS} {G : List Nat} {L : List (Nat × TypeId × List Value)} {u : TypeId} {ds es : List Value} (h : DG W w p d G L) (hc : Cel w2 w.heap.size u es) (hb : ButL [w.heap.size] (w.alloc (.cells ds.toArray u)) w2) : DG W w2 p d G ((w.heap.size, u, es) :: L) := by
  have h1 := h.on (below_one w (.cells ds.toArray u))
  have hs := h.but.size
  refine ⟨h1.db.frame hb (fun k hk hm => ?_), h1.but.trans' hb hs, fun q hq => ?_, fun q hq => ?_, h.old, h.G⟩
  · rw [List.mem_singleton] at hm; have := h.old k hk; omega
  · rcases List.mem_cons.1 hq with rfl | hq
    · exact hc
    · exact new_store (h.bag q hq) hb
  · rcases List.mem_cons.1 hq with rfl | hq
    · exact hs
    · exact h.off q hq
theorem DG.put {W w w2 : World} {p : Dp} {d : DS} {G : List Nat} {g : Nat} {t : TypeId} {cs es : List Value} {L : List (Nat × TypeId × List Value)} (h : DG W w p d G ((g, t, cs) :: L)) (hne : ∀ q ∈ L, q.1 ≠ g) (hc : Cel w2 g t es) (hb : ButL [g] w w2) : DG W w2 p d G ((g, t, es) :: L) := by
  have hg := h.off (g, t, cs) (by simp)
  refine ⟨h.db.frame hb (fun k hk hm => ?_), h.but.trans' hb hg, fun q hq => ?_, fun q hq => ?_, h.old, h.G⟩
  · rw [List.mem_singleton] at hm; have := h.old k hk; simp only at hg; omega
  · rcases List.mem_cons.1 hq with rfl | hq
    · exact hc
    · exact (h.bag q (by simp [hq])).but hb (by rw [List.mem_singleton]; exact hne q hq)
  · rcases List.mem_cons.1 hq with rfl | hq
    · exact hg
    · exact h.off q (by simp [hq])
theorem DG.step {W w w2 : World} {p : Dp} {d d' : DS} {G H : List Nat} {L : List (Nat × TypeId × List Value)} (h : DG W w p d G L) (hd : DB w2 p d') (hb : ButL H w w2) (hH : ∀ k ∈ H, k ∈ G) : DG W w2 p d' G L :=
  ⟨hd, h.but.trans (hb.mono hH), fun q hq => (h.bag q hq).but hb (fun hm => by have := h.off q hq; have := h.G _ (hH _ hm); omega), h.off, h.old, h.G⟩
theorem DG.tail {W w : World} {p : Dp} {d : DS} {G : List Nat} {x : Nat × TypeId × List Value} {L : List (Nat × TypeId × List Value)} (h : DG W w p d G (x :: L)) : DG W w p d G L :=
  ⟨h.db, h.but, fun q hq => h.bag q (by simp [hq]), fun q hq => h.off q (by simp [hq]), h.old, h.G⟩
theorem Dp.w_all {p : Dp} {k : Nat} (h : k ∈ p.w) : k ∈ p.all := by
  simp only [Dp.w, Dp.all, List.mem_cons] at h ⊢
  rcases h with h | h
  · simp [h]
  · exact .inr (.inr (Fp.w_all h))
theorem DB.wlt {w : World} {p : Dp} {d : DS} (h : DB w p d) : ∀ k ∈ p.w, k < w.heap.size := fun k hk => h.lt k (Dp.w_all hk)
def DS.cnt (d : DS) (k : Nat) (n : Int) : DS := d.lay k { d.at k with r := (d.at k).r + n }
theorem count_any (W : World) (p : Dp) (d : DS) (h : DB W p d) (k : Nat) (hk : k < d.m.ns) (n : Int) (hx : En.ok { d.at k with r := (d.at k).r + n } = true) :
    Calls Tryz.prog 65 #[ptr p.g, .int .i64 (k : Int), .int .i64 n] W fun e W' => e = .returned (.tuple #[]) ∧ DB W' p (d.cnt k n) ∧ ButL [p.gw] W W' := by
  have D0 := hid (DG.start h [p.gw] (by simpa using h.wds.lt))
  have HA := hid (fun w (hw : DB w p d) => dat_any w p d hw k hk)
  have ho := h.ok.own k hk
  have HL := hid (fun w (hw : DB w p d) => lay_any w p d hw k hk { d.at k with r := (d.at k).r + n } hx ho)
  have h2 := ((d.at k).ok_iff.1 (h.ok.ok k hk))
  have h3 := (En.ok_iff _).1 hx
  have h4 : wrap64 ((d.at k).r + n) = (d.at k).r + n := by have := h3.r0; have := h3.r1; simp only at *; unfold wrap64; omega
  unfold DS.cnt
  clear h hx ho h2 h3 hk
  generalize hD : d.at k = D at *
  obtain ⟨t, o, r, s, e⟩ := D
  clear hD
  simp only [ptr, En.v, En.cs] at HA HL h4 ⊢
  rw [← h4] at HL ⊢
  clear h4
  generalize hrn : wrap64 (r + n) = rn at *
  go_enter Tryz.func65, Tryz.ntmps65
  go_upto_region 1 with (first | (go_at_call 68; refine (HA.out _ D0.out.db).mono ?_; rintro e w1 ⟨rfl, hb⟩; have D1 := hid (D0.out.on hb); clear hb) | (refine wpList_store_st rfl 125 _ _ rfl w1.heap.size [.int .i64 t, .int .i64 o, .int .i64 r, .int .i64 s, .bool e] rfl rfl (Cel.new w1 125 En.zero.cs) sizeE rfl rfl ?_; intro w2 hc hb hs; have D2 := hid (D1.out.add hc hb); clear hc hb hs))
  clear D0 D1
  generalize w1.heap.size = g6 at *
  have c2 := (D2.out.get 0 rfl).cell 2
  have f2 := (D2.out.get 0 rfl).free 2
  have D3 := hid (D2.out.put (by simp) ((D2.out.get 0 rfl).setCell 2 (.int .i64 rn)) (.setCell _ _ _ _ (by simp)))
  simp only [List.getElem?_cons_zero, List.getElem?_cons_succ, List.set_cons_zero, List.set_cons_succ] at c2 D3
  go_upto_region 2 with fail
  rw [hrn]
  generalize w2.setCell _ _ = w3 at *
  go_wp2_with (first | (refine wpList_load_mid rfl 125 _ rfl g6 0 rfl _ _ ((D3.out.get 0 rfl).range) underE rfl (by rw [sizeE]; rfl) ?_) | (go_at_call 60; refine (HL.out _ D3.out.db).mono ?_; rintro e w4 ⟨rfl, hd, hb⟩; have D4 := hid (D3.out.step hd hb (by simp)); clear hb hd))
  go_returns
  exact ⟨rfl, D4.out.db, D4.out.but⟩
def DS.typ (d : DS) (q t : Int) : En := if d.there q = true ∧ (d.ent q).t = t then d.ent q else En.zero
def DS.typE (d : DS) (q t : Int) : Int := if d.there q = true then (if (d.ent q).t = t then 0 else 124) else 5
theorem typed_any (W : World) (p : Dp) (d : DS) (h : DB W p d) (q t : Int) :
    Calls Tryz.prog 69 #[ptr p.g, .int .i64 q, .int .i64 t] W fun e W' => e = .returned (.tuple #[(d.typ q t).v, .int .i64 (d.typE q t)]) ∧ Below W.heap.size W W' := by
  have B0 := hid (bag_one W 125 En.zero.cs)
  have HX := hid (h.on (below_one W (.cells En.zero.cs.toArray 125)))
  have HE := hid (fun w (hw : DB w p d) => entry_any w p d hw q)
  clear h
  unfold DS.typ DS.typE
  cases hq : d.there q
  · have e1 : d.ent q = En.zero := by simp [DS.ent, hq]
    have e2 : d.entE q = 5 := by simp [DS.entE, hq]
    rw [e1, e2] at HE
    simp only [Bool.false_eq_true, false_and, if_false]
    clear e1 e2 hq
    simp only [ptr, En.v, En.zero, En.cs] at HX B0 HE ⊢
    go_enter Tryz.func69, Tryz.ntmps69
    go_upto_region 1 with fail
    generalize W.alloc _ = X at *
    generalize hg : W.heap.size = g4 at B0 ⊢
    have HG := hid hg
    clear hg
    go_upto_region 2 with (first | (go_at_call 62; refine (HE.out _ HX.out).mono ?_; rintro e w1 ⟨rfl, hb⟩; have B1 := hid (B0.out.on hb); clear hb) | (refine wpList_store_st rfl 125 _ _ rfl w1.heap.size En.zero.cs rfl rfl (Cel.new w1 125 En.zero.cs) sizeE rfl rfl ?_; intro w2 hc hb hs; have B2 := hid (B1.out.add hc hb); clear hc hb hs))
    generalize w1.heap.size = g8 at *
    go_wp2_with (first | (refine wpList_load_mid rfl 125 _ rfl g8 0 rfl _ _ ((B2.out.get 0 rfl).range) underE rfl (by rw [sizeE]; rfl) ?_) | (refine wpList_store_st rfl 125 _ _ rfl g4 En.zero.cs rfl rfl (B2.out.get 1 rfl) sizeE rfl rfl ?_; intro w4 hc hb hs; have HF := hid (And.intro hc (B2.out.below.trans (hb.below (by have := HG.out; simp; omega) B2.out.below.size))); clear hc hb hs))
    exact ret_st2 rfl rfl g4 _ rfl HF.out.1 underE rfl sizeE ⟨rfl, HF.out.2⟩
  · have e2 : d.entE q = 0 := by simp [DS.entE, hq]
    rw [e2] at HE
    simp only [true_and, if_true]
    clear e2 hq
    generalize d.ent q = D at *
    by_cases ht : D.t = t
    · rw [if_pos ht, if_pos ht]
      obtain ⟨t', o, r, s, e⟩ := D
      simp only at ht
      subst ht
      simp only [ptr, En.v, En.zero, En.cs] at HX B0 HE ⊢
      go_enter Tryz.func69, Tryz.ntmps69
      go_upto_region 1 with fail
      generalize W.alloc _ = X at *
      generalize hg : W.heap.size = g4 at B0 ⊢
      have HG := hid hg
      clear hg
      go_upto_region 2 with (first | (go_at_call 62; refine (HE.out _ HX.out).mono ?_; rintro e w1 ⟨rfl, hb⟩; have B1 := hid (B0.out.on hb); clear hb) | (refine wpList_store_st rfl 125 _ _ rfl w1.heap.size [.int .i64 t', .int .i64 o, .int .i64 r, .int .i64 s, .bool e] rfl rfl (Cel.new w1 125 En.zero.cs) sizeE rfl rfl ?_; intro w2 hc hb hs; have B2 := hid (B1.out.add hc hb); clear hc hb hs))
      generalize w1.heap.size = g8 at *
      have c0 := (B2.out.get 0 rfl).cell 0
      simp only [List.getElem?_cons_zero] at c0
      go_wp2_with (first | (refine wpList_load_mid rfl 125 _ rfl g8 0 rfl _ _ ((B2.out.get 0 rfl).range) underE rfl (by rw [sizeE]; rfl) ?_) | (refine wpList_store_st rfl 125 _ _ rfl g4 [.int .i64 t', .int .i64 o, .int .i64 r, .int .i64 s, .bool e] rfl rfl (B2.out.get 1 rfl) sizeE rfl rfl ?_; intro w4 hc hb hs; have HF := hid (And.intro hc (B2.out.below.trans (hb.below (by have := HG.out; simp; omega) B2.out.below.size))); clear hc hb hs))
      exact ret_st2 rfl rfl g4 _ rfl HF.out.1 underE rfl sizeE ⟨rfl, HF.out.2⟩
    · rw [if_neg ht, if_neg ht]
      obtain ⟨t', o, r, s, e⟩ := D
      simp only at ht
      have ht' : (t' == t) = false := by simpa using ht
      clear ht
      simp only [ptr, En.v, En.zero, En.cs] at HX B0 HE ⊢
      go_enter Tryz.func69, Tryz.ntmps69
      go_upto_region 1 with fail
      generalize W.alloc _ = X at *
      generalize hg : W.heap.size = g4 at B0 ⊢
      have HG := hid hg
      clear hg
      go_upto_region 2 with (first | (go_at_call 62; refine (HE.out _ HX.out).mono ?_; rintro e w1 ⟨rfl, hb⟩; have B1 := hid (B0.out.on hb); clear hb) | (refine wpList_store_st rfl 125 _ _ rfl w1.heap.size [.int .i64 t', .int .i64 o, .int .i64 r, .int .i64 s, .bool e] rfl rfl (Cel.new w1 125 En.zero.cs) sizeE rfl rfl ?_; intro w2 hc hb hs; have B2 := hid (B1.out.add hc hb); clear hc hb hs))
      generalize w1.heap.size = g8 at *
      have c0 := (B2.out.get 0 rfl).cell 0
      simp only [List.getElem?_cons_zero] at c0
      go_wp2_with (first | (refine wpList_build_zE rfl rfl ?_) | (refine wpList_store_st rfl 125 _ _ rfl g4 En.zero.cs rfl rfl (B2.out.get 1 rfl) sizeE rfl rfl ?_; intro w4 hc hb hs; have HF := hid (And.intro hc (B2.out.below.trans (hb.below (by have := HG.out; simp; omega) B2.out.below.size))); clear hc hb hs))
      exact ret_st2 rfl rfl g4 _ rfl HF.out.1 underE rfl sizeE ⟨rfl, HF.out.2⟩
end Go.Proofs.YtgbpbfnpeeciaaaGreat
