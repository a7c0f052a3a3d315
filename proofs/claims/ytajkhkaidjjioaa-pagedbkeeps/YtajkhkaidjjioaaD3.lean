/- lay 53, wipe 63, turns 56, isSpace 59, ownsMore 57, count 58, typed 88. -/
import Derived.Test.YtajkhkaidjjioaaD2
namespace Go.Proofs.Ytajkhkaidjjioaa
open Go.RowKit
set_option maxHeartbeats 8000000
set_option maxRecDepth 100000
theorem two_in (cur : List Value) (off : Nat) (x y : Value) (h : off + 2 ≤ cur.length) : cur.take off ++ ([x, y] ++ cur.drop (off + 2)) = (cur.set off x).set (off + 1) y := by
  apply List.ext_getElem?
  intro j
  rw [List.getElem?_set, List.getElem?_set, List.length_set]
  by_cases h1 : j < off
  · rw [List.getElem?_append_left (by simp; omega), List.getElem?_take_of_lt h1, if_neg (by omega), if_neg (by omega)]
  · rw [List.getElem?_append_right (by simp; omega)]
    have e : (cur.take off).length = off := by simp; omega
    rw [e]
    by_cases h2 : j = off
    · subst h2; simp; omega
    · by_cases h3 : j = off + 1
      · subst h3; simp; omega
      · rw [List.getElem?_append_right (by simp; omega), List.getElem?_drop, if_neg (by omega), if_neg (by omega)]
        congr 1
        simp
        omega
theorem wp_copy_two {op : Oper} {a : Act} {w : World} {K : Act → World → Prop} {Q : Exit → Act → World → Prop} (d s : Operand) (ho : op.op = .call { callee := .builtin .copy, args := #[d, s], argTypes := #[32, 32] })
    (g off n c gs : Nat) (hd : a.eval d = .slice (some ⟨g, off, none⟩) n c) (hs : a.eval s = .slice (some ⟨gs, 0, none⟩) 2 2) (t : TypeId) (cur : List Value) (hg : Cel w g t cur) (x y : Int) (hsrc : Cel w gs 137 (two x y)) (hfit : off + 2 ≤ cur.length) (hn : 2 ≤ n)
    (h : ∀ w', Cel w' g t ((cur.set off (.int .u32 x)).set (off + 1) (.int .u32 y)) → ButL [g] w w' → w'.heap.size = w.heap.size → K (a.put op.dst (goInt 2)) w') : op.wp Try.prog a w K Q := by
  have hrun := run_copy_row (P := Try.prog) w 32 32 op.type 27 g off n c ⟨gs, 0, none⟩ 2 2 cur.toArray t (two x y) under24 size32 hg (by show 2 = min 2 n; omega) hsrc.src (by simp [two]; exact hfit) (by simp [two, Value.oneCell'])
  unfold Oper.wp
  have e := two_in cur off (.int .u32 x) (.int .u32 y) hfit
  simp only [two, List.length_cons, List.length_nil, Nat.zero_add, Nat.reduceAdd, List.append_assoc, e] at hrun
  simp [execOp, ho, resolve, invoke, builtin, hd, hs, hrun, Result.andThen]
  exact h _ (hg.set _) (.setRow _ _ _ (by simp)) (by simp)
def DS.lay (d : DS) (k : Nat) (x : En) : DS := { d with E := d.E.set k x }
theorem DS.Ok.lay {d : DS} (h : d.Ok) (k : Nat) (x : En) (hx : x.ok = true) (ho : x.o < (d.m.ns : Int)) : (d.lay k x).Ok := by
  obtain ⟨a, b, c, e, f, g⟩ := h
  refine ⟨by simpa [DS.lay] using a, b, fun j hj => ?_, fun j hj => ?_, f, g⟩
  · by_cases hjk : j = k
    · subst hjk
      have hj' : j < d.E.length := by rw [a]; exact hj
      simp [DS.at, DS.lay, List.getD_eq_getElem?_getD, List.getElem?_set_self hj', hx]
    · simpa [DS.at, DS.lay, List.getD_eq_getElem?_getD, List.getElem?_set_ne (Ne.symm hjk)] using c j hj
  · by_cases hjk : j = k
    · subst hjk
      have hj' : j < d.E.length := by rw [a]; exact hj
      simpa [DS.at, DS.lay, List.getD_eq_getElem?_getD, List.getElem?_set_self hj'] using ho
    · simpa [DS.at, DS.lay, List.getD_eq_getElem?_getD, List.getElem?_set_ne (Ne.symm hjk)] using e j hj
theorem u32s_set2 (L : List Int) (j : Nat) (x y : Int) : ((u32s L).set j (.int .u32 x)).set (j + 1) (.int .u32 y) = u32s ((L.set j x).set (j + 1) y) := by rw [u32s_set, u32s_set]
theorem DB.laid {w w' : World} {p : Dp} {d : DS} (h : DB w p d) (k : Nat) (hk : k < d.m.ns) (x : En) (hx : x.ok = true) (ho : x.o < (d.m.ns : Int)) (hc : Cel w' p.gw 27 (((u32s d.ws).set (1 + 2 * k) (.int .u32 (e0 x))).set (1 + 2 * k + 1) (.int .u32 (e1 x)))) (hb : ButL [p.gw] w w') : DB w' p (d.lay k x) := by
  refine h.words ?_ hb (h.ok.lay k x hx ho)
  rw [u32s_set2] at hc
  rw [wdsOf_set d.b d.E k x (by rw [h.ok.len]; exact hk), show 2 + 2 * k = 1 + 2 * k + 1 by omega]
  exact hc
theorem slot_g {w : World} {p : Dp} {d : DS} (h : DB w p d) : p.g ≠ p.gw := fun e => by have := h.cel; rw [e] at this; exact absurd (this.ty h.wds) (by decide)
theorem lay_any (W : World) (p : Dp) (d : DS) (h : DB W p d) (k : Nat) (hk : k < d.m.ns) (x : En) (hx : x.ok = true) (ho : x.o < (d.m.ns : Int)) :
    Calls Try.prog 53 #[ptr p.g, .int .i64 (k : Int), x.v] W fun e W' => e = .returned (.tuple #[]) ∧ DB W' p (d.lay k x) ∧ ButL [p.gw] W W' := by
  have B0 := hid (bag_one W 62 x.cs)
  have HX := hid (h.on (below_one W (.cells x.cs.toArray 62)))
  have HE := hid (fun W => encode_any W x)
  have n64 := h.ok.n64
  have HP := hid (fun W => place_any W (k : Int) (by omega) (by omega))
  have HK : Hid (k < d.m.ns) := hid hk
  have HO := hid (And.intro hx ho)
  obtain ⟨N, hN⟩ : ∃ N, N = 1 + 2 * d.m.ns := ⟨_, rfl⟩
  have HN := hid hN
  have i0 : 0 ≤ 1 + 2 * (k : Int) := by omega
  have i1 : 1 + 2 * (k : Int) ≤ (N : Int) := by omega
  have i2 : ¬ (N = (1 + 2 * (k : Int)).toNat) := by omega
  clear h hk hx ho n64 hN
  simp only [ptr, En.v, twoV] at HE ⊢
  go_enter Try.func53, Try.ntmps53
  go_upto_region 1 with fail
  generalize W.alloc _ = X at *
  generalize hg : W.heap.size = g5 at B0 ⊢
  have HG := hid hg
  clear hg
  go_upto_region 2 with (first | (refine wpList_load_mid rfl 62 _ rfl g5 0 rfl _ _ ((B0.out.get 0 rfl).range) underE rfl (by rw [sizeE]; rfl) ?_) | (go_at_call 93; refine (HE.out _).mono ?_; rintro e w1 ⟨rfl, hb⟩; have B1 := hid (B0.out.on hb); have HX1 := hid (HX.out.on hb); clear hb) | (refine wpList_store_st rfl 137 _ _ rfl w1.heap.size (two (e0 x) (e1 x)) rfl rfl (Cel.new w1 137 (two 0 0)) sizeA rfl rfl ?_; intro w2 hc hb hs; have B2 := hid (B1.out.add hc hb); have HX2 := hid ((HX1.out.on (below_one w1 (.cells (two 0 0).toArray 137))).frame hb (fun q hq hm => by rw [List.mem_singleton] at hm; have := HX1.out.lt q hq; omega)); clear hc hb hs))
  clear B0 B1 HX HX1
  have HL : Hid (w1.heap.size ≠ p.gw) := hid (fun e => by have := (B2.out.get 0 rfl); rw [e] at this; exact absurd (this.ty HX2.out.wds) (by decide))
  generalize w1.heap.size = g6 at *
  have B3 := hid (B2.out.on (Below.refl _ _).drew)
  have HX3 := hid (HX2.out.on (Below.refl _ _).drew)
  clear B2 HX2
  refine wp_region_held_drew (S := fun w => (Cel w p.g 92 [ptr p.f.gm, .slice (some ⟨p.gw, 0, none⟩) (1 + 2 * d.m.ns) (1 + 2 * d.m.ns)] ∧ Mem w p.f d.m) ∧ Cel w g6 137 (two (e0 x) (e1 x))) (by kernel_rfl) ⟨⟨HX3.out.cel, HX3.out.mem⟩, B3.out.get 0 rfl⟩ (fun hHeld => ?_)
  refine wpAnyH_take (i := 0) (oi := { dst := some 13, op := Op.move (Operand.tmp 0), type := 23, pos := "pagedb.go:51", after := #[], guard := none }) (v := .pointer (some ⟨p.g, 0, none⟩)) rfl (by kernel_rfl) (by kernel_rfl) (by kernel_rfl) (fun _ _ _ h => h) (Or.inl ⟨by rfl, by intro w hSw; go_simp⟩) (by assumption) ?_
  simp only [Act.put, List.setIfInBounds_toArray, List.set_cons_zero, List.set_cons_succ]
  refine wpAnyH_take (i := 1) (oi := { dst := some 14, op := Op.nilCheck (Operand.tmp 13), type := 0, pos := "pagedb.go:51", after := #[{ on := 0, ground := Ground.data }], guard := none }) (v := .pointer (some ⟨p.g, 0, none⟩)) rfl (by kernel_rfl) (by kernel_rfl) (by kernel_rfl) (fun _ _ _ h => h) (Or.inl ⟨by rfl, by intro w hSw; go_simp⟩) (by assumption) ?_
  simp only [Act.put, List.setIfInBounds_toArray, List.set_cons_zero, List.set_cons_succ]
  refine wpAnyH_take (i := 2) (oi := { dst := some 15, op := Op.fieldAddr 92 (Operand.tmp 14) 1, type := 0, pos := "pagedb.go:51", after := #[{ on := 1, ground := Ground.data }], guard := none }) (v := .pointer (some ⟨p.g, 1, none⟩)) rfl (by kernel_rfl) (by kernel_rfl) (by kernel_rfl) (fun _ _ _ h => h) (Or.inl ⟨by rfl, by intro w hSw; go_simp⟩) (by assumption) ?_
  simp only [Act.put, List.setIfInBounds_toArray, List.set_cons_zero, List.set_cons_succ]
  refine wpAnyH_take (i := 3) (oi := { dst := some 16, op := Op.load 32 (Operand.tmp 15), type := 32, pos := "pagedb.go:51", after := #[{ on := 2, ground := Ground.data }], guard := none }) (v := .slice (some ⟨p.gw, 0, none⟩) N N) rfl (by kernel_rfl) (by kernel_rfl) (by kernel_rfl) (fun _ _ _ h => h) (Or.inl ⟨by rfl, by intro w hSw; have hc := hSw.1.1.cell 1; rw [← HN.out] at hc; simp only [List.getElem?_cons_zero, List.getElem?_cons_succ] at hc; go_simp⟩) (by assumption) ?_
  simp only [Act.put, List.setIfInBounds_toArray, List.set_cons_zero, List.set_cons_succ]
  refine wpAnyH_take (i := 4) (oi := { dst := some 17, op := Op.move (Operand.tmp 1), type := 3, pos := "pagedb.go:51", after := #[], guard := none }) (v := .int .i64 (k : Int)) rfl (by kernel_rfl) (by kernel_rfl) (by kernel_rfl) (fun _ _ _ h => h) (Or.inl ⟨by rfl, by intro w hSw; go_simp⟩) (by assumption) ?_
  simp only [Act.put, List.setIfInBounds_toArray, List.set_cons_zero, List.set_cons_succ]
  refine wpAnyH_take (i := 7) (oi := { dst := some 20, op := Op.slice 137 (Operand.tmp 6) none none none, type := 32, pos := "pagedb.go:51", after := #[], guard := none }) (v := .slice (some ⟨g6, 0, none⟩) 2 2) rfl (by kernel_rfl) (by kernel_rfl) (by kernel_rfl) (fun _ _ _ h => h) (Or.inl ⟨by rfl, by intro w hSw; go_simp⟩) (by assumption) ?_
  simp only [Act.put, List.setIfInBounds_toArray, List.set_cons_zero, List.set_cons_succ]
  refine wpAnyH_ready (rs := [5]) (by kernel_rfl) (by simp) (AllReadyH.cons (o := { dst := some 18, op := Op.call { callee := Callee.value (Operand.func 89), args := #[Operand.tmp 17], argTypes := #[3] }, type := 3, pos := "pagedb.go:51", after := #[{ on := 4, ground := Ground.data }], guard := none }) rfl (fun KQ hK => ?_) AllReadyH.nil)
  go_simp
  refine (HP.out _).mono ?_
  rintro e w4 ⟨rfl, rfl⟩
  go_wp2_with fail
  refine hK.out _ _ ⟨⟨HX3.out.cel, HX3.out.mem⟩, B3.out.get 0 rfl⟩ (fun hHeld => ?_)
  clear hK KQ
  try simp only [Act.put, List.setIfInBounds_toArray, List.set_cons_zero, List.set_cons_succ]
  refine wpAnyH_take (i := 6) (oi := { dst := some 19, op := Op.slice 32 (Operand.tmp 16) (some (Operand.tmp 18)) none none, type := 32, pos := "pagedb.go:51", after := #[{ on := 3, ground := Ground.data }, { on := 5, ground := Ground.data }], guard := none }) (v := .slice (some ⟨p.gw, (1 + 2 * (k : Int)).toNat, none⟩) (N - (1 + 2 * (k : Int)).toNat) (N - (1 + 2 * (k : Int)).toNat)) rfl (by kernel_rfl) (by kernel_rfl) (by kernel_rfl) (fun _ _ _ h => h) (Or.inl ⟨by rfl, by intro w hSw; go_simp⟩) (by assumption) ?_
  simp only [Act.put, List.setIfInBounds_toArray, List.set_cons_zero, List.set_cons_succ]
  refine wpAnyH_ready (rs := [8]) (by kernel_rfl) (by simp) (AllReadyH.cons (o := { dst := some 21, op := Op.call { callee := Callee.builtin Builtin.copy, args := #[Operand.tmp 19, Operand.tmp 20], argTypes := #[32, 32] }, type := 3, pos := "pagedb.go:51", after := #[{ on := 6, ground := Ground.data }, { on := 7, ground := Ground.data }, { on := 5, ground := Ground.chain }], guard := none }) rfl (fun KQ hK => ?_) AllReadyH.nil)
  rw [if_pos (by rfl)]
  refine wp_copy_two _ _ rfl p.gw (1 + 2 * (k : Int)).toNat (N - (1 + 2 * (k : Int)).toNat) (N - (1 + 2 * (k : Int)).toNat) g6 rfl rfl 27 (u32s d.ws) HX3.out.wds (e0 x) (e1 x) (B3.out.get 0 rfl) (by have := HK.out; rw [u32s_len, d.ws_len HX3.out.ok]; omega) (by have := HK.out; have := HN.out; omega) ?_
  intro w5 hc hb hs
  rw [show (1 + 2 * (k : Int)).toNat = 1 + 2 * k by omega] at hc
  have HZ := hid (HX3.out.laid k HK.out x HO.out.1 HO.out.2 hc hb)
  have HZB := hid ((ButL.of (G := [p.gw]) B3.out.below).trans hb)
  have HT : Hid (Cel w5 g6 137 (two (e0 x) (e1 x))) := hid ((B3.out.get 0 rfl).but hb (by rw [List.mem_singleton]; exact HL.out))
  clear hc hb hs
  refine hK.out _ _ ⟨⟨HZ.out.cel, HZ.out.mem⟩, HT.out⟩ (fun hHeld => ?_)
  clear hK KQ
  try simp only [Act.put, List.setIfInBounds_toArray, List.set_cons_zero, List.set_cons_succ]
  refine wpAnyH_done (by kernel_rfl) ?_ _
  go_wp2_with fail
  go_returns
  exact ⟨rfl, HZ.out, HZB.out⟩
end Go.Proofs.Ytajkhkaidjjioaa
