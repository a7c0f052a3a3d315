import Derived.Test.YtgbpbfnpeeciaaaGreatP08
namespace Go.Proofs.YtgbpbfnpeeciaaaGreat
open Go.RowKit
set_option maxHeartbeats 8000000
set_option maxRecDepth 100000
theorem e0_range (x : En) : 0 ≤ e0 x ∧ e0 x < 4294967296 := by
  unfold e0
  split
  · rename_i h; exact En.w_range (x.ok_iff.1 h)
  · decide
theorem new_store {w w2 : World} {t u : TypeId} {g : Nat} {cs ds : List Value} (hc : Cel w g t cs) (hb : ButL [w.heap.size] (w.alloc (.cells ds.toArray u)) w2) : Cel w2 g t cs :=
  (hc.on (below_one w _)).but hb (by have := hc.lt; simp; omega)
theorem new_below {W w w2 : World} {u : TypeId} {ds : List Value} (h : Below W.heap.size W w) (hb : ButL [w.heap.size] (w.alloc (.cells ds.toArray u)) w2) : Below W.heap.size W w2 :=
  (below_on h (below_one w (.cells ds.toArray u))).trans (hb.below (B := W.heap.size) (by simpa using h.size) (by have := h.size; rw [World.size_alloc]; omega))
structure B4 (W x : World) (g1 g2 g4 g5 : Nat) (a b : List Value) (y : En) (c : List Value) : Prop where
  c1 : Cel x g1 178 a
  c2 : Cel x g2 125 b
  c4 : Cel x g4 125 y.cs
  c5 : Cel x g5 178 c
  below : Below W.heap.size W x
  l2 : W.heap.size ≤ g2
theorem B4.put {W x x' : World} {g1 g2 g4 g5 : Nat} {a b c es : List Value} {y : En} (k : B4 W x g1 g2 g4 g5 a b y c) (hc : Cel x' g2 125 es) (hb : ButL [g2] x x') : Cel x' g2 125 es ∧ Below W.heap.size W x' :=
  ⟨hc, k.below.trans (hb.below (B := W.heap.size) (by simpa using k.l2) k.below.size)⟩
theorem wpList_load_g {ops : Array Oper} {rest : List Oper} {o : Oper} {a : Act} {w : World} {Q : Exit → Act → World → Prop} (hw : Region.wanted o (yielded ops a.tmps) = true) (T : TypeId) (x : Operand) (ho : o.op = .load T x)
    (g : Nat) {t : TypeId} {cs : List Value} {d : TypeDesc} (hx : a.eval x = .pointer (some ⟨g, 0, none⟩)) (hg : Cel w g t cs) (hd : (match d with | .struct _ | .array _ _ => true | _ => false) = true) (hu : Tryz.prog.underlying T = some d) (hs : (Tryz.prog.info? T).map (·.size) = some cs.length)
    (h : wpList Tryz.prog ops Q rest (a.put o.dst (.agg cs.toArray)) w) : wpList Tryz.prog ops Q (o :: rest) a w := by
  rw [wpList, if_pos hw]
  exact .inl (wp_load_mid T x ho g 0 hx _ _ hg.range hu hd hs h)
theorem decode_any (W : World) (a b : Int) (a0 : 0 ≤ a) (a1 : a < 4294967296) (b0 : 0 ≤ b) (b1 : b < 4294967296) : Calls Tryz.prog 105 #[twoV a b] W fun e W' => e = .returned (.tuple #[(dec a b).v, .int .i64 (decE a b)]) ∧ Below W.heap.size W W' := by
  have HX := hid (Bx.new W 178 125 (two a b) En.zero.cs)
  have HF := hid (fun W => fields_any W a b a0 a1 b0 b1)
  have HE := hid (fun W => encode_any W (fld a b))
  have hd1 : (fld a b).ok = false → dok a b = false := fun h => by simp [dok, h]
  have hd2 : (fld a b).ok = true → dok a b = same2 (e0 (fld a b)) (e1 (fld a b)) a b := fun h => by simp [dok, h]
  have hk1 : (fld a b).ok = false → chk (fld a b) = 110 := fun h => by simp [chk, h]
  have hk2 : (fld a b).ok = true → chk (fld a b) = 0 := fun h => by simp [chk, h]
  have hv1 : dok a b = false → dec a b = En.zero ∧ decE a b = 110 := fun h => by simp [dec, decE, h]
  have hv2 : dok a b = true → dec a b = fld a b ∧ decE a b = 0 := fun h => by simp [dec, decE, h]
  generalize hx : fld a b = x at *
  clear hx a0 a1 b0 b1
  generalize dec a b = D at *
  generalize decE a b = DE at *
  generalize dok a b = dk at *
  generalize chk x = ck at *
  generalize e0 x = v0 at *
  generalize e1 x = v1 at *
  have HH := hid (And.intro hd1 (And.intro hd2 (And.intro hk1 (And.intro hk2 (And.intro hv1 hv2)))))
  clear hd1 hd2 hk1 hk2 hv1 hv2
  simp only [twoV, En.v] at *
  simp only [En.zero, En.cs] at HX
  go_enter Tryz.func105, Tryz.ntmps105
  go_upto_region 1 with fail
  generalize hX : (W.alloc _).alloc _ = X at *
  clear hX
  generalize W.heap.size + 1 = g2 at *
  generalize W.heap.size = g1 at *
  go_upto_region 2 with (first | (refine wpList_load_mid rfl 178 _ rfl g1 0 rfl _ _ HX.out.a.range underA rfl (by rw [sizeA]; rfl) ?_) | (go_at_call 123; refine (HF.out _).mono ?_; rintro e w1 ⟨rfl, hb1⟩; have HX1 := hid (HX.out.on hb1); clear hb1) | (refine wpList_store_st rfl 125 _ _ rfl w1.heap.size x.cs rfl rfl (Cel.new w1 125 En.zero.cs) sizeE rfl rfl ?_; intro w2 hc2 hb2 hs2; have H4 := hid hc2; have HX2 : Hid (Bx W w2 g1 g2 178 125 (two a b) En.zero.cs) := hid ⟨new_store HX1.out.a hb2, new_store HX1.out.b hb2, new_below HX1.out.below hb2, HX1.out.lh⟩; clear hc2 hb2 hs2))
  clear HX HX1 HF
  generalize w1.heap.size = g4 at *
  go_upto_region 3 with (first | (refine wpList_load_mid rfl 125 _ rfl g4 0 rfl _ _ H4.out.range underE rfl (by rw [sizeE]; rfl) ?_) | (go_at_call 103; refine (HE.out _).mono ?_; rintro e w3 ⟨rfl, hb3⟩; have HX3 := hid (HX2.out.on hb3); have H43 := hid (H4.out.on hb3); clear hb3) | (refine wpList_store_st rfl 178 _ _ rfl w3.heap.size (two v0 v1) rfl rfl (Cel.new w3 178 (two 0 0)) sizeA rfl rfl ?_; intro w4 hc4 hb4 hs4; have HK : Hid (B4 W w4 g1 g2 g4 w3.heap.size (two a b) En.zero.cs x (two v0 v1)) := hid ⟨new_store HX3.out.a hb4, new_store HX3.out.b hb4, new_store H43.out hb4, hc4, new_below HX3.out.below hb4, HX3.out.lh⟩; clear hc4 hb4 hs4))
  clear HX2 HX3 H4 H43 HE
  generalize w3.heap.size = g5 at *
  obtain ⟨hd1, hd2, hk1, hk2, hv1, hv2⟩ := HH.out
  clear HH
  cases hok : x.ok
  · have k1 := hk1 hok
    obtain ⟨k2, k3⟩ := hv1 (hd1 hok)
    subst k1 k2 k3
    clear hd1 hd2 hk1 hk2 hv1 hv2 hok
    go_wp2_with (refine wpList_store_st rfl 125 _ _ rfl g2 En.zero.cs rfl rfl HK.out.c2 sizeE rfl rfl ?_; intro w5 hc5 hb5 hs5; have HF := hid (HK.out.put hc5 hb5); clear hc5 hb5 hs5)
    exact ret_st2 rfl rfl g2 _ rfl HF.out.1 underE rfl sizeE ⟨rfl, HF.out.2⟩
  · have k1 := hk2 hok
    have k2 := hd2 hok
    subst k1 k2
    clear hd1 hd2 hk1 hk2 hok
    cases hs : same2 v0 v1 a b
    · obtain ⟨k2, k3⟩ := hv1 hs
      subst k2 k3
      clear hv1 hv2
      have HS := hid hs
      clear hs
      go_wp2_with (first | (refine wpList_load_g rfl 178 _ rfl g5 rfl HK.out.c5 rfl underA sizeA ?_) | (refine wpList_load_g rfl 178 _ rfl g1 rfl HK.out.c1 rfl underA sizeA ?_) | (refine wpList_ne rfl 178 _ _ rfl _ _ rfl rfl guardA false (by rw [← HS.out]; exact run_equalIn_two _ 9998 v0 v1 a b) ?_) | (refine wpList_store_st rfl 125 _ _ rfl g2 En.zero.cs rfl rfl HK.out.c2 sizeE rfl rfl ?_; intro w5 hc5 hb5 hs5; have HF := hid (HK.out.put hc5 hb5); clear hc5 hb5 hs5))
      exact ret_st2 rfl rfl g2 _ rfl HF.out.1 underE rfl sizeE ⟨rfl, HF.out.2⟩
    · obtain ⟨k2, k3⟩ := hv2 hs
      subst k2 k3
      clear hv1 hv2
      have HS := hid hs
      clear hs
      go_wp2_with (first | (refine wpList_load_g rfl 178 _ rfl g5 rfl HK.out.c5 rfl underA sizeA ?_) | (refine wpList_load_g rfl 178 _ rfl g1 rfl HK.out.c1 rfl underA sizeA ?_) | (refine wpList_load_g rfl 125 _ rfl g4 rfl HK.out.c4 rfl underE sizeE ?_) | (refine wpList_ne rfl 178 _ _ rfl _ _ rfl rfl guardA true (by rw [← HS.out]; exact run_equalIn_two _ 9998 v0 v1 a b) ?_) | (refine wpList_store_st rfl 125 _ _ rfl g2 D.cs rfl rfl HK.out.c2 sizeE rfl rfl ?_; intro w5 hc5 hb5 hs5; have HF := hid (HK.out.put hc5 hb5); clear hc5 hb5 hs5))
      exact ret_st2 rfl rfl g2 _ rfl HF.out.1 underE rfl sizeE ⟨rfl, HF.out.2⟩
end Go.Proofs.YtgbpbfnpeeciaaaGreat
namespace Go.Proofs.YtgbpbfnpeeciaaaGreat
open Go.RowKit
structure Bag (W x : World) (L : List (Nat × TypeId × List Value)) : Prop where
  all : ∀ p ∈ L, Cel x p.1 p.2.1 p.2.2
  below : Below W.heap.size W x
theorem Bag.get {W x : World} {L : List (Nat × TypeId × List Value)} (h : Bag W x L) (k : Nat) {g : Nat} {t : TypeId} {cs : List Value} (hk : L[k]? = some (g, t, cs)) : Cel x g t cs := h.all _ (List.mem_of_getElem? hk)
theorem Bag.on {W x x' : World} {L : List (Nat × TypeId × List Value)} (h : Bag W x L) (hb : Below x.heap.size x x') : Bag W x' L := ⟨fun p hp => (h.all p hp).on hb, below_on h.below hb⟩
theorem Bag.add {W w w2 : World} {L : List (Nat × TypeId × List Value)} {u : TypeId} {ds es : List Value} (h : Bag W w L) (hc : Cel w2 w.heap.size u es) (hb : ButL [w.heap.size] (w.alloc (.cells ds.toArray u)) w2) : Bag W w2 ((w.heap.size, u, es) :: L) :=
  ⟨fun p hp => by
    rcases List.mem_cons.1 hp with rfl | hp
    · exact hc
    · exact new_store (h.all p hp) hb, new_below h.below hb⟩
theorem Bag.two (W : World) (t u : TypeId) (cs ds : List Value) : Bag W ((W.alloc (.cells cs.toArray t)).alloc (.cells ds.toArray u)) [(W.heap.size + 1, u, ds), (W.heap.size, t, cs)] := by
  have h := Bx.new W t u cs ds
  refine ⟨fun p hp => ?_, h.below⟩
  simp only [List.mem_cons, List.not_mem_nil, or_false] at hp
  rcases hp with rfl | rfl
  · exact h.b
  · exact h.a
theorem e1_range (x : En) : 0 ≤ e1 x ∧ e1 x < 4294967296 := by
  unfold e1
  split
  · rename_i h; have := (x.ok_iff.1 h).r0; have := (x.ok_iff.1 h).r1; omega
  · decide
theorem dec_w {x : En} (h : x.ok = true) : dec (e0 x) (e1 x) = x ∧ decE (e0 x) (e1 x) = 0 := by
  have := dok_w h
  unfold dec decE
  rw [if_pos this.1, if_pos this.1]
  exact ⟨this.2, rfl⟩
theorem chk_yes {x : En} (h : x.ok = true) : chk x = 0 := by unfold chk; rw [if_pos h]
end Go.Proofs.YtgbpbfnpeeciaaaGreat
