import Derived.Test.YtildhjiddidghaaGreatDoorP15
namespace Go.Proofs.YtildhjiddidghaaGreatDoor
open Go.RowKit
set_option maxHeartbeats 8000000
set_option maxRecDepth 100000
theorem w64 (x : Int) (h0 : 0 ≤ x) (h1 : x < 4294967296) : wrap64 x = x := by unfold wrap64; omega
theorem fields_any (W : World) (a b : Int) (a0 : 0 ≤ a) (a1 : a < 4294967296) (b0 : 0 ≤ b) (b1 : b < 4294967296) : Calls Tryz.prog 152 #[twoV a b] W fun e W' => e = .returned (fld a b).v ∧ Below W.heap.size W W' := by
  have HX := hid (Bx.new W 158 92 (two a b) En.zero.cs)
  have h1 : bits .and .u32 a 7 = a % 8 := by have := and_mask 3 7 a (by simp) a0 a1 (by decide); simpa using this
  have h2 : bits .and .u32 (a / 65536) 63 = a / 65536 % 64 := by have := and_mask 6 63 (a / 65536) (by simp) (by omega) (by omega) (by decide); simpa using this
  have h3 : bits .and .u32 b 63 = b % 64 := by have := and_mask 6 63 b (by simp) b0 b1 (by decide); simpa using this
  have h4 : bits .and .u32 (a / 16) 3 = a / 16 % 4 := by have := and_mask 2 3 (a / 16) (by simp) (by omega) (by omega) (by decide); simpa using this
  have h5 : bits .and .u32 (a / 256) 1 = a / 256 % 2 := by have := and_mask 1 1 (a / 256) (by simp) (by omega) (by omega) (by decide); simpa using this
  have k1 : wrap64 (a % 8) = a % 8 := w64 _ (by omega) (by omega)
  have k2 : wrap64 (a / 65536 % 64) = a / 65536 % 64 := w64 _ (by omega) (by omega)
  have k3 : wrap64 (b % 64) = b % 64 := w64 _ (by omega) (by omega)
  have k4 : wrap64 (a / 16 % 4) = a / 16 % 4 := w64 _ (by omega) (by omega)
  simp only [En.v, twoV, two, En.zero, En.cs, fld] at HX ⊢
  generalize q1 : a % 8 = x1 at *
  generalize q2 : a / 65536 % 64 = x2 at *
  generalize q3 : b % 64 = x3 at *
  generalize q4 : a / 16 % 4 = x4 at *
  generalize q5 : a / 256 % 2 = x5 at *
  clear q1 q2 q3 q4 q5
  go_enter Tryz.func152, Tryz.ntmps152
  go_upto_region 1 with fail
  generalize hX : (W.alloc _).alloc _ = X at *
  clear hX
  generalize W.heap.size + 1 = g2 at *
  generalize W.heap.size = g1 at *
  have c0 := HX.out.a.cell 0
  have c1 := HX.out.a.cell 1
  simp only [List.getElem?_cons_zero, List.getElem?_cons_succ] at c0 c1
  go_wp2_with (refine wpList_store_st rfl 92 _ _ rfl g2 [Value.int .i64 x1, .int .i64 x2, .int .i64 x3, .int .i64 x4, .bool (x5 == 1)] rfl rfl HX.out.b sizeE rfl rfl ?_; intro w2 hc2 hb2 hs2; have HF := hid (HX.out.put hc2 hb2); clear hc2 hb2 hs2)
  exact ret_st rfl rfl g2 _ rfl HF.out.1 underE rfl (by rw [sizeE]; rfl) ⟨rfl, HF.out.2⟩
theorem or_enc {x : En} (h : x.Ok) : bits .or .u32 (bits .or .u32 (x.t % 4294967296) (x.s % 4294967296 * 16 % 4294967296)) (x.o % 4294967296 * 65536 % 4294967296) = x.t + 16 * x.s + 65536 * x.o := by
  obtain ⟨t0, t1, o0, o1, r0, r1, s0, s1, z, sp, ns, en⟩ := h
  rw [show x.t % 4294967296 = x.t by omega, show x.s % 4294967296 * 16 % 4294967296 = x.s * 16 by omega, show x.o % 4294967296 * 65536 % 4294967296 = x.o * 65536 by omega]
  rw [or_add 4 x.t (x.s * 16) x.s (by simp) t0 (by simp; omega) s0 (by omega) (by omega), or_add 16 _ (x.o * 65536) x.o (by simp) (by omega) (by simp; omega) o0 (by omega) (by omega)]
  omega
theorem encode_any (W : World) (x : En) : Calls Tryz.prog 111 #[x.v] W fun e W' => e = .returned (.tuple #[twoV (e0 x) (e1 x), .int .i64 (chk x)]) ∧ Below W.heap.size W W' := by
  have HX := hid (Bx.new W 92 158 x.cs (two 0 0))
  have HK := hid (fun W => check_any W x)
  cases hok : x.ok
  · have hc : chk x = 110 := by simp [chk, hok]
    have h0 : e0 x = 0 := by simp [e0, hok]
    have h1 : e1 x = 0 := by simp [e1, hok]
    rw [hc] at HK
    rw [hc, h0, h1]
    clear hc h0 h1 hok
    simp only [twoV, two, En.v] at *
    go_enter Tryz.func111, Tryz.ntmps111
    go_upto_region 1 with fail
    generalize hX : (W.alloc _).alloc _ = X at *
    clear hX
    generalize W.heap.size + 1 = g2 at *
    generalize W.heap.size = g1 at *
    go_wp2_with (first | (refine wpList_load_mid rfl 92 _ rfl g1 0 rfl _ _ HX.out.a.range underE rfl (by rw [sizeE]; rfl) ?_) | (go_at_call 151; refine (HK.out _).mono ?_; rintro e w1 ⟨rfl, hb1⟩; have HX1 := hid (HX.out.on hb1); clear hb1) | (refine wpList_store_st rfl 158 _ _ rfl g2 (two 0 0) rfl rfl HX1.out.b sizeA rfl rfl ?_; intro w2 hc2 hb2 hs2; have HF := hid (HX1.out.put hc2 hb2); clear hc2 hb2 hs2))
    exact ret_st2 rfl rfl g2 _ rfl HF.out.1 underA rfl sizeA ⟨rfl, HF.out.2⟩
  · have hO := x.ok_iff.1 hok
    have hc : chk x = 0 := by simp [chk, hok]
    have h0 : e0 x = x.w := by simp [e0, hok]
    have h1 : e1 x = x.r := by simp [e1, hok]
    have q1 : bits .or .u32 (bits .or .u32 (x.t % 4294967296) (x.s % 4294967296 * 16 % 4294967296)) (x.o % 4294967296 * 65536 % 4294967296) = x.t + 16 * x.s + 65536 * x.o := or_enc hO
    have q2 : x.r % 4294967296 = x.r := by have := hO.r0; have := hO.r1; omega
    have q3 : x.e = false → x.t + 16 * x.s + 65536 * x.o = x.w := fun he => by rw [En.w, he]; simp
    have q4 : x.e = true → bits .or .u32 (x.t + 16 * x.s + 65536 * x.o) 256 = x.w := fun he => by
      have ht := hO.en he
      have hs := (hO.ns (by omega)).2
      have := or_256 x.o hO.o0 hO.o1
      rw [En.w, he, ht, hs]
      simpa using this
    rw [hc] at HK
    rw [hc, h0, h1]
    clear hc h0 h1 hok hO
    simp only [twoV, two, En.v] at HX HK ⊢
    generalize x.t + 16 * x.s + 65536 * x.o = y at *
    generalize x.w = xw at *
    obtain ⟨t, o, r, s, e⟩ := x
    simp only [En.cs] at *
    go_enter Tryz.func111, Tryz.ntmps111
    go_upto_region 1 with fail
    generalize hX : (W.alloc _).alloc _ = X at *
    clear hX
    generalize W.heap.size + 1 = g2 at *
    generalize W.heap.size = g1 at *
    have HQ := hid (And.intro q1 (And.intro q2 (And.intro q3 q4)))
    clear q1 q2 q3 q4
    go_upto_region 2 with (first | (refine wpList_load_mid rfl 92 _ rfl g1 0 rfl _ _ HX.out.a.range underE rfl (by rw [sizeE]; rfl) ?_) | (go_at_call 151; refine (HK.out _).mono ?_; rintro e1 w1 ⟨rfl, hb1⟩; have HX1 := hid (HX.out.on hb1); clear hb1))
    have c0 := HX1.out.a.cell 0
    have c1 := HX1.out.a.cell 1
    have c2 := HX1.out.a.cell 2
    have c3 := HX1.out.a.cell 3
    have c4 := HX1.out.a.cell 4
    simp only [List.getElem?_cons_zero, List.getElem?_cons_succ] at c0 c1 c2 c3 c4
    obtain ⟨q1, q2, q3, q4⟩ := HQ.out
    clear HQ
    cases e
    · have q5 := q3 rfl
      subst q5
      clear q3 q4
      go_wp2_with (refine wpList_store_st rfl 158 _ _ rfl g2 [Value.int .u32 y, .int .u32 r] rfl rfl HX1.out.b sizeA rfl rfl ?_; intro w2 hc2 hb2 hs2; have HF := hid (HX1.out.put hc2 hb2); clear hc2 hb2 hs2)
      exact ret_st2 rfl rfl g2 _ rfl HF.out.1 underA rfl sizeA ⟨rfl, HF.out.2⟩
    · have q5 := q4 rfl
      clear q3 q4
      go_wp2_with (refine wpList_store_st rfl 158 _ _ rfl g2 [Value.int .u32 xw, .int .u32 r] rfl rfl HX1.out.b sizeA rfl rfl ?_; intro w2 hc2 hb2 hs2; have HF := hid (HX1.out.put hc2 hb2); clear hc2 hb2 hs2)
      exact ret_st2 rfl rfl g2 _ rfl HF.out.1 underA rfl sizeA ⟨rfl, HF.out.2⟩
end Go.Proofs.YtildhjiddidghaaGreatDoor
namespace Go.Proofs.YtildhjiddidghaaGreatDoor
open Go.RowKit
set_option maxHeartbeats 8000000
set_option maxRecDepth 100000
theorem e0_range (x : En) : 0 ≤ e0 x ∧ e0 x < 4294967296 := by
  unfold e0
  split
  · rename_i h; exact En.w_range (x.ok_iff.1 h)
  · decide
theorem new_store {w w2 : World} {t u : TypeId} {g : Nat} {cs ds : List Value} (hc : Cel w g t cs) (hb : ButL [w.heap.size] (w.alloc (.cells ds.toArray u)) w2) : Cel w2 g t cs :=
  (hc.on (below_one w _)).but hb (by have := hc.lt; simp; omega)
theorem new_below {W w w2 : World} {u : TypeId} {ds : List Value} (h : Below W.heap.size W w) (hb : ButL [w.heap.size] (w.alloc (.cells ds.toArray u)) w2) : Below W.heap.size W w2 :=
  (below_on h (below_one w (.cells ds.toArray u))).trans (hb.below (B := W.heap.size) (by simpa using h.size) (by have := h.size; rw [World.size_alloc]; omega))
structure B4 (W x : World) (g1 g2 g4 g5 : Nat) (a b : List Value) (y : En) (c : List Value) : Prop where
  c1 : Cel x g1 158 a
  c2 : Cel x g2 92 b
  c4 : Cel x g4 92 y.cs
  c5 : Cel x g5 158 c
  below : Below W.heap.size W x
  l2 : W.heap.size ≤ g2
theorem B4.put {W x x' : World} {g1 g2 g4 g5 : Nat} {a b c es : List Value} {y : En} (k : B4 W x g1 g2 g4 g5 a b y c) (hc : Cel x' g2 92 es) (hb : ButL [g2] x x') : Cel x' g2 92 es ∧ Below W.heap.size W x' :=
  ⟨hc, k.below.trans (hb.below (B := W.heap.size) (by simpa using k.l2) k.below.size)⟩
theorem wpList_load_g {ops : Array Oper} {rest : List Oper} {o : Oper} {a : Act} {w : World} {Q : Exit → Act → World → Prop} (hw : Region.wanted o (yielded ops a.tmps) = true) (T : TypeId) (x : Operand) (ho : o.op = .load T x)
    (g : Nat) {t : TypeId} {cs : List Value} {d : TypeDesc} (hx : a.eval x = .pointer (some ⟨g, 0, none⟩)) (hg : Cel w g t cs) (hd : (match d with | .struct _ | .array _ _ => true | _ => false) = true) (hu : Tryz.prog.underlying T = some d) (hs : (Tryz.prog.info? T).map (·.size) = some cs.length)
    (h : wpList Tryz.prog ops Q rest (a.put o.dst (.agg cs.toArray)) w) : wpList Tryz.prog ops Q (o :: rest) a w := by
  rw [wpList, if_pos hw]
  exact .inl (wp_load_mid T x ho g 0 hx _ _ hg.range hu hd hs h)
theorem decode_any (W : World) (a b : Int) (a0 : 0 ≤ a) (a1 : a < 4294967296) (b0 : 0 ≤ b) (b1 : b < 4294967296) : Calls Tryz.prog 112 #[twoV a b] W fun e W' => e = .returned (.tuple #[(dec a b).v, .int .i64 (decE a b)]) ∧ Below W.heap.size W W' := by
  have HX := hid (Bx.new W 158 92 (two a b) En.zero.cs)
  have HF := hid (fun W => fields_any W a b a0 a1 b0 b1)
  have HE := hid (fun W => encode_any W (fld a b))
  have hd1 : (fld a b).ok = false → dok a b = false := fun h => by simp [dok, h]
  have hd2 : (fld a b).ok = true → dok a b = same2 (e0 (fld a b)) (e1 (fld a b)) a b := fun h => by simp [dok, h]
  have hk1 : (fld a b).ok = false → chk (fld a b) = 110 := fun h => by simp [chk, h]
  have hk2 : (fld a b).ok = true → chk (fld a b) = 0 := fun h => by simp [chk, h]
  have hv1 : dok a b = false → dec a b = En.zero ∧ decE a b = 110 := fun h => by simp [dec, decE, h]
  have hv2 : dok a b = true → dec a b = fld a b ∧ decE a b = 0 := fun h => by simp [dec, decE, h]
  generalize hx : fld a b = x at *
  clear hx a0 a1 b0 b1
  generalize dec a b = D at *
  generalize decE a b = DE at *
  generalize dok a b = dk at *
  generalize chk x = ck at *
  generalize e0 x = v0 at *
  generalize e1 x = v1 at *
  have HH := hid (And.intro hd1 (And.intro hd2 (And.intro hk1 (And.intro hk2 (And.intro hv1 hv2)))))
  clear hd1 hd2 hk1 hk2 hv1 hv2
  simp only [twoV, En.v] at *
  simp only [En.zero, En.cs] at HX
  go_enter Tryz.func112, Tryz.ntmps112
  go_upto_region 1 with fail
  generalize hX : (W.alloc _).alloc _ = X at *
  clear hX
  generalize W.heap.size + 1 = g2 at *
  generalize W.heap.size = g1 at *
  go_upto_region 2 with (first | (refine wpList_load_mid rfl 158 _ rfl g1 0 rfl _ _ HX.out.a.range underA rfl (by rw [sizeA]; rfl) ?_) | (go_at_call 152; refine (HF.out _).mono ?_; rintro e w1 ⟨rfl, hb1⟩; have HX1 := hid (HX.out.on hb1); clear hb1) | (refine wpList_store_st rfl 92 _ _ rfl w1.heap.size x.cs rfl rfl (Cel.new w1 92 En.zero.cs) sizeE rfl rfl ?_; intro w2 hc2 hb2 hs2; have H4 := hid hc2; have HX2 : Hid (Bx W w2 g1 g2 158 92 (two a b) En.zero.cs) := hid ⟨new_store HX1.out.a hb2, new_store HX1.out.b hb2, new_below HX1.out.below hb2, HX1.out.lh⟩; clear hc2 hb2 hs2))
  clear HX HX1 HF
  generalize w1.heap.size = g4 at *
  go_upto_region 3 with (first | (refine wpList_load_mid rfl 92 _ rfl g4 0 rfl _ _ H4.out.range underE rfl (by rw [sizeE]; rfl) ?_) | (go_at_call 111; refine (HE.out _).mono ?_; rintro e w3 ⟨rfl, hb3⟩; have HX3 := hid (HX2.out.on hb3); have H43 := hid (H4.out.on hb3); clear hb3) | (refine wpList_store_st rfl 158 _ _ rfl w3.heap.size (two v0 v1) rfl rfl (Cel.new w3 158 (two 0 0)) sizeA rfl rfl ?_; intro w4 hc4 hb4 hs4; have HK : Hid (B4 W w4 g1 g2 g4 w3.heap.size (two a b) En.zero.cs x (two v0 v1)) := hid ⟨new_store HX3.out.a hb4, new_store HX3.out.b hb4, new_store H43.out hb4, hc4, new_below HX3.out.below hb4, HX3.out.lh⟩; clear hc4 hb4 hs4))
  clear HX2 HX3 H4 H43 HE
  generalize w3.heap.size = g5 at *
  obtain ⟨hd1, hd2, hk1, hk2, hv1, hv2⟩ := HH.out
  clear HH
  cases hok : x.ok
  · have k1 := hk1 hok
    obtain ⟨k2, k3⟩ := hv1 (hd1 hok)
    subst k1 k2 k3
    clear hd1 hd2 hk1 hk2 hv1 hv2 hok
    go_wp2_with (refine wpList_store_st rfl 92 _ _ rfl g2 En.zero.cs rfl rfl HK.out.c2 sizeE rfl rfl ?_; intro w5 hc5 hb5 hs5; have HF := hid (HK.out.put hc5 hb5); clear hc5 hb5 hs5)
    exact ret_st2 rfl rfl g2 _ rfl HF.out.1 underE rfl sizeE ⟨rfl, HF.out.2⟩
  · have k1 := hk2 hok
    have k2 := hd2 hok
    subst k1 k2
    clear hd1 hd2 hk1 hk2 hok
    cases hs : same2 v0 v1 a b
    · obtain ⟨k2, k3⟩ := hv1 hs
      subst k2 k3
      clear hv1 hv2
      have HS := hid hs
      clear hs
      go_wp2_with (first | (refine wpList_load_g rfl 158 _ rfl g5 rfl HK.out.c5 rfl underA sizeA ?_) | (refine wpList_load_g rfl 158 _ rfl g1 rfl HK.out.c1 rfl underA sizeA ?_) | (refine wpList_ne rfl 158 _ _ rfl _ _ rfl rfl guardA false (by rw [← HS.out]; exact run_equalIn_two _ 9998 v0 v1 a b) ?_) | (refine wpList_store_st rfl 92 _ _ rfl g2 En.zero.cs rfl rfl HK.out.c2 sizeE rfl rfl ?_; intro w5 hc5 hb5 hs5; have HF := hid (HK.out.put hc5 hb5); clear hc5 hb5 hs5))
      exact ret_st2 rfl rfl g2 _ rfl HF.out.1 underE rfl sizeE ⟨rfl, HF.out.2⟩
    · obtain ⟨k2, k3⟩ := hv2 hs
      subst k2 k3
      clear hv1 hv2
      have HS := hid hs
      clear hs
      go_wp2_with (first | (refine wpList_load_g rfl 158 _ rfl g5 rfl HK.out.c5 rfl underA sizeA ?_) | (refine wpList_load_g rfl 158 _ rfl g1 rfl HK.out.c1 rfl underA sizeA ?_) | (refine wpList_load_g rfl 92 _ rfl g4 rfl HK.out.c4 rfl underE sizeE ?_) | (refine wpList_ne rfl 158 _ _ rfl _ _ rfl rfl guardA true (by rw [← HS.out]; exact run_equalIn_two _ 9998 v0 v1 a b) ?_) | (refine wpList_store_st rfl 92 _ _ rfl g2 D.cs rfl rfl HK.out.c2 sizeE rfl rfl ?_; intro w5 hc5 hb5 hs5; have HF := hid (HK.out.put hc5 hb5); clear hc5 hb5 hs5))
      exact ret_st2 rfl rfl g2 _ rfl HF.out.1 underE rfl sizeE ⟨rfl, HF.out.2⟩
end Go.Proofs.YtildhjiddidghaaGreatDoor
namespace Go.Proofs.YtildhjiddidghaaGreatDoor
open Go.RowKit
structure Bag (W x : World) (L : List (Nat × TypeId × List Value)) : Prop where
  all : ∀ p ∈ L, Cel x p.1 p.2.1 p.2.2
  below : Below W.heap.size W x
theorem Bag.get {W x : World} {L : List (Nat × TypeId × List Value)} (h : Bag W x L) (k : Nat) {g : Nat} {t : TypeId} {cs : List Value} (hk : L[k]? = some (g, t, cs)) : Cel x g t cs := h.all _ (List.mem_of_getElem? hk)
theorem Bag.on {W x x' : World} {L : List (Nat × TypeId × List Value)} (h : Bag W x L) (hb : Below x.heap.size x x') : Bag W x' L := ⟨fun p hp => (h.all p hp).on hb, below_on h.below hb⟩
theorem Bag.add {W w w2 : World} {L : List (Nat × TypeId × List Value)} {u : TypeId} {ds es : List Value} (h : Bag W w L) (hc : Cel w2 w.heap.size u es) (hb : ButL [w.heap.size] (w.alloc (.cells ds.toArray u)) w2) : Bag W w2 ((w.heap.size, u, es) :: L) :=
  ⟨fun p hp => by
    rcases List.mem_cons.1 hp with rfl | hp
    · exact hc
    · exact new_store (h.all p hp) hb, new_below h.below hb⟩
theorem Bag.two (W : World) (t u : TypeId) (cs ds : List Value) : Bag W ((W.alloc (.cells cs.toArray t)).alloc (.cells ds.toArray u)) [(W.heap.size + 1, u, ds), (W.heap.size, t, cs)] := by
  have h := Bx.new W t u cs ds
  refine ⟨fun p hp => ?_, h.below⟩
  simp only [List.mem_cons, List.not_mem_nil, or_false] at hp
  rcases hp with rfl | rfl
  · exact h.b
  · exact h.a
theorem e1_range (x : En) : 0 ≤ e1 x ∧ e1 x < 4294967296 := by
  unfold e1
  split
  · rename_i h; have := (x.ok_iff.1 h).r0; have := (x.ok_iff.1 h).r1; omega
  · decide
theorem dec_w {x : En} (h : x.ok = true) : dec (e0 x) (e1 x) = x ∧ decE (e0 x) (e1 x) = 0 := by
  have := dok_w h
  unfold dec decE
  rw [if_pos this.1, if_pos this.1]
  exact ⟨this.2, rfl⟩
theorem chk_yes {x : En} (h : x.ok = true) : chk x = 0 := by unfold chk; rw [if_pos h]
end Go.Proofs.YtildhjiddidghaaGreatDoor
namespace Go.Proofs.YtildhjiddidghaaGreatDoor
open Go.RowKit
theorem find_any (w : World) (f : Fp) (m : MS) (h : Mem w f m) (s : Bool) (p : Int) :
    Calls Tryz.prog 107 #[ptr f.gm, fr s p] w fun x w' => x = .returned (pv f (m.at s p)) ∧ Below w.heap.size w w' := by
  have hX := h.on (below_one w (.cells #[.bool s, .int .i64 p] 57))
  have hB := hid (below_one w (.cells #[.bool s, .int .i64 p] 57))
  have c0 := hX.cel.cell 0
  have c1 := hX.cel.cell 1
  have H := hid hX
  have h1 := h.ns0; have h2 := h.most
  clear h hX
  simp only [List.getElem?_cons_zero, List.getElem?_cons_succ] at c0 c1
  have HN : Hid (p < 0 ∨ (((if s then m.ns else m.P.length - m.ns) : Nat) : Int) ≤ p → m.at s p = none) := by
    intro hh; unfold MS.at; cases s <;> simp at hh ⊢ <;> omega
  have HS : Hid (s = true → 0 ≤ p → p < (m.ns : Int) → m.at s p = some p.toNat) := by
    intro hs a b; unfold MS.at; rw [if_pos a, if_pos hs, if_pos b]
  have HI : Hid (s = false → 0 ≤ p → p < ((m.P.length - m.ns : Nat) : Int) → m.at s p = some (m.ns + p.toNat)) := by
    intro hs a b; unfold MS.at; rw [if_pos a, if_neg (by simp [hs]), if_pos b]
  generalize m.at s p = r at *
  cases s
  · by_cases hp : p < 0 ∨ ((m.P.length - m.ns : Nat) : Int) ≤ p
    · have hr := HN.out (by simpa using hp)
      clear HN HS HI
      subst hr
      simp only [ptr, fr, pv] at *
      go_enter Tryz.func107, Tryz.ntmps107
      rcases hp with hp | hp
      all_goals go_wp2_with fail
      all_goals go_ret
      all_goals exact ⟨rfl, hB.out⟩
    · have q0 : 0 ≤ p := by omega
      have q1 : p < ((m.P.length - m.ns : Nat) : Int) := by omega
      have hr := HI.out rfl q0 q1
      clear HN HS HI hp
      subst hr
      have cc := H.out.insAt p.toNat (by omega)
      simp only [ptr, fr, pv] at *
      go_enter Tryz.func107, Tryz.ntmps107
      go_wp2_with fail
      all_goals go_ret
      all_goals exact ⟨rfl, hB.out⟩
  · by_cases hp : p < 0 ∨ (m.ns : Int) ≤ p
    · have hr := HN.out (by simpa using hp)
      clear HN HS HI
      subst hr
      simp only [ptr, fr, pv] at *
      go_enter Tryz.func107, Tryz.ntmps107
      rcases hp with hp | hp
      all_goals go_wp2_with fail
      all_goals go_ret
      all_goals exact ⟨rfl, hB.out⟩
    · have q0 : 0 ≤ p := by omega
      have q1 : p < (m.ns : Int) := by omega
      have hr := HS.out rfl q0 q1
      clear HN HS HI hp
      subst hr
      have cc := H.out.secAt p.toNat (by omega)
      simp only [ptr, fr, pv] at *
      go_enter Tryz.func107, Tryz.ntmps107
      go_wp2_with fail
      all_goals go_ret
      all_goals exact ⟨rfl, hB.out⟩
end Go.Proofs.YtildhjiddidghaaGreatDoor
namespace Go.Proofs.YtildhjiddidghaaGreatDoor
open Go.RowKit
def In (off : Int) : Prop := 0 ≤ off ∧ off < 1024
instance (off : Int) : Decidable (In off) := by unfold In; exact inferInstance
def MS.err (m : MS) (s : Bool) (p off : Int) : Int := match m.at s p with
  | none => 5
  | some _ => if In off then 0 else 70
def pa (f : Fp) (o : Option Nat) (off : Int) : Value := match o with
  | none => .pointer none
  | some k => if In off then .pointer (some ⟨f.b k, off.toNat, none⟩) else .pointer none
theorem at_any (w : World) (f : Fp) (m : MS) (h : Mem w f m) (s : Bool) (p off : Int) :
    Calls Tryz.prog 58 #[ptr f.gm, fr s p, .int .i64 off] w fun x w' => x = .returned (.tuple #[pa f (m.at s p) off, .int .i64 (m.err s p off)]) ∧ Below w.heap.size w w' := by
  have hX := h.on (below_one w (.cells #[.bool s, .int .i64 p] 57))
  have hB := hid (below_one w (.cells #[.bool s, .int .i64 p] 57))
  have HF := hid (find_any _ f m hX s p)
  have h1 := h.ns0
  have hlt : Hid (∀ k, m.at s p = some k → k < m.P.length) := fun k hk => MS.at_lt h1 hk
  have H := hid hX
  clear h hX h1
  unfold MS.err
  generalize hr : m.at s p = r at *
  cases r with
  | none =>
    simp only [fr, ptr, pv, pa] at *
    go_enter Tryz.func58, Tryz.ntmps58
    go_wp2_with fail
    refine HF.out.mono ?_
    rintro x w1 ⟨rfl, hb1⟩
    have HB1 := hid (below_on hB.out hb1)
    clear hb1
    go_wp2_with fail
    go_ret2
    exact ⟨rfl, HB1.out⟩
  | some k =>
    have hk := hlt.out k rfl
    by_cases ho : In off
    · simp only [fr, ptr, pv, pa, if_pos ho] at *
      obtain ⟨o0, o1⟩ := ho
      go_enter Tryz.func58, Tryz.ntmps58
      go_wp2_with fail
      refine HF.out.mono ?_
      rintro x w1 ⟨rfl, hb1⟩
      have HB1 := hid (below_on hB.out hb1)
      clear hb1
      go_wp2_with fail
      go_ret2
      exact ⟨rfl, HB1.out⟩
    · simp only [fr, ptr, pv, pa, if_neg ho] at *
      have ho' : off < 0 ∨ 1024 ≤ off := by unfold In at ho; omega
      clear ho
      go_enter Tryz.func58, Tryz.ntmps58
      go_wp2_with fail
      refine HF.out.mono ?_
      rintro x w1 ⟨rfl, hb1⟩
      have HB1 := hid (below_on hB.out hb1)
      clear hb1
      rcases ho' with ho | ho
      all_goals go_wp2_with fail
      all_goals go_ret2
      all_goals exact ⟨rfl, HB1.out⟩
def MS.word (m : MS) (s : Bool) (p off : Int) : Int := match m.at s p with
  | none => 0
  | some k => if In off then wd (m.p k) off.toNat else 0
theorem Mem.word {w : World} {f : Fp} {m : MS} (h : Mem w f m) (k : Nat) (hk : k < m.P.length) (j : Nat) (hj : j < 1024) : w.cell? ⟨f.b k, j, none⟩ = some (.int .u32 (wd (m.p k) j)) := by
  have := h.full k hk
  rw [(h.pg k hk).cell j, u32s, List.getElem?_map, List.getElem?_eq_getElem (by omega)]
  simp [wd, List.getD_eq_getElem?_getD, List.getElem?_eq_getElem (show j < (m.p k).length by omega)]
theorem peek_any (w : World) (f : Fp) (m : MS) (h : Mem w f m) (s : Bool) (p off : Int) :
    Calls Tryz.prog 86 #[ptr f.gm, fr s p, .int .i64 off] w fun x w' => x = .returned (.int .u32 (m.word s p off)) ∧ Below w.heap.size w w' := by
  have hX := h.on (below_one w (.cells #[.bool s, .int .i64 p] 57))
  have hB := hid (below_one w (.cells #[.bool s, .int .i64 p] 57))
  have HF := hid (at_any _ f m hX s p off)
  have h1 := h.ns0
  have hlt : Hid (∀ k, m.at s p = some k → k < m.P.length) := fun k hk => MS.at_lt h1 hk
  have H := hid hX
  clear h hX h1
  unfold MS.err at HF
  unfold MS.word
  generalize hr : m.at s p = r at *
  cases r with
  | none =>
    simp only [fr, ptr, pa] at *
    go_enter Tryz.func86, Tryz.ntmps86
    go_wp2_with fail
    refine HF.out.mono ?_
    rintro x w1 ⟨rfl, hb1⟩
    have HB1 := hid (below_on hB.out hb1)
    clear hb1
    go_wp2_with fail
    go_ret
    exact ⟨rfl, HB1.out⟩
  | some k =>
    have hk := hlt.out k rfl
    by_cases ho : In off
    · simp only [fr, ptr, pa, if_pos ho] at *
      obtain ⟨o0, o1⟩ := ho
      go_enter Tryz.func86, Tryz.ntmps86
      go_wp2_with fail
      refine HF.out.mono ?_
      rintro x w1 ⟨rfl, hb1⟩
      have HB1 := hid (below_on hB.out hb1)
      have cc := (H.out.on hb1).word k hk off.toNat (by omega)
      clear hb1
      go_wp2_with fail
      go_ret
      exact ⟨rfl, HB1.out⟩
    · simp only [fr, ptr, pa, if_neg ho] at *
      clear ho
      go_enter Tryz.func86, Tryz.ntmps86
      go_wp2_with fail
      refine HF.out.mono ?_
      rintro x w1 ⟨rfl, hb1⟩
      have HB1 := hid (below_on hB.out hb1)
      clear hb1
      go_wp2_with fail
      go_ret
      exact ⟨rfl, HB1.out⟩
end Go.Proofs.YtildhjiddidghaaGreatDoor
namespace Go.Proofs.YtildhjiddidghaaGreatDoor
open Go.RowKit
def MS.tick (m : MS) (n : Int) : MS := { m with c := wrap64 (m.c + n) }
theorem Mem.tick {w : World} {f : Fp} {m : MS} (h : Mem w f m) (n : Int) : Mem (w.setCell ⟨f.gm, 2, none⟩ (.int .i64 (wrap64 (m.c + n)))) f (m.tick n) := h.meter _
def MS.read (m : MS) (s : Bool) (p off : Int) : MS := match m.at s p with
  | none => m
  | some _ => if In off then m.tick 1 else m
theorem u32s_set (L : List Int) (j : Nat) (v : Int) : (u32s L).set j (.int .u32 v) = u32s (L.set j v) := by simp [u32s, List.map_set]
theorem Mem.put {w : World} {f : Fp} {m : MS} (h : Mem w f m) (k : Nat) (hk : k < m.P.length) (j : Nat) (v : Int) : Mem (w.setCell ⟨f.b k, j, none⟩ (.int .u32 v)) f { m with P := m.P.set k ((m.p k).set j v) } :=
  h.page k hk _ (by rw [List.length_set]; exact h.full k hk) (.setCell _ _ _ _ (by simp)) (by rw [← u32s_set]; exact (h.pg k hk).setCell j _)
def MS.write (m : MS) (s : Bool) (p off v : Int) : MS := match m.at s p with
  | none => m
  | some k => if In off then { m.tick 1 with P := m.P.set k ((m.p k).set off.toNat v) } else m
theorem write_any (w : World) (f : Fp) (m : MS) (h : Mem w f m) (s : Bool) (p off v : Int) :
    Calls Tryz.prog 22 #[ptr f.gm, fr s p, .int .i64 off, .int .u32 v] w fun x w' => x = .returned (.int .i64 (m.err s p off)) ∧ Mem w' f (m.write s p off v) ∧ ButL f.w w w' := by
  have hX := h.on (below_one w (.cells #[.bool s, .int .i64 p] 57))
  have hB := hid (below_one w (.cells #[.bool s, .int .i64 p] 57))
  have HF := hid (at_any _ f m hX s p off)
  have h1 := h.ns0
  have hlt : Hid (∀ k, m.at s p = some k → k < m.P.length) := fun k hk => MS.at_lt h1 hk
  have H := hid hX
  clear h hX h1
  unfold MS.err at HF ⊢
  unfold MS.write
  generalize hr : m.at s p = r at *
  cases r with
  | none =>
    simp only [fr, ptr, pa] at *
    go_enter Tryz.func22, Tryz.ntmps22
    go_wp2_with fail
    refine HF.out.mono ?_
    rintro x w1 ⟨rfl, hb1⟩
    have HB1 := hid (below_on hB.out hb1)
    have HM := hid (H.out.on hb1)
    clear hb1
    go_wp2_with fail
    go_ret
    exact ⟨rfl, HM.out, .of HB1.out⟩
  | some k =>
    have hk := hlt.out k rfl
    by_cases ho : In off
    · simp only [fr, ptr, pa, if_pos ho] at *
      obtain ⟨o0, o1⟩ := ho
      go_enter Tryz.func22, Tryz.ntmps22
      go_wp2_with fail
      refine HF.out.mono ?_
      rintro x w1 ⟨rfl, hb1⟩
      have HB1 := hid (below_on hB.out hb1)
      have HM := hid (H.out.on hb1)
      have c2 := HM.out.cm
      have f2 := HM.out.cel.free 2
      have cc : (w1.setCell ⟨f.gm, 2, none⟩ (.int .i64 (wrap64 (m.c + 1)))).cell? ⟨f.b k, off.toNat, none⟩ = some (.int .u32 (wd (m.p k) off.toNat)) := (HM.out.tick 1).word k hk off.toNat (by omega)
      have cf : (w1.setCell ⟨f.gm, 2, none⟩ (.int .i64 (wrap64 (m.c + 1)))).frozen? ⟨f.b k, off.toNat, none⟩ = false := ((HM.out.tick 1).pg k hk).free _
      have HT := hid ((HM.out.tick 1).put k hk off.toNat v)
      have HG := hid (HM.out.mem k hk)
      clear hb1
      go_wp2_with fail
      go_ret
      exact ⟨rfl, HT.out, ((ButL.of HB1.out).trans (.setCell _ _ _ _ (by simp [Fp.w]))).trans (.setCell _ _ _ _ (by simp only [Fp.w, List.mem_cons]; exact .inr HG.out))⟩
    · simp only [fr, ptr, pa, if_neg ho] at *
      clear ho
      go_enter Tryz.func22, Tryz.ntmps22
      go_wp2_with fail
      refine HF.out.mono ?_
      rintro x w1 ⟨rfl, hb1⟩
      have HB1 := hid (below_on hB.out hb1)
      have HM := hid (H.out.on hb1)
      clear hb1
      go_wp2_with fail
      go_ret
      exact ⟨rfl, HM.out, .of HB1.out⟩
end Go.Proofs.YtildhjiddidghaaGreatDoor
