import Derived.Test.YtgbpbfnpeeciaaaP17
namespace Go.Proofs.Ytgbpbfnpeeciaaa
open Go.RowKit
set_option maxHeartbeats 8000000
set_option maxRecDepth 100000
theorem w64 (x : Int) (h0 : 0 ≤ x) (h1 : x < 4294967296) : wrap64 x = x := by unfold wrap64; omega
theorem fields_any (W : World) (a b : Int) (a0 : 0 ≤ a) (a1 : a < 4294967296) (b0 : 0 ≤ b) (b1 : b < 4294967296) : Calls Try.prog 108 #[twoV a b] W fun e W' => e = .returned (fld a b).v ∧ Below W.heap.size W W' := by
  have HX := hid (Bx.new W 173 136 (two a b) En.zero.cs)
  have h1 : bits .and .u32 a 7 = a % 8 := by have := and_mask 3 7 a (by simp) a0 a1 (by decide); simpa using this
  have h2 : bits .and .u32 (a / 65536) 63 = a / 65536 % 64 := by have := and_mask 6 63 (a / 65536) (by simp) (by omega) (by omega) (by decide); simpa using this
  have h3 : bits .and .u32 b 63 = b % 64 := by have := and_mask 6 63 b (by simp) b0 b1 (by decide); simpa using this
  have h4 : bits .and .u32 (a / 16) 3 = a / 16 % 4 := by have := and_mask 2 3 (a / 16) (by simp) (by omega) (by omega) (by decide); simpa using this
  have h5 : bits .and .u32 (a / 256) 1 = a / 256 % 2 := by have := and_mask 1 1 (a / 256) (by simp) (by omega) (by omega) (by decide); simpa using this
  have k1 : wrap64 (a % 8) = a % 8 := w64 _ (by omega) (by omega)
  have k2 : wrap64 (a / 65536 % 64) = a / 65536 % 64 := w64 _ (by omega) (by omega)
  have k3 : wrap64 (b % 64) = b % 64 := w64 _ (by omega) (by omega)
  have k4 : wrap64 (a / 16 % 4) = a / 16 % 4 := w64 _ (by omega) (by omega)
  simp only [En.v, twoV, two, En.zero, En.cs, fld] at HX ⊢
  generalize q1 : a % 8 = x1 at *
  generalize q2 : a / 65536 % 64 = x2 at *
  generalize q3 : b % 64 = x3 at *
  generalize q4 : a / 16 % 4 = x4 at *
  generalize q5 : a / 256 % 2 = x5 at *
  clear q1 q2 q3 q4 q5
  go_enter Try.func108, Try.ntmps108
  go_upto_region 1 with fail
  generalize hX : (W.alloc _).alloc _ = X at *
  clear hX
  generalize W.heap.size + 1 = g2 at *
  generalize W.heap.size = g1 at *
  have c0 := HX.out.a.cell 0
  have c1 := HX.out.a.cell 1
  simp only [List.getElem?_cons_zero, List.getElem?_cons_succ] at c0 c1
  go_wp2_with (refine wpList_store_st rfl 136 _ _ rfl g2 [Value.int .i64 x1, .int .i64 x2, .int .i64 x3, .int .i64 x4, .bool (x5 == 1)] rfl rfl HX.out.b sizeE rfl rfl ?_; intro w2 hc2 hb2 hs2; have HF := hid (HX.out.put hc2 hb2); clear hc2 hb2 hs2)
  exact ret_st rfl rfl g2 _ rfl HF.out.1 underE rfl (by rw [sizeE]; rfl) ⟨rfl, HF.out.2⟩
theorem or_enc {x : En} (h : x.Ok) : bits .or .u32 (bits .or .u32 (x.t % 4294967296) (x.s % 4294967296 * 16 % 4294967296)) (x.o % 4294967296 * 65536 % 4294967296) = x.t + 16 * x.s + 65536 * x.o := by
  obtain ⟨t0, t1, o0, o1, r0, r1, s0, s1, z, sp, ns, en⟩ := h
  rw [show x.t % 4294967296 = x.t by omega, show x.s % 4294967296 * 16 % 4294967296 = x.s * 16 by omega, show x.o % 4294967296 * 65536 % 4294967296 = x.o * 65536 by omega]
  rw [or_add 4 x.t (x.s * 16) x.s (by simp) t0 (by simp; omega) s0 (by omega) (by omega), or_add 16 _ (x.o * 65536) x.o (by simp) (by omega) (by simp; omega) o0 (by omega) (by omega)]
  omega
theorem encode_any (W : World) (x : En) : Calls Try.prog 96 #[x.v] W fun e W' => e = .returned (.tuple #[twoV (e0 x) (e1 x), .int .i64 (chk x)]) ∧ Below W.heap.size W W' := by
  have HX := hid (Bx.new W 136 173 x.cs (two 0 0))
  have HK := hid (fun W => check_any W x)
  cases hok : x.ok
  · have hc : chk x = 110 := by simp [chk, hok]
    have h0 : e0 x = 0 := by simp [e0, hok]
    have h1 : e1 x = 0 := by simp [e1, hok]
    rw [hc] at HK
    rw [hc, h0, h1]
    clear hc h0 h1 hok
    simp only [twoV, two, En.v] at *
    go_enter Try.func96, Try.ntmps96
    go_upto_region 1 with fail
    generalize hX : (W.alloc _).alloc _ = X at *
    clear hX
    generalize W.heap.size + 1 = g2 at *
    generalize W.heap.size = g1 at *
    go_wp2_with (first | (refine wpList_load_mid rfl 136 _ rfl g1 0 rfl _ _ HX.out.a.range underE rfl (by rw [sizeE]; rfl) ?_) | (go_at_call 102; refine (HK.out _).mono ?_; rintro e w1 ⟨rfl, hb1⟩; have HX1 := hid (HX.out.on hb1); clear hb1) | (refine wpList_store_st rfl 173 _ _ rfl g2 (two 0 0) rfl rfl HX1.out.b sizeA rfl rfl ?_; intro w2 hc2 hb2 hs2; have HF := hid (HX1.out.put hc2 hb2); clear hc2 hb2 hs2))
    exact ret_st2 rfl rfl g2 _ rfl HF.out.1 underA rfl sizeA ⟨rfl, HF.out.2⟩
  · have hO := x.ok_iff.1 hok
    have hc : chk x = 0 := by simp [chk, hok]
    have h0 : e0 x = x.w := by simp [e0, hok]
    have h1 : e1 x = x.r := by simp [e1, hok]
    have q1 : bits .or .u32 (bits .or .u32 (x.t % 4294967296) (x.s % 4294967296 * 16 % 4294967296)) (x.o % 4294967296 * 65536 % 4294967296) = x.t + 16 * x.s + 65536 * x.o := or_enc hO
    have q2 : x.r % 4294967296 = x.r := by have := hO.r0; have := hO.r1; omega
    have q3 : x.e = false → x.t + 16 * x.s + 65536 * x.o = x.w := fun he => by rw [En.w, he]; simp
    have q4 : x.e = true → bits .or .u32 (x.t + 16 * x.s + 65536 * x.o) 256 = x.w := fun he => by
      have ht := hO.en he
      have hs := (hO.ns (by omega)).2
      have := or_256 x.o hO.o0 hO.o1
      rw [En.w, he, ht, hs]
      simpa using this
    rw [hc] at HK
    rw [hc, h0, h1]
    clear hc h0 h1 hok hO
    simp only [twoV, two, En.v] at HX HK ⊢
    generalize x.t + 16 * x.s + 65536 * x.o = y at *
    generalize x.w = xw at *
    obtain ⟨t, o, r, s, e⟩ := x
    simp only [En.cs] at *
    go_enter Try.func96, Try.ntmps96
    go_upto_region 1 with fail
    generalize hX : (W.alloc _).alloc _ = X at *
    clear hX
    generalize W.heap.size + 1 = g2 at *
    generalize W.heap.size = g1 at *
    have HQ := hid (And.intro q1 (And.intro q2 (And.intro q3 q4)))
    clear q1 q2 q3 q4
    go_upto_region 2 with (first | (refine wpList_load_mid rfl 136 _ rfl g1 0 rfl _ _ HX.out.a.range underE rfl (by rw [sizeE]; rfl) ?_) | (go_at_call 102; refine (HK.out _).mono ?_; rintro e1 w1 ⟨rfl, hb1⟩; have HX1 := hid (HX.out.on hb1); clear hb1))
    have c0 := HX1.out.a.cell 0
    have c1 := HX1.out.a.cell 1
    have c2 := HX1.out.a.cell 2
    have c3 := HX1.out.a.cell 3
    have c4 := HX1.out.a.cell 4
    simp only [List.getElem?_cons_zero, List.getElem?_cons_succ] at c0 c1 c2 c3 c4
    obtain ⟨q1, q2, q3, q4⟩ := HQ.out
    clear HQ
    cases e
    · have q5 := q3 rfl
      subst q5
      clear q3 q4
      go_wp2_with (refine wpList_store_st rfl 173 _ _ rfl g2 [Value.int .u32 y, .int .u32 r] rfl rfl HX1.out.b sizeA rfl rfl ?_; intro w2 hc2 hb2 hs2; have HF := hid (HX1.out.put hc2 hb2); clear hc2 hb2 hs2)
      exact ret_st2 rfl rfl g2 _ rfl HF.out.1 underA rfl sizeA ⟨rfl, HF.out.2⟩
    · have q5 := q4 rfl
      clear q3 q4
      go_wp2_with (refine wpList_store_st rfl 173 _ _ rfl g2 [Value.int .u32 xw, .int .u32 r] rfl rfl HX1.out.b sizeA rfl rfl ?_; intro w2 hc2 hb2 hs2; have HF := hid (HX1.out.put hc2 hb2); clear hc2 hb2 hs2)
      exact ret_st2 rfl rfl g2 _ rfl HF.out.1 underA rfl sizeA ⟨rfl, HF.out.2⟩
end Go.Proofs.Ytgbpbfnpeeciaaa
