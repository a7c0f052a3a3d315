/- EntryBack 3. -/
import Derived.Test.YtpijfaffbnojnaaEg
namespace Go.Proofs.Ytpijfaffbnojnaa
open Go.RowKit
set_option maxHeartbeats 8000000
set_option maxRecDepth 100000
theorem back_any (W : World) (x : En) (a b : Int) (a0 : 0 ≤ a) (a1 : a < 4294967296) (b0 : 0 ≤ b) (b1 : b < 4294967296) : Calls Try.prog 3 #[x.v, twoV a b] W fun e W' => e = .returned (.bool true) ∧ Below W.heap.size W W' := by
  have B0 := hid (Bag.two W 23 25 x.cs (two a b))
  have HD := hid (fun W => decode_any W a b a0 a1 b0 b1)
  have HE := hid (fun W => encode_any W x)
  have HC := hid (fun W => check_any W x)
  have HE1 := hid (fun W => encode_any W (dec a b))
  have HC1 := hid (fun W => check_any W (dec a b))
  have HS2 : Hid (∀ w : World, (Op.equalIn 10000 25 (.agg (two a b).toArray) (.agg (two a b).toArray)).run Try.prog w = .ok true w) := hid (fun w => (run_equalIn_two w 9998 a b a b).trans (by simp [same2]))
  have HSx : Hid (∀ w : World, (Op.equalIn 10000 30 (.agg x.cs.toArray) (.agg x.cs.toArray)).run Try.prog w = .ok true w) := hid (fun w => (eqE w 9996 x x).trans (by rw [En.same_self]))
  have HSZ : Hid (∀ w : World, (Op.equalIn 10000 30 (.agg En.zero.cs.toArray) (.agg En.zero.cs.toArray)).run Try.prog w = .ok true w) := hid (fun w => (eqE w 9996 En.zero En.zero).trans (by rw [En.same_self]))
  have HDx := hid (fun W => decode_any W (e0 x) (e1 x) (e0_range x).1 (e0_range x).2 (e1_range x).1 (e1_range x).2)
  have hx1 : x.ok = true → chk x = 0 ∧ x = dec (e0 x) (e1 x) ∧ decE (e0 x) (e1 x) = 0 := fun h => ⟨chk_yes h, (dec_w h).1.symm, (dec_w h).2⟩
  have hx2 : x.ok = false → chk x = 110 ∧ e0 x = 0 ∧ e1 x = 0 := chk_no
  have hd1 : dok a b = true → decE a b = 0 ∧ a = e0 (dec a b) ∧ b = e1 (dec a b) ∧ chk (dec a b) = 0 := fun h => ⟨(dec_yes h).1, (dec_yes h).2.1.symm, (dec_yes h).2.2.1.symm, (dec_yes h).2.2.2⟩
  have hd2 : dok a b = false → decE a b = 110 ∧ dec a b = En.zero := dec_no
  clear a0 a1 b0 b1
  generalize x.ok = ok at *
  generalize dok a b = dk at *
  generalize dec (e0 x) (e1 x) = Dx at *
  generalize decE (e0 x) (e1 x) = DxE at *
  generalize chk x = ck at *
  generalize e0 x = v0 at *
  generalize e1 x = v1 at *
  generalize e0 (dec a b) = d0 at *
  generalize e1 (dec a b) = d1 at *
  generalize chk (dec a b) = dc at *
  generalize dec a b = D at *
  generalize decE a b = DE at *
  simp only [twoV, En.v] at *
  rcases dk with _ | _ <;> rcases ok with _ | _
  · obtain ⟨rfl, rfl⟩ := hd2 rfl
    obtain ⟨rfl, rfl, rfl⟩ := hx2 rfl
    clear hd1 hd2 hx1 hx2
    go_enter Try.func3, Try.ntmps3
    go_upto_region 1 with fail
    generalize hX : (W.alloc _).alloc _ = X at *
    clear hX
    generalize W.heap.size + 1 = g3 at *
    generalize W.heap.size = g2 at *
    go_upto_region 3 with (first | (go_at_call 5; refine (head_any _).mono ?_; rintro e w1 ⟨rfl, hb⟩; have B1 := hid (B0.out.on hb); clear hb))
    go_upto_region 4 with (first | (refine wpList_load_mid rfl 25 _ rfl g3 0 rfl _ _ ((B1.out.get 0 rfl).range) underA rfl (by rw [sizeA]; rfl) ?_) | (go_at_call 6; refine (HD.out _).mono ?_; rintro e w2 ⟨rfl, hb⟩; have B2 := hid (B1.out.on hb); clear hb) | (refine wpList_store_st rfl 30 _ _ rfl w2.heap.size En.zero.cs rfl rfl (Cel.new w2 30 En.zero.cs) sizeE rfl rfl ?_; intro w3 hc hb hs; have B3 := hid (B2.out.add hc hb); clear hc hb hs))
    generalize w2.heap.size = g5 at *
    go_upto_region 8 with fail
    go_upto_region 10 with (first | (refine wpList_load_g rfl 30 _ rfl g5 rfl (B3.out.get 0 rfl) rfl underE sizeE ?_) | (refine wpList_ne rfl 30 _ _ rfl _ _ rfl rfl guardE true (HSZ.out _) ?_))
    go_upto_region 11 with (first | (refine wpList_load_mid rfl 23 _ rfl g2 0 rfl _ _ ((B3.out.get 2 rfl).range) underR rfl (by rw [sizeR]; rfl) ?_) | (go_at_call 9; refine (given_any _ x).mono ?_; rintro e w4 ⟨rfl, hb⟩; have B4 := hid (B3.out.on hb); clear hb) | (refine wpList_store_st rfl 30 _ _ rfl w4.heap.size x.cs rfl rfl (Cel.new w4 30 En.zero.cs) sizeE rfl rfl ?_; intro w5 hc hb hs; have B5 := hid (B4.out.add hc hb); clear hc hb hs))
    generalize w4.heap.size = g9 at *
    go_upto_region 12 with (first | (refine wpList_load_mid rfl 30 _ rfl g9 0 rfl _ _ ((B5.out.get 0 rfl).range) underE rfl (by rw [sizeE]; rfl) ?_) | (go_at_call 7; refine (HE.out _).mono ?_; rintro e w6 ⟨rfl, hb⟩; have B6 := hid (B5.out.on hb); clear hb) | (refine wpList_store_st rfl 25 _ _ rfl w6.heap.size (two 0 0) rfl rfl (Cel.new w6 25 (two 0 0)) sizeA rfl rfl ?_; intro w7 hc hb hs; have B7 := hid (B6.out.add hc hb); clear hc hb hs))
    generalize w6.heap.size = g10 at *
    go_upto_region 14 with (first | (refine wpList_load_mid rfl 30 _ rfl g9 0 rfl _ _ ((B7.out.get 1 rfl).range) underE rfl (by rw [sizeE]; rfl) ?_) | (go_at_call 8; refine (HC.out _).mono ?_; rintro e w8 ⟨rfl, hb⟩; have B8 := hid (B7.out.on hb); clear hb))
    go_upto_region 15 with fail
    go_wp2_with (first | (refine wpList_load_g rfl 25 _ rfl g10 rfl (B8.out.get 0 rfl) rfl underA sizeA ?_) | (refine wpList_eq rfl 25 _ _ rfl _ _ rfl rfl guardA true (run_equalIn_two _ 9998 0 0 0 0) ?_))
    go_ret
    exact ⟨rfl, B8.out.below⟩
  · obtain ⟨rfl, rfl⟩ := hd2 rfl
    obtain ⟨rfl, rfl, rfl⟩ := hx1 rfl
    clear hd1 hd2 hx1 hx2
    go_enter Try.func3, Try.ntmps3
    go_upto_region 1 with fail
    generalize hX : (W.alloc _).alloc _ = X at *
    clear hX
    generalize W.heap.size + 1 = g3 at *
    generalize W.heap.size = g2 at *
    go_upto_region 3 with (first | (go_at_call 5; refine (head_any _).mono ?_; rintro e w1 ⟨rfl, hb⟩; have B1 := hid (B0.out.on hb); clear hb))
    go_upto_region 4 with (first | (refine wpList_load_mid rfl 25 _ rfl g3 0 rfl _ _ ((B1.out.get 0 rfl).range) underA rfl (by rw [sizeA]; rfl) ?_) | (go_at_call 6; refine (HD.out _).mono ?_; rintro e w2 ⟨rfl, hb⟩; have B2 := hid (B1.out.on hb); clear hb) | (refine wpList_store_st rfl 30 _ _ rfl w2.heap.size En.zero.cs rfl rfl (Cel.new w2 30 En.zero.cs) sizeE rfl rfl ?_; intro w3 hc hb hs; have B3 := hid (B2.out.add hc hb); clear hc hb hs))
    generalize w2.heap.size = g5 at *
    go_upto_region 8 with fail
    go_upto_region 10 with (first | (refine wpList_load_g rfl 30 _ rfl g5 rfl (B3.out.get 0 rfl) rfl underE sizeE ?_) | (refine wpList_ne rfl 30 _ _ rfl _ _ rfl rfl guardE true (HSZ.out _) ?_))
    go_upto_region 11 with (first | (refine wpList_load_mid rfl 23 _ rfl g2 0 rfl _ _ ((B3.out.get 2 rfl).range) underR rfl (by rw [sizeR]; rfl) ?_) | (go_at_call 9; refine (given_any _ x).mono ?_; rintro e w4 ⟨rfl, hb⟩; have B4 := hid (B3.out.on hb); clear hb) | (refine wpList_store_st rfl 30 _ _ rfl w4.heap.size x.cs rfl rfl (Cel.new w4 30 En.zero.cs) sizeE rfl rfl ?_; intro w5 hc hb hs; have B5 := hid (B4.out.add hc hb); clear hc hb hs))
    generalize w4.heap.size = g9 at *
    go_upto_region 12 with (first | (refine wpList_load_mid rfl 30 _ rfl g9 0 rfl _ _ ((B5.out.get 0 rfl).range) underE rfl (by rw [sizeE]; rfl) ?_) | (go_at_call 7; refine (HE.out _).mono ?_; rintro e w6 ⟨rfl, hb⟩; have B6 := hid (B5.out.on hb); clear hb) | (refine wpList_store_st rfl 25 _ _ rfl w6.heap.size (two v0 v1) rfl rfl (Cel.new w6 25 (two 0 0)) sizeA rfl rfl ?_; intro w7 hc hb hs; have B7 := hid (B6.out.add hc hb); clear hc hb hs))
    generalize w6.heap.size = g10 at *
    go_upto_region 14 with (first | (refine wpList_load_mid rfl 30 _ rfl g9 0 rfl _ _ ((B7.out.get 1 rfl).range) underE rfl (by rw [sizeE]; rfl) ?_) | (go_at_call 8; refine (HC.out _).mono ?_; rintro e w8 ⟨rfl, hb⟩; have B8 := hid (B7.out.on hb); clear hb))
    go_upto_region 16 with fail
    go_upto_region 17 with (first | (refine wpList_load_mid rfl 25 _ rfl g10 0 rfl _ _ ((B8.out.get 0 rfl).range) underA rfl (by rw [sizeA]; rfl) ?_) | (go_at_call 6; refine (HDx.out _).mono ?_; rintro e w9 ⟨rfl, hb⟩; have B9 := hid (B8.out.on hb); clear hb) | (refine wpList_store_st rfl 30 _ _ rfl w9.heap.size x.cs rfl rfl (Cel.new w9 30 En.zero.cs) sizeE rfl rfl ?_; intro w10 hc hb hs; have B10 := hid (B9.out.add hc hb); clear hc hb hs))
    generalize w9.heap.size = g12 at *
    go_wp2_with (first | (refine wpList_load_g rfl 30 _ rfl g12 rfl (B10.out.get 0 rfl) rfl underE sizeE ?_) | (refine wpList_load_g rfl 30 _ rfl g9 rfl (B10.out.get 2 rfl) rfl underE sizeE ?_) | (refine wpList_eq rfl 30 _ _ rfl _ _ rfl rfl guardE true (HSx.out _) ?_))
    go_ret
    exact ⟨rfl, B10.out.below⟩
  · obtain ⟨rfl, rfl, rfl, rfl⟩ := hd1 rfl
    obtain ⟨rfl, rfl, rfl⟩ := hx2 rfl
    clear hd1 hd2 hx1 hx2
    go_enter Try.func3, Try.ntmps3
    go_upto_region 1 with fail
    generalize hX : (W.alloc _).alloc _ = X at *
    clear hX
    generalize W.heap.size + 1 = g3 at *
    generalize W.heap.size = g2 at *
    go_upto_region 3 with (first | (go_at_call 5; refine (head_any _).mono ?_; rintro e w1 ⟨rfl, hb⟩; have B1 := hid (B0.out.on hb); clear hb))
    go_upto_region 4 with (first | (refine wpList_load_mid rfl 25 _ rfl g3 0 rfl _ _ ((B1.out.get 0 rfl).range) underA rfl (by rw [sizeA]; rfl) ?_) | (go_at_call 6; refine (HD.out _).mono ?_; rintro e w2 ⟨rfl, hb⟩; have B2 := hid (B1.out.on hb); clear hb) | (refine wpList_store_st rfl 30 _ _ rfl w2.heap.size D.cs rfl rfl (Cel.new w2 30 En.zero.cs) sizeE rfl rfl ?_; intro w3 hc hb hs; have B3 := hid (B2.out.add hc hb); clear hc hb hs))
    generalize w2.heap.size = g5 at *
    go_upto_region 5 with fail
    go_upto_region 6 with (first | (refine wpList_load_mid rfl 30 _ rfl g5 0 rfl _ _ ((B3.out.get 0 rfl).range) underE rfl (by rw [sizeE]; rfl) ?_) | (go_at_call 7; refine (HE1.out _).mono ?_; rintro e w4 ⟨rfl, hb⟩; have B4 := hid (B3.out.on hb); clear hb) | (refine wpList_store_st rfl 25 _ _ rfl w4.heap.size (two a b) rfl rfl (Cel.new w4 25 (two 0 0)) sizeA rfl rfl ?_; intro w5 hc hb hs; have B5 := hid (B4.out.add hc hb); clear hc hb hs))
    generalize w4.heap.size = g7 at *
    go_upto_region 10 with (first | (refine wpList_load_g rfl 25 _ rfl g7 rfl (B5.out.get 0 rfl) rfl underA sizeA ?_) | (refine wpList_load_g rfl 25 _ rfl g3 rfl (B5.out.get 2 rfl) rfl underA sizeA ?_) | (refine wpList_ne rfl 25 _ _ rfl _ _ rfl rfl guardA true (HS2.out _) ?_) | (refine wpList_load_g rfl 30 _ rfl g5 rfl (B5.out.get 1 rfl) rfl underE sizeE ?_) | (go_at_call 8; refine (HC1.out _).mono ?_; rintro e w6 ⟨rfl, hb⟩; have B6 := hid (B5.out.on hb); clear hb))
    go_upto_region 11 with (first | (refine wpList_load_mid rfl 23 _ rfl g2 0 rfl _ _ ((B6.out.get 3 rfl).range) underR rfl (by rw [sizeR]; rfl) ?_) | (go_at_call 9; refine (given_any _ x).mono ?_; rintro e w7 ⟨rfl, hb⟩; have B7 := hid (B6.out.on hb); clear hb) | (refine wpList_store_st rfl 30 _ _ rfl w7.heap.size x.cs rfl rfl (Cel.new w7 30 En.zero.cs) sizeE rfl rfl ?_; intro w8 hc hb hs; have B8 := hid (B7.out.add hc hb); clear hc hb hs))
    generalize w7.heap.size = g9 at *
    go_upto_region 12 with (first | (refine wpList_load_mid rfl 30 _ rfl g9 0 rfl _ _ ((B8.out.get 0 rfl).range) underE rfl (by rw [sizeE]; rfl) ?_) | (go_at_call 7; refine (HE.out _).mono ?_; rintro e w9 ⟨rfl, hb⟩; have B9 := hid (B8.out.on hb); clear hb) | (refine wpList_store_st rfl 25 _ _ rfl w9.heap.size (two 0 0) rfl rfl (Cel.new w9 25 (two 0 0)) sizeA rfl rfl ?_; intro w10 hc hb hs; have B10 := hid (B9.out.add hc hb); clear hc hb hs))
    generalize w9.heap.size = g10 at *
    go_upto_region 14 with (first | (refine wpList_load_mid rfl 30 _ rfl g9 0 rfl _ _ ((B10.out.get 1 rfl).range) underE rfl (by rw [sizeE]; rfl) ?_) | (go_at_call 8; refine (HC.out _).mono ?_; rintro e w11 ⟨rfl, hb⟩; have B11 := hid (B10.out.on hb); clear hb))
    go_upto_region 15 with fail
    go_wp2_with (first | (refine wpList_load_g rfl 25 _ rfl g10 rfl (B11.out.get 0 rfl) rfl underA sizeA ?_) | (refine wpList_eq rfl 25 _ _ rfl _ _ rfl rfl guardA true (run_equalIn_two _ 9998 0 0 0 0) ?_))
    go_ret
    exact ⟨rfl, B11.out.below⟩
  · obtain ⟨rfl, rfl, rfl, rfl⟩ := hd1 rfl
    obtain ⟨rfl, rfl, rfl⟩ := hx1 rfl
    clear hd1 hd2 hx1 hx2
    go_enter Try.func3, Try.ntmps3
    go_upto_region 1 with fail
    generalize hX : (W.alloc _).alloc _ = X at *
    clear hX
    generalize W.heap.size + 1 = g3 at *
    generalize W.heap.size = g2 at *
    go_upto_region 3 with (first | (go_at_call 5; refine (head_any _).mono ?_; rintro e w1 ⟨rfl, hb⟩; have B1 := hid (B0.out.on hb); clear hb))
    go_upto_region 4 with (first | (refine wpList_load_mid rfl 25 _ rfl g3 0 rfl _ _ ((B1.out.get 0 rfl).range) underA rfl (by rw [sizeA]; rfl) ?_) | (go_at_call 6; refine (HD.out _).mono ?_; rintro e w2 ⟨rfl, hb⟩; have B2 := hid (B1.out.on hb); clear hb) | (refine wpList_store_st rfl 30 _ _ rfl w2.heap.size D.cs rfl rfl (Cel.new w2 30 En.zero.cs) sizeE rfl rfl ?_; intro w3 hc hb hs; have B3 := hid (B2.out.add hc hb); clear hc hb hs))
    generalize w2.heap.size = g5 at *
    go_upto_region 5 with fail
    go_upto_region 6 with (first | (refine wpList_load_mid rfl 30 _ rfl g5 0 rfl _ _ ((B3.out.get 0 rfl).range) underE rfl (by rw [sizeE]; rfl) ?_) | (go_at_call 7; refine (HE1.out _).mono ?_; rintro e w4 ⟨rfl, hb⟩; have B4 := hid (B3.out.on hb); clear hb) | (refine wpList_store_st rfl 25 _ _ rfl w4.heap.size (two a b) rfl rfl (Cel.new w4 25 (two 0 0)) sizeA rfl rfl ?_; intro w5 hc hb hs; have B5 := hid (B4.out.add hc hb); clear hc hb hs))
    generalize w4.heap.size = g7 at *
    go_upto_region 10 with (first | (refine wpList_load_g rfl 25 _ rfl g7 rfl (B5.out.get 0 rfl) rfl underA sizeA ?_) | (refine wpList_load_g rfl 25 _ rfl g3 rfl (B5.out.get 2 rfl) rfl underA sizeA ?_) | (refine wpList_ne rfl 25 _ _ rfl _ _ rfl rfl guardA true (HS2.out _) ?_) | (refine wpList_load_g rfl 30 _ rfl g5 rfl (B5.out.get 1 rfl) rfl underE sizeE ?_) | (go_at_call 8; refine (HC1.out _).mono ?_; rintro e w6 ⟨rfl, hb⟩; have B6 := hid (B5.out.on hb); clear hb))
    go_upto_region 11 with (first | (refine wpList_load_mid rfl 23 _ rfl g2 0 rfl _ _ ((B6.out.get 3 rfl).range) underR rfl (by rw [sizeR]; rfl) ?_) | (go_at_call 9; refine (given_any _ x).mono ?_; rintro e w7 ⟨rfl, hb⟩; have B7 := hid (B6.out.on hb); clear hb) | (refine wpList_store_st rfl 30 _ _ rfl w7.heap.size x.cs rfl rfl (Cel.new w7 30 En.zero.cs) sizeE rfl rfl ?_; intro w8 hc hb hs; have B8 := hid (B7.out.add hc hb); clear hc hb hs))
    generalize w7.heap.size = g9 at *
    go_upto_region 12 with (first | (refine wpList_load_mid rfl 30 _ rfl g9 0 rfl _ _ ((B8.out.get 0 rfl).range) underE rfl (by rw [sizeE]; rfl) ?_) | (go_at_call 7; refine (HE.out _).mono ?_; rintro e w9 ⟨rfl, hb⟩; have B9 := hid (B8.out.on hb); clear hb) | (refine wpList_store_st rfl 25 _ _ rfl w9.heap.size (two v0 v1) rfl rfl (Cel.new w9 25 (two 0 0)) sizeA rfl rfl ?_; intro w10 hc hb hs; have B10 := hid (B9.out.add hc hb); clear hc hb hs))
    generalize w9.heap.size = g10 at *
    go_upto_region 14 with (first | (refine wpList_load_mid rfl 30 _ rfl g9 0 rfl _ _ ((B10.out.get 1 rfl).range) underE rfl (by rw [sizeE]; rfl) ?_) | (go_at_call 8; refine (HC.out _).mono ?_; rintro e w11 ⟨rfl, hb⟩; have B11 := hid (B10.out.on hb); clear hb))
    go_upto_region 16 with fail
    go_upto_region 17 with (first | (refine wpList_load_mid rfl 25 _ rfl g10 0 rfl _ _ ((B11.out.get 0 rfl).range) underA rfl (by rw [sizeA]; rfl) ?_) | (go_at_call 6; refine (HDx.out _).mono ?_; rintro e w12 ⟨rfl, hb⟩; have B12 := hid (B11.out.on hb); clear hb) | (refine wpList_store_st rfl 30 _ _ rfl w12.heap.size x.cs rfl rfl (Cel.new w12 30 En.zero.cs) sizeE rfl rfl ?_; intro w13 hc hb hs; have B13 := hid (B12.out.add hc hb); clear hc hb hs))
    generalize w12.heap.size = g12 at *
    go_wp2_with (first | (refine wpList_load_g rfl 30 _ rfl g12 rfl (B13.out.get 0 rfl) rfl underE sizeE ?_) | (refine wpList_load_g rfl 30 _ rfl g9 rfl (B13.out.get 2 rfl) rfl underE sizeE ?_) | (refine wpList_eq rfl 30 _ _ rfl _ _ rfl rfl guardE true (HSx.out _) ?_))
    go_ret
    exact ⟨rfl, B13.out.below⟩
end Go.Proofs.Ytpijfaffbnojnaa
