/- EntryAll 4 (regions 5 and 9 are drawn). -/
import Derived.Test.YtpijfaffbnojnaaDoorRd
import Derived.Test.YtpijfaffbnojnaaDoorNm
namespace Go.Proofs.YtpijfaffbnojnaaDoor
open Go.RowKit
set_option maxHeartbeats 8000000
set_option maxRecDepth 100000
theorem all_any (W : World) (hN : Nt W) (hR : Nr W) (x : En) (a b n : Int) (a0 : 0 ≤ a) (a1 : a < 4294967296) (b0 : 0 ≤ b) (b1 : b < 4294967296) : Calls Tryd.prog 4 #[x.v, twoV a b, .int .i64 n] W fun e W' => e = .returned (.bool true) ∧ Below W.heap.size W W' := by
  have B0 := hid (Bag.two W 29 31 x.cs (two a b))
  have HNt := hid hN
  have HNr := hid hR
  clear hN hR
  have HE := hid (fun W => encode_any W x)
  have HRe := hid (fun W => rencode_any W x)
  have HC := hid (fun W => check_any W x)
  have HRc := hid (fun W => rcheck_any W x)
  have HD := hid (fun W => decode_any W a b a0 a1 b0 b1)
  have HRd := hid (fun W => rdecode_any W a b a0 a1 b0 b1)
  have HSD : Hid (∀ w : World, (Op.equalIn 10000 29 (.agg (dec a b).cs.toArray) (.agg (dec a b).cs.toArray)).run Tryd.prog w = .ok true w) := hid (fun w => (eqR w 9996 (dec a b) (dec a b)).trans (by rw [En.same_self]))
  have HS2 : Hid (∀ w : World, (Op.equalIn 10000 31 (.agg (two (e0 x) (e1 x)).toArray) (.agg (two (e0 x) (e1 x)).toArray)).run Tryd.prog w = .ok true w) := hid (fun w => (run_equalIn_two w 9998 (e0 x) (e1 x) (e0 x) (e1 x)).trans (by simp [same2]))
  clear a0 a1 b0 b1
  generalize dec a b = D at *
  generalize decE a b = DE at *
  generalize chk x = ck at *
  generalize e0 x = v0 at *
  generalize e1 x = v1 at *
  simp only [twoV, En.v] at *
  go_enter Tryd.func4, Tryd.ntmps4
  go_upto_region 1 with fail
  generalize hX : (W.alloc _).alloc _ = X at *
  clear hX
  generalize W.heap.size + 1 = g4 at *
  generalize hgW : W.heap.size = g3 at B0 ⊢
  go_upto_region 3 with (first | (go_at_call 5; refine (head_any _).mono ?_; rintro e w1 ⟨rfl, hb⟩; have B1 := hid (B0.out.on hb); clear hb))
  go_upto_region 4 with (first | (refine wpList_load_mid rfl 29 _ rfl g3 0 rfl _ _ ((B1.out.get 1 rfl).range) underR rfl (by rw [sizeR]; rfl) ?_) | (go_at_call 8; refine (HRe.out _).mono ?_; rintro e w2 ⟨rfl, hb⟩; have B2 := hid (B1.out.on hb); clear hb) | (refine wpList_store_st rfl 31 _ _ rfl w2.heap.size (two v0 v1) rfl rfl (Cel.new w2 31 (two 0 0)) sizeA rfl rfl ?_; intro w3 hc hb hs; have B3 := hid (B2.out.add hc hb); clear hc hb hs))
  generalize w2.heap.size = g7 at *
  go_upto_region 5 with (first | (refine wpList_load_mid rfl 29 _ rfl g3 0 rfl _ _ ((B3.out.get 2 rfl).range) underR rfl (by rw [sizeR]; rfl) ?_) | (go_at_call 10; refine (given_any _ x).mono ?_; rintro e w4 ⟨rfl, hb⟩; have B4 := hid (B3.out.on hb); clear hb) | (go_at_call 9; refine (HE.out _).mono ?_; rintro e w5 ⟨rfl, hb⟩; have B5 := hid (B4.out.on hb); clear hb) | (refine wpList_store_st rfl 31 _ _ rfl w5.heap.size (two v0 v1) rfl rfl (Cel.new w5 31 (two 0 0)) sizeA rfl rfl ?_; intro w6 hc hb hs; have B6 := hid (B5.out.add hc hb); clear hc hb hs))
  generalize w5.heap.size = g9 at *
  have HK := hid (B6.out.on (Below.refl _ _).drew)
  refine wp_region_held_drew (S := fun w => Bag W w [(g9, 31, two v0 v1), (g7, 31, two v0 v1), (g4, 31, two a b), (g3, 29, x.cs)]) (by kernel_rfl) HK.out (fun hHeld => ?_)
  refine wpAnyH_take (i := 0) (oi := { dst := some 28, op := Op.load 31 (Operand.tmp 9), type := 31, pos := "law.go:43", after := #[], guard := none }) (v := .agg (two v0 v1).toArray) rfl (by kernel_rfl) (by kernel_rfl) (by kernel_rfl) (fun _ _ _ h => h) (yieldsIf_load_mid (by rfl) _ _ rfl _ _ rfl _ _ (fun w hSw => (hSw.get 0 rfl).range) underA rfl (by rw [sizeA]; rfl)) (by assumption) ?_
  simp only [Act.put, List.setIfInBounds_toArray, List.set_cons_zero, List.set_cons_succ]
  refine wpAnyH_take (i := 1) (oi := { dst := some 29, op := Op.load 31 (Operand.tmp 7), type := 31, pos := "law.go:43", after := #[], guard := none }) (v := .agg (two v0 v1).toArray) rfl (by kernel_rfl) (by kernel_rfl) (by kernel_rfl) (fun _ _ _ h => h) (yieldsIf_load_mid (by rfl) _ _ rfl _ _ rfl _ _ (fun w hSw => (hSw.get 1 rfl).range) underA rfl (by rw [sizeA]; rfl)) (by assumption) ?_
  simp only [Act.put, List.setIfInBounds_toArray, List.set_cons_zero, List.set_cons_succ]
  refine wpAnyH_take (i := 2) (oi := { dst := some 30, op := Op.binOp BinOp.neq 31 (Operand.tmp 28) (Operand.tmp 29) 31, type := 4, pos := "law.go:43", after := #[{ on := 0, ground := Ground.data }, { on := 1, ground := Ground.data }], guard := none }) (v := .bool false) rfl (by kernel_rfl) (by kernel_rfl) (by kernel_rfl) (fun _ _ _ h => h) (Or.inl ⟨by rfl, fun w hSw => exec_neV 31 _ _ rfl _ _ rfl rfl guardA _ _ (HS2.out w) rfl⟩) (by assumption) ?_
  simp only [Act.put, List.setIfInBounds_toArray, List.set_cons_zero, List.set_cons_succ]
  refine wpAnyH_take (i := 3) (oi := { dst := some 31, op := Op.move (Operand.tmp 30), type := 4, pos := "law.go:43", after := #[{ on := 2, ground := Ground.data }], guard := none }) (v := .bool false) rfl (by kernel_rfl) (by kernel_rfl) (by kernel_rfl) (fun _ _ _ h => h) (Or.inl ⟨by rfl, by intro w hSw; go_simp⟩) (by assumption) ?_
  simp only [Act.put, List.setIfInBounds_toArray, List.set_cons_zero, List.set_cons_succ]
  refine wpAnyH_take (i := 4) (oi := { dst := some 32, op := Op.move (Operand.tmp 10), type := 34, pos := "law.go:43", after := #[{ on := 3, ground := Ground.guard }], guard := some (3, false) }) (v := .int .i64 ck) rfl (by kernel_rfl) (by kernel_rfl) (by kernel_rfl) (fun _ _ _ h => h) (Or.inl ⟨by rfl, by intro w hSw; go_simp⟩) (by assumption) ?_
  simp only [Act.put, List.setIfInBounds_toArray, List.set_cons_zero, List.set_cons_succ]
  refine wpAnyH_take (i := 5) (oi := { dst := some 33, op := Op.move (Operand.tmp 8), type := 3, pos := "law.go:43", after := #[{ on := 3, ground := Ground.guard }], guard := some (3, false) }) (v := .int .i64 ck) rfl (by kernel_rfl) (by kernel_rfl) (by kernel_rfl) (fun _ _ _ h => h) (Or.inl ⟨by rfl, by intro w hSw; go_simp⟩) (by assumption) ?_
  simp only [Act.put, List.setIfInBounds_toArray, List.set_cons_zero, List.set_cons_succ]
  refine wpAnyH_take (i := 6) (oi := { dst := some 34, op := Op.binOp BinOp.neq 3 (Operand.tmp 32) (Operand.tmp 33) 3, type := 4, pos := "law.go:43", after := #[{ on := 4, ground := Ground.data }, { on := 5, ground := Ground.data }, { on := 3, ground := Ground.guard }], guard := some (3, false) }) (v := .bool false) rfl (by kernel_rfl) (by kernel_rfl) (by kernel_rfl) (fun _ _ _ h => h) (Or.inl ⟨by rfl, by intro w hSw; go_simp⟩) (by assumption) ?_
  simp only [Act.put, List.setIfInBounds_toArray, List.set_cons_zero, List.set_cons_succ]
  refine wpAnyH_take (i := 7) (oi := { dst := some 35, op := Op.pick (Operand.tmp 31) (Operand.const (Value.bool true)) (Operand.tmp 34), type := 4, pos := "law.go:43", after := #[{ on := 3, ground := Ground.data }, { on := 6, ground := Ground.data }], guard := none }) (v := .bool false) rfl (by kernel_rfl) (by kernel_rfl) (by kernel_rfl) (fun _ _ _ h => h) (Or.inl ⟨by rfl, by intro w hSw; go_simp⟩) (by assumption) ?_
  simp only [Act.put, List.setIfInBounds_toArray, List.set_cons_zero, List.set_cons_succ]
  refine wpAnyH_take (i := 8) (oi := { dst := some 36, op := Op.move (Operand.tmp 35), type := 4, pos := "law.go:43", after := #[{ on := 7, ground := Ground.data }, { on := 3, ground := Ground.chain }], guard := none }) (v := .bool false) rfl (by kernel_rfl) (by kernel_rfl) (by kernel_rfl) (fun _ _ _ h => h) (Or.inl ⟨by rfl, by intro w hSw; go_simp⟩) (by assumption) ?_
  simp only [Act.put, List.setIfInBounds_toArray, List.set_cons_zero, List.set_cons_succ]
  refine wpAnyH_take (i := 9) (oi := { dst := some 37, op := Op.load 29 (Operand.tmp 3), type := 29, pos := "law.go:43", after := #[{ on := 8, ground := Ground.guard }], guard := some (8, false) }) (v := .agg x.cs.toArray) rfl (by kernel_rfl) (by kernel_rfl) (by kernel_rfl) (fun _ _ _ h => h) (yieldsIf_load_mid (by rfl) _ _ rfl _ _ rfl _ _ (fun w hSw => (hSw.get 3 rfl).range) underR rfl (by rw [sizeR]; rfl)) (by assumption) ?_
  simp only [Act.put, List.setIfInBounds_toArray, List.set_cons_zero, List.set_cons_succ]
  refine wpAnyH_take (i := 12) (oi := { dst := some 40, op := Op.load 29 (Operand.tmp 3), type := 29, pos := "law.go:43", after := #[{ on := 8, ground := Ground.guard }], guard := some (8, false) }) (v := .agg x.cs.toArray) rfl (by kernel_rfl) (by kernel_rfl) (by kernel_rfl) (fun _ _ _ h => h) (yieldsIf_load_mid (by rfl) _ _ rfl _ _ rfl _ _ (fun w hSw => (hSw.get 3 rfl).range) underR rfl (by rw [sizeR]; rfl)) (by assumption) ?_
  simp only [Act.put, List.setIfInBounds_toArray, List.set_cons_zero, List.set_cons_succ]
  refine wpAnyH_ready (rs := [10]) (by kernel_rfl) (by simp) (AllReadyH.cons (o := { dst := some 38, op := Op.call { callee := Callee.value (Operand.func 10), args := #[Operand.tmp 37], argTypes := #[29] }, type := 38, pos := "law.go:43", after := #[{ on := 9, ground := Ground.data }, { on := 8, ground := Ground.chain }, { on := 8, ground := Ground.guard }], guard := some (8, false) }) rfl (fun KQ hK => ?_) AllReadyH.nil)
  go_simp
  refine (given_any _ x).mono ?_
  rintro e wk1 ⟨rfl, hb⟩
  have K1 := hid ((HK.out).on hb)
  clear hb
  go_wp2_with fail
  refine hK.out _ _ K1.out (fun hHeld => ?_)
  clear hK KQ
  try simp only [Act.put, List.setIfInBounds_toArray, List.set_cons_zero, List.set_cons_succ]
  refine wpAnyH_ready (rs := [11]) (by kernel_rfl) (by simp) (AllReadyH.cons (o := { dst := some 39, op := Op.call { callee := Callee.value (Operand.func 11), args := #[Operand.tmp 38], argTypes := #[38] }, type := 34, pos := "law.go:43", after := #[{ on := 10, ground := Ground.data }, { on := 10, ground := Ground.chain }, { on := 8, ground := Ground.guard }], guard := some (8, false) }) rfl (fun KQ hK => ?_) AllReadyH.nil)
  go_simp
  refine (HC.out _).mono ?_
  rintro e wk2 ⟨rfl, hb⟩
  have K2 := hid ((K1.out).on hb)
  clear hb
  go_wp2_with fail
  refine hK.out _ _ K2.out (fun hHeld => ?_)
  clear hK KQ
  try simp only [Act.put, List.setIfInBounds_toArray, List.set_cons_zero, List.set_cons_succ]
  refine wpAnyH_ready (rs := [13]) (by kernel_rfl) (by simp) (AllReadyH.cons (o := { dst := some 41, op := Op.call { callee := Callee.value (Operand.func 12), args := #[Operand.tmp 40], argTypes := #[29] }, type := 3, pos := "law.go:43", after := #[{ on := 12, ground := Ground.data }, { on := 11, ground := Ground.chain }, { on := 8, ground := Ground.guard }], guard := some (8, false) }) rfl (fun KQ hK => ?_) AllReadyH.nil)
  go_simp
  refine (HRc.out _).mono ?_
  rintro e wk3 ⟨rfl, hb⟩
  have K3 := hid ((K2.out).on hb)
  clear hb
  go_wp2_with fail
  refine hK.out _ _ K3.out (fun hHeld => ?_)
  clear hK KQ
  try simp only [Act.put, List.setIfInBounds_toArray, List.set_cons_zero, List.set_cons_succ]
  refine wpAnyH_take (i := 14) (oi := { dst := some 42, op := Op.binOp BinOp.neq 3 (Operand.tmp 39) (Operand.tmp 41) 3, type := 4, pos := "law.go:43", after := #[{ on := 11, ground := Ground.data }, { on := 13, ground := Ground.data }, { on := 8, ground := Ground.guard }], guard := some (8, false) }) (v := .bool false) rfl (by kernel_rfl) (by kernel_rfl) (by kernel_rfl) (fun _ _ _ h => h) (Or.inl ⟨by rfl, by intro w hSw; go_simp⟩) (by assumption) ?_
  simp only [Act.put, List.setIfInBounds_toArray, List.set_cons_zero, List.set_cons_succ]
  refine wpAnyH_take (i := 15) (oi := { dst := some 43, op := Op.pick (Operand.tmp 36) (Operand.const (Value.bool true)) (Operand.tmp 42), type := 4, pos := "law.go:43", after := #[{ on := 8, ground := Ground.data }, { on := 14, ground := Ground.data }], guard := none }) (v := .bool false) rfl (by kernel_rfl) (by kernel_rfl) (by kernel_rfl) (fun _ _ _ h => h) (Or.inl ⟨by rfl, by intro w hSw; go_simp⟩) (by assumption) ?_
  simp only [Act.put, List.setIfInBounds_toArray, List.set_cons_zero, List.set_cons_succ]
  refine wpAnyH_done (by kernel_rfl) ?_ _
  have B50 := hid (K3.out)
  clear HK
  go_upto_region 8 with (first | (refine wpList_load_mid rfl 31 _ rfl g4 0 rfl _ _ ((B50.out.get 2 rfl).range) underA rfl (by rw [sizeA]; rfl) ?_) | (go_at_call 13; refine (HRd.out _).mono ?_; rintro e w51 ⟨rfl, hb⟩; have B51 := hid (B50.out.on hb); clear hb) | (refine wpList_store_st rfl 29 _ _ rfl w51.heap.size D.cs rfl rfl (Cel.new w51 29 En.zero.cs) sizeR rfl rfl ?_; intro w52 hc hb hs; have B52 := hid (B51.out.add hc hb); clear hc hb hs))
  generalize w51.heap.size = g11 at *
  go_upto_region 9 with (first | (refine wpList_load_mid rfl 31 _ rfl g4 0 rfl _ _ ((B52.out.get 3 rfl).range) underA rfl (by rw [sizeA]; rfl) ?_) | (go_at_call 14; refine (HD.out _).mono ?_; rintro e w53 ⟨rfl, hb⟩; have B53 := hid (B52.out.on hb); clear hb) | (refine wpList_store_st rfl 38 _ _ rfl w53.heap.size D.cs rfl rfl (Cel.new w53 38 En.zero.cs) sizeE rfl rfl ?_; intro w54 hc hb hs; have B54 := hid (B53.out.add hc hb); clear hc hb hs))
  generalize w53.heap.size = g13 at *
  have HK9 := hid (B54.out.on (Below.refl _ _).drew)
  refine wp_region_held_drew (S := fun w => Bag W w [(g13, 38, D.cs), (g11, 29, D.cs), (g9, 31, two v0 v1), (g7, 31, two v0 v1), (g4, 31, two a b), (g3, 29, x.cs)]) (by kernel_rfl) HK9.out (fun hHeld => ?_)
  refine wpAnyH_take (i := 0) (oi := { dst := some 54, op := Op.load 38 (Operand.tmp 13), type := 38, pos := "law.go:48", after := #[], guard := none }) (v := .agg D.cs.toArray) rfl (by kernel_rfl) (by kernel_rfl) (by kernel_rfl) (fun _ _ _ h => h) (yieldsIf_load_mid (by rfl) _ _ rfl _ _ rfl _ _ (fun w hSw => (hSw.get 0 rfl).range) underE rfl (by rw [sizeE]; rfl)) (by assumption) ?_
  simp only [Act.put, List.setIfInBounds_toArray, List.set_cons_zero, List.set_cons_succ]
  refine wpAnyH_take (i := 2) (oi := { dst := some 56, op := Op.load 29 (Operand.tmp 11), type := 29, pos := "law.go:48", after := #[], guard := none }) (v := .agg D.cs.toArray) rfl (by kernel_rfl) (by kernel_rfl) (by kernel_rfl) (fun _ _ _ h => h) (yieldsIf_load_mid (by rfl) _ _ rfl _ _ rfl _ _ (fun w hSw => (hSw.get 1 rfl).range) underR rfl (by rw [sizeR]; rfl)) (by assumption) ?_
  simp only [Act.put, List.setIfInBounds_toArray, List.set_cons_zero, List.set_cons_succ]
  refine wpAnyH_ready (rs := [1]) (by kernel_rfl) (by simp) (AllReadyH.cons (o := { dst := some 55, op := Op.call { callee := Callee.value (Operand.func 15), args := #[Operand.tmp 54], argTypes := #[38] }, type := 29, pos := "law.go:48", after := #[{ on := 0, ground := Ground.data }], guard := none }) rfl (fun KQ hK => ?_) AllReadyH.nil)
  go_simp
  refine (told_any _ D).mono ?_
  rintro e wk5 ⟨rfl, hb⟩
  have K5 := hid ((HK9.out).on hb)
  clear hb
  go_wp2_with fail
  refine hK.out _ _ K5.out (fun hHeld => ?_)
  clear hK KQ
  try simp only [Act.put, List.setIfInBounds_toArray, List.set_cons_zero, List.set_cons_succ]
  refine wpAnyH_take (i := 3) (oi := { dst := some 57, op := Op.binOp BinOp.neq 29 (Operand.tmp 55) (Operand.tmp 56) 29, type := 4, pos := "law.go:48", after := #[{ on := 1, ground := Ground.data }, { on := 2, ground := Ground.data }], guard := none }) (v := .bool false) rfl (by kernel_rfl) (by kernel_rfl) (by kernel_rfl) (fun _ _ _ h => h) (Or.inl ⟨by rfl, fun w hSw => exec_neV 29 _ _ rfl _ _ rfl rfl guardR _ _ (HSD.out w) rfl⟩) (by assumption) ?_
  simp only [Act.put, List.setIfInBounds_toArray, List.set_cons_zero, List.set_cons_succ]
  refine wpAnyH_take (i := 4) (oi := { dst := some 58, op := Op.move (Operand.tmp 57), type := 4, pos := "law.go:48", after := #[{ on := 3, ground := Ground.data }, { on := 1, ground := Ground.chain }], guard := none }) (v := .bool false) rfl (by kernel_rfl) (by kernel_rfl) (by kernel_rfl) (fun _ _ _ h => h) (Or.inl ⟨by rfl, by intro w hSw; go_simp⟩) (by assumption) ?_
  simp only [Act.put, List.setIfInBounds_toArray, List.set_cons_zero, List.set_cons_succ]
  refine wpAnyH_take (i := 5) (oi := { dst := some 59, op := Op.move (Operand.tmp 14), type := 34, pos := "law.go:48", after := #[{ on := 4, ground := Ground.guard }], guard := some (4, false) }) (v := .int .i64 DE) rfl (by kernel_rfl) (by kernel_rfl) (by kernel_rfl) (fun _ _ _ h => h) (Or.inl ⟨by rfl, by intro w hSw; go_simp⟩) (by assumption) ?_
  simp only [Act.put, List.setIfInBounds_toArray, List.set_cons_zero, List.set_cons_succ]
  refine wpAnyH_take (i := 6) (oi := { dst := some 60, op := Op.move (Operand.tmp 12), type := 3, pos := "law.go:48", after := #[{ on := 4, ground := Ground.guard }], guard := some (4, false) }) (v := .int .i64 DE) rfl (by kernel_rfl) (by kernel_rfl) (by kernel_rfl) (fun _ _ _ h => h) (Or.inl ⟨by rfl, by intro w hSw; go_simp⟩) (by assumption) ?_
  simp only [Act.put, List.setIfInBounds_toArray, List.set_cons_zero, List.set_cons_succ]
  refine wpAnyH_take (i := 7) (oi := { dst := some 61, op := Op.binOp BinOp.neq 3 (Operand.tmp 59) (Operand.tmp 60) 3, type := 4, pos := "law.go:48", after := #[{ on := 5, ground := Ground.data }, { on := 6, ground := Ground.data }, { on := 4, ground := Ground.guard }], guard := some (4, false) }) (v := .bool false) rfl (by kernel_rfl) (by kernel_rfl) (by kernel_rfl) (fun _ _ _ h => h) (Or.inl ⟨by rfl, by intro w hSw; go_simp⟩) (by assumption) ?_
  simp only [Act.put, List.setIfInBounds_toArray, List.set_cons_zero, List.set_cons_succ]
  refine wpAnyH_take (i := 8) (oi := { dst := some 62, op := Op.pick (Operand.tmp 58) (Operand.const (Value.bool true)) (Operand.tmp 61), type := 4, pos := "law.go:48", after := #[{ on := 4, ground := Ground.data }, { on := 7, ground := Ground.data }], guard := none }) (v := .bool false) rfl (by kernel_rfl) (by kernel_rfl) (by kernel_rfl) (fun _ _ _ h => h) (Or.inl ⟨by rfl, by intro w hSw; go_simp⟩) (by assumption) ?_
  simp only [Act.put, List.setIfInBounds_toArray, List.set_cons_zero, List.set_cons_succ]
  refine wpAnyH_done (by kernel_rfl) ?_ _
  have BF := hid (K5.out)
  have HNt1 := hid (HNt.out.on BF.out.below)
  have HNr1 := hid (HNr.out.on BF.out.below)
  go_wp2_with (first | (go_at_call 6; refine (tyname_any _ HNt1.out n).mono ?_; rintro e w91 ⟨rfl, rfl⟩) | (go_at_call 16; refine (rtyname_any _ HNr1.out n).mono ?_; rintro e w92 ⟨rfl, rfl⟩) | (go_at_call 7; refine (stname_any _ HNt1.out n).mono ?_; rintro e w93 ⟨rfl, rfl⟩) | (go_at_call 17; refine (rstname_any _ HNr1.out n).mono ?_; rintro e w94 ⟨rfl, rfl⟩))
  go_ret
  exact ⟨by simp, BF.out.below⟩
  

end Go.Proofs.YtpijfaffbnojnaaDoor
