import Derived.Test.YtialckmoigcdeaaMac
namespace Go.Proofs.Ytialckmoigcdeaa
open Go.RowKit

theorem all_range_eq' : ∀ (xs ys : List Int), xs.length = ys.length → ((List.range xs.length).all fun i => xs.getD i 0 == ys.getD i 0) = decide (xs = ys)
  | [], [], _ => rfl
  | x :: xs, y :: ys, h => by
    have ih := all_range_eq' xs ys (by simpa using h)
    rw [List.length_cons, List.range_succ_eq_map, List.all_cons, List.all_map]
    simp only [List.getD_cons_zero, Function.comp_def, List.getD_cons_succ, ih]
    rw [Bool.eq_iff_iff]
    simp
  | [], _ :: _, h => by simp at h
  | _ :: _, [], h => by simp at h
theorem run_equalIn_words {P : Program} (w : World) (d : Nat) (t e : TypeId) (n : Nat) (ht : P.underlying t = some (.array n e)) (he : P.underlying e = some (.int .u32)) (hsz : ∀ w, (sizeOf e).run P w = .ok 1 w)
    (xs ys : List Int) (hx : xs.length = n) (hy : ys.length = n) :
    (Op.equalIn (d + 2) t (.agg (xs.map (Value.int .u32)).toArray) (.agg (ys.map (Value.int .u32)).toArray)).run P w = .ok (decide (xs = ys)) w := by
  rw [← all_range_eq' xs ys (hx.trans hy.symm), hx, List.range_eq_range', Op.equalIn]
  simp only [Sem.run_bind, run_underlying ht, Result.andThen_ok, hsz, Std.Legacy.Range.forIn_eq_forIn_range', Std.Legacy.Range.size, Nat.sub_zero, Nat.add_sub_cancel, Nat.div_one]
  have hl : ∀ i ∈ List.range' 0 n 1, i < n := fun i hi => by simpa using (List.mem_range'_1.1 hi).2
  generalize List.range' 0 n 1 = l at hl ⊢
  induction l with
  | nil => simp
  | cons i l ih =>
    have hi : i < n := hl i (by simp)
    have px : (part e (xs.map (Value.int .u32)).toArray (i * 1)).run P w = .ok (.int .u32 (xs.getD i 0)) w := by
      simp [part, isAgg, run_underlying he, List.getD, List.getElem?_eq_getElem (show i < xs.length by omega)]
    have py : (part e (ys.map (Value.int .u32)).toArray (i * 1)).run P w = .ok (.int .u32 (ys.getD i 0)) w := by
      simp [part, isAgg, run_underlying he, List.getD, List.getElem?_eq_getElem (show i < ys.length by omega)]
    have pe : (Op.equalIn (d + 1) e (.int .u32 (xs.getD i 0)) (.int .u32 (ys.getD i 0))).run P w = .ok (xs.getD i 0 == ys.getD i 0) w := by
      rw [run_equalIn_int w d e .u32 .u32 _ _ he]
    simp only [List.forIn_cons, Sem.run_bind, px, py, pe, Result.andThen_ok, List.all_cons]
    cases hb : (xs.getD i 0 == ys.getD i 0)
    · simp
    · simp only [Bool.not_true, Bool.false_eq_true, if_false, Sem.run_pure, Result.andThen_ok, Bool.true_and]
      exact ih fun j hj => hl j (by simp [hj])
theorem eq23 (xs ys : List Int) (hx : xs.length = 8) (hy : ys.length = 8) (w : World) : (Op.equalIn 10000 23 (.agg (xs.map (Value.int .u32)).toArray) (.agg (ys.map (Value.int .u32)).toArray)).run Try.prog w = .ok (decide (xs = ys)) w :=
  run_equalIn_words w 9998 23 22 8 Try.underlying23 Try.underlying22 Try.sizeOf22 xs ys hx hy

theorem xor_bit (x : Int) (j : Nat) (x0 : 0 ≤ x) (x1 : x < 4294967296) (hj : j < 32) : 0 ≤ bits BinOp.xor IntKind.u32 x (2 ^ j % 4294967296) ∧ bits BinOp.xor IntKind.u32 x (2 ^ j % 4294967296) < 4294967296 ∧ bits BinOp.xor IntKind.u32 x (2 ^ j % 4294967296) ≠ x := by
  obtain ⟨x, rfl⟩ := Int.eq_ofNat_of_zero_le x0
  have p : 2 ^ j < 4294967296 := Nat.pow_lt_pow_right (a := 2) (by decide) hj
  have e : (2 : Int) ^ j % 4294967296 = ((2 ^ j : Nat) : Int) := by
    have : ((2 ^ j : Nat) : Int) = 2 ^ j := by push_cast; rfl
    rw [← this]
    clear this
    revert p
    generalize (2 ^ j : Nat) = q
    intro p
    omega
  have hx : x ^^^ 2 ^ j < 4294967296 := Nat.xor_lt_two_pow (n := 32) (by omega) p
  rw [e, u32_xor_nat _ _ (by omega) p]
  refine ⟨by omega, by omega, fun h => ?_⟩
  have h2 : x ^^^ 2 ^ j = x := by omega
  have h3 : x ^^^ (x ^^^ 2 ^ j) = x ^^^ x := by rw [h2]
  rw [← Nat.xor_assoc, Nat.xor_self, Nat.zero_xor] at h3
  have := Nat.pow_pos (n := j) (show 0 < 2 by decide)
  omega

theorem wpList_load_agg {P : Program} {ops : Array Oper} {rest : List Oper} {o : Oper} {a : Act} {w : World} {Q : Exit → Act → World → Prop} (hgd : o.guard = none) (ty : TypeId) (x : Operand) (ho : o.op = .load ty x)
    (g : Nat) (L : List Int) (hx : a.eval x = .pointer (some ⟨g, 0, none⟩)) {e t : TypeId} {n : Nat} (hg : Blk w g .u32 e L) (hu : P.underlying ty = some (.array n t)) (hi : (P.info? ty).map (·.size) = some L.length)
    (h : wpList P ops Q rest (a.put o.dst (.agg (L.map (Value.int .u32)).toArray)) w) : wpList P ops Q (o :: rest) a w :=
  wpList_load_blk hgd ty x ho g L hx hg hu hi h

attribute [-simp] Try.isAgg23 Try.sizeOf23 Try.zeroValue23
set_option maxHeartbeats 400000 in
set_option maxRecDepth 20000 in
theorem law_any (W : World) (xs ys : List Int) (hx : xs.length = 8) (hy : ys.length = 8) (wx : Wds xs) (wy : Wds ys) (bit : Int) :
    Calls Try.prog 3 #[.agg (xs.map (Value.int .u32)).toArray, .agg (ys.map (Value.int .u32)).toArray, .int .i64 bit] W fun e W' => e = .returned (.bool true) ∧ Below W.heap.size W W' := by
  obtain ⟨Z, hZ⟩ : ∃ Z : List Int, Z = List.replicate 8 0 := ⟨_, rfl⟩
  have hZl : Z.length = 8 := by rw [hZ]; simp
  have hz : ∀ w, (zeroValue 23).run Try.prog w = .ok (.agg (Z.map (Value.int .u32)).toArray) w := fun w => by rw [Try.zeroValue23, hZ]; rfl
  clear hZ
  have hsx : (Try.prog.info? 23).map (·.size) = some xs.length := by rw [hx]; exact size23
  have hsy : (Try.prog.info? 23).map (·.size) = some ys.length := by rw [hy]; exact size23
  have B1 : Hid (Blk ((W.alloc (Obj.cells (List.map (Value.int IntKind.u32) xs).toArray 23)).alloc (Obj.cells (List.map (Value.int IntKind.u32) ys).toArray 23)) W.heap.size .u32 23 xs) := (Blk.new W .u32 23 xs).alloc _
  have B2 : Hid (Blk ((W.alloc (Obj.cells (List.map (Value.int IntKind.u32) xs).toArray 23)).alloc (Obj.cells (List.map (Value.int IntKind.u32) ys).toArray 23)) (W.heap.size + 1) .u32 23 ys) := Blk.newAt (by simp) .u32 23 ys
  have HB : Hid (Below W.heap.size W ((W.alloc (Obj.cells (List.map (Value.int IntKind.u32) xs).toArray 23)).alloc (Obj.cells (List.map (Value.int IntKind.u32) ys).toArray 23))) := (below_one W _).alloc (by simp) _
  go_enter Try.func3, Try.ntmps3
  go_wp2_with (first | (refine wpList_load_blk rfl 23 _ rfl W.heap.size xs rfl B1.out Try.underlying23 hsx ?_) | (refine wpList_load_blk rfl 23 _ rfl (W.heap.size + 1) ys rfl B2.out Try.underlying23 hsy ?_))
  refine (macSame_any _ xs ys hx hy wx wy).mono ?_
  rintro e w1 ⟨rfl, hb1⟩
  replace B1 : Hid (Blk w1 W.heap.size .u32 23 xs) := B1.out.below hb1 B1.out.lt
  replace B2 : Hid (Blk w1 (W.heap.size + 1) .u32 23 ys) := B2.out.below hb1 B2.out.lt
  replace HB : Hid (Below W.heap.size W w1) := HB.out.trans (hb1.mono (by simp; omega))
  clear hb1
  go_wp2_with (first | (refine wpList_load_blk rfl 23 _ rfl W.heap.size xs rfl B1.out Try.underlying23 hsx ?_))
  refine (macSame_any _ xs xs hx hx wx wx).mono ?_
  rintro e w2 ⟨rfl, hb1⟩
  replace B2 : Hid (Blk w2 (W.heap.size + 1) .u32 23 ys) := B2.out.below hb1 B2.out.lt
  replace HB : Hid (Below W.heap.size W w2) := HB.out.trans (hb1.mono (Nat.le_of_lt B1.out.lt))
  replace B1 : Hid (Blk w2 W.heap.size .u32 23 xs) := B1.out.below hb1 B1.out.lt
  clear hb1 w1
  go_wp2_with (first | (refine wpList_load_blk rfl 23 _ rfl W.heap.size xs rfl B1.out Try.underlying23 hsx ?_) | (refine wpList_load_blk rfl 23 _ rfl W.heap.size xs rfl (B1.out.alloc _) Try.underlying23 hsx ?_) | (refine wpList_store_but rfl 23 _ _ rfl w2.heap.size xs rfl rfl (Blk.new w2 .u32 23 Z) hsx (hZl.trans hx.symm) ?_; intro w3 bc hw3 hs3))
  have hne' : W.heap.size + 1 ≠ w2.heap.size := by have := B2.out.lt; omega
  replace B2 : Hid (Blk w3 (W.heap.size + 1) .u32 23 ys) := hw3.blk (B2.out.alloc _) (by have := B2.out.lt; omega)
  replace HB : Hid (Below W.heap.size W w3) := (HB.out.alloc (Nat.le_of_lt B1.out.lt) _).trans (hw3.below (Nat.le_of_lt B1.out.lt) (by simp; exact Nat.le_of_lt (Nat.lt_succ_of_lt B1.out.lt)))
  have hne : W.heap.size ≠ w2.heap.size := by have := B1.out.lt; omega
  have hgc : W.heap.size ≤ w2.heap.size := by have := B1.out.lt; omega
  replace B1 : Hid (Blk w3 W.heap.size .u32 23 xs) := hw3.blk (B1.out.alloc _) hne
  have BC : Hid (Blk w3 w2.heap.size .u32 23 xs) := bc
  clear bc hw3 hs3
  generalize w2.heap.size = gc at *
  refine (within_any _ bit).mono ?_
  rintro e w4 ⟨⟨r, hr, rfl⟩, rfl⟩
  obtain ⟨k, hk⟩ : ∃ k, r / 32 = k := ⟨_, rfl⟩
  obtain ⟨j, hj⟩ : ∃ j, r % 32 = j := ⟨_, rfl⟩
  have e2 : (r : Int) / 32 = (k : Int) := by omega
  have e3 : (r : Int) % 32 = (j : Int) := by omega
  have k1 : (k : Int) < 8 := by omega
  have j1 : (j : Int) < 32 := by omega
  have hc := BC.out.cell k (by omega)
  have hf := BC.out.free k
  clear hk hj
  have ⟨x0, x1⟩ := wx k
  have r1 : (r : Int) < 256 := by omega
  clear hr
  obtain ⟨u, hu⟩ : ∃ u, bits BinOp.xor IntKind.u32 (xs[k]?.getD 0) (2 ^ j % 4294967296) = u := ⟨_, rfl⟩
  have HU := xor_bit (xs[k]?.getD 0) j (by simpa using x0) (by simpa using x1) (by omega)
  rw [hu] at HU
  have CW : Wds (xs.set k u) := by
    intro i
    by_cases hi : i = k
    · subst hi
      rw [List.getD_eq_getElem?_getD, List.getElem?_set_self (by omega)]
      exact ⟨HU.1, HU.2.1⟩
    · rw [List.getD_eq_getElem?_getD, List.getElem?_set_ne (by omega), ← List.getD_eq_getElem?_getD]
      exact wx i
  have CL : (xs.set k u).length = 8 := by simp [hx]
  have CN : ¬ xs = xs.set k u := by
    intro h
    have := congrArg (fun l => l[k]?.getD 0) h
    simp only [List.getElem?_set_self (show k < xs.length by omega), Option.getD_some] at this
    exact HU.2.2 this.symm
  have D1 : Hid (decide (xs = xs.set k u) = false) := decide_eq_false CN
  have D2 : Hid (decide (xs.set k u = xs) = false) := decide_eq_false fun h => CN h.symm
  have B3 : Hid (Blk (w3.setCell ⟨gc, k, none⟩ (.int .u32 (bits BinOp.xor IntKind.u32 (xs[k]?.getD 0) (2 ^ j % 4294967296)))) W.heap.size .u32 23 xs) := B1.out.other _ hne
  have B4 : Hid (Blk (w3.setCell ⟨gc, k, none⟩ (.int .u32 (bits BinOp.xor IntKind.u32 (xs[k]?.getD 0) (2 ^ j % 4294967296)))) (W.heap.size + 1) .u32 23 ys) := B2.out.other _ hne'
  have B5 : Hid (Blk (w3.setCell ⟨gc, k, none⟩ (.int .u32 (bits BinOp.xor IntKind.u32 (xs[k]?.getD 0) (2 ^ j % 4294967296)))) gc .u32 23 (xs.set k u)) := by rw [hu]; exact BC.out.set k u
  have HB5 : Hid (Below W.heap.size W (w3.setCell ⟨gc, k, none⟩ (.int .u32 (bits BinOp.xor IntKind.u32 (xs[k]?.getD 0) (2 ^ j % 4294967296))))) := HB.out.trans ((but_setCell w3 gc k _).below (by omega) (Nat.le_of_lt B1.out.lt))
  clear HU hu B1 B2 BC HB CN
  generalize hC : xs.set k u = C at *
  have hsc : (Try.prog.info? 23).map (·.size) = some C.length := by rw [CL]; exact size23
  clear hC
  go_wp2_with (first | (refine wpList_load_blk rfl 23 _ rfl W.heap.size xs rfl B3.out Try.underlying23 hsx ?_) | (refine wpList_load_blk rfl 23 _ rfl gc C rfl B5.out Try.underlying23 hsc ?_))
  refine (macSame_any _ xs C hx CL wx CW).mono ?_
  rintro e w5 ⟨rfl, hb1⟩
  replace B4 : Hid (Blk w5 (W.heap.size + 1) .u32 23 ys) := B4.out.below hb1 B4.out.lt
  replace B5 : Hid (Blk w5 gc .u32 23 C) := B5.out.below hb1 B5.out.lt
  replace HB5 : Hid (Below W.heap.size W w5) := HB5.out.trans (hb1.mono (Nat.le_of_lt B3.out.lt))
  replace B3 : Hid (Blk w5 W.heap.size .u32 23 xs) := B3.out.below hb1 B3.out.lt
  rw [D1.out]
  clear hb1 D1 w2 hc hf
  go_wp2_with (first | (refine wpList_load_blk rfl 23 _ rfl W.heap.size xs rfl B3.out Try.underlying23 hsx ?_) | (refine wpList_load_blk rfl 23 _ rfl gc C rfl B5.out Try.underlying23 hsc ?_))
  refine (macSame_any _ C xs CL hx CW wx).mono ?_
  rintro e w6 ⟨rfl, hb1⟩
  replace B4 : Hid (Blk w6 (W.heap.size + 1) .u32 23 ys) := B4.out.below hb1 B4.out.lt
  replace HB5 : Hid (Below W.heap.size W w6) := HB5.out.trans (hb1.mono (Nat.le_of_lt B3.out.lt))
  replace B3 : Hid (Blk w6 W.heap.size .u32 23 xs) := B3.out.below hb1 B3.out.lt
  rw [D2.out]
  clear hb1 D2 w3 B5
  have EQ := eq23 xs ys hx hy
  have EE : (decide (xs = ys) == decide (xs = ys)) = true := by simp
  go_wp2_with (first | (refine wpList_load_agg rfl 23 _ rfl W.heap.size xs rfl B3.out Try.underlying23 hsx ?_) | (refine wpList_load_agg rfl 23 _ rfl (W.heap.size + 1) ys rfl B4.out Try.underlying23 hsy ?_))
  go_ret
  exact ⟨by first | rfl | simp, HB5.out⟩
end Go.Proofs.Ytialckmoigcdeaa
