/- within 25, built 28. -/
import Derived.Test.YtmmphmdmocfnpaaW7
import Derived.Test.YtmmphmdmocfnpaaM6
namespace Go.Proofs.Ytmmphmdmocfnpaa
open Go.RowKit
set_option maxHeartbeats 8000000
set_option maxRecDepth 100000
def wi (x lo n : Int) : Int := lo + x % n
theorem wi_range (x lo n : Int) (h : 0 < n) : lo ≤ wi x lo n ∧ wi x lo n < lo + n := by
  unfold wi
  have := Int.emod_nonneg x (show n ≠ 0 by omega)
  have := Int.emod_lt_of_pos x h
  omega
theorem within_any (W : World) (x lo hi : Int) (h0 : 0 ≤ lo) (h1 : lo ≤ hi) (h2 : hi ≤ 1048576) (x0 : -9223372036854775808 ≤ x) (x1 : x ≤ 9223372036854775807) :
    Calls Try.prog 25 #[.int .i64 x, .int .i64 lo, .int .i64 hi] W fun e W' => e = .returned (.int .i64 (wi x lo (hi - lo + 1))) ∧ W' = W := by
  obtain ⟨n, hn⟩ : ∃ n, n = hi - lo + 1 := ⟨_, rfl⟩
  have hn0 : 0 < n := by omega
  have ht : x.tmod n = x % n ∧ 0 ≤ x.tmod n ∨ x.tmod n + n = x % n ∧ x.tmod n < 0 := by
    by_cases hx : 0 ≤ x
    · exact .inl ⟨Int.tmod_eq_emod_of_nonneg hx, by rw [Int.tmod_eq_emod_of_nonneg hx]; exact Int.emod_nonneg _ (by omega)⟩
    · have e1 : (-x).tmod n = (-x) % n := Int.tmod_eq_emod_of_nonneg (by omega)
      rw [Int.neg_tmod] at e1
      by_cases hd : (-x) % n = 0
      · left
        have h4 : x % n = 0 := by
          have : n ∣ -x := Int.dvd_of_emod_eq_zero hd
          exact Int.emod_eq_zero_of_dvd (by have := Int.dvd_neg.1 this; exact this)
        omega
      · right
        have h5 := Int.emod_nonneg (-x) (show n ≠ 0 by omega)
        have h6 := Int.emod_lt_of_pos (-x) hn0
        have h7 : x % n = n - (-x) % n := by
          have e : x = (n - (-x) % n) + n * (-((-x) / n) - 1) := by
            have := Int.mul_ediv_add_emod (-x) n
            have e3 : n * (-((-x) / n) - 1) = - (n * ((-x) / n)) - n := by rw [Int.mul_sub, Int.mul_one, Int.mul_neg]
            rw [e3]
            omega
          rw [e, Int.add_mul_emod_self_left, ← e]
          exact Int.emod_eq_of_lt (by omega) (by omega)
        omega
  have hr := Int.emod_lt_of_pos x hn0
  have hr0 := Int.emod_nonneg x (show n ≠ 0 by omega)
  unfold wi
  rw [← hn]
  rcases ht with ⟨h3, h4⟩ | ⟨h3, h4⟩
  · rw [← h3] at hr hr0 ⊢
    generalize ht : x.tmod n = t at *
    subst hn
    go_enter Try.func25, Try.ntmps25
    go_wp2_with fail
    go_returns
    exact ⟨ret_int (by omega), rfl⟩
  · subst hn
    generalize ht : x.tmod (hi - lo + 1) = t at *
    go_enter Try.func25, Try.ntmps25
    go_wp2_with fail
    go_returns
    exact ⟨ret_int (by omega), rfl⟩
/-- Pokes that came in. -/
structure Pk where
  s : Nat → Bool
  p : Nat → Int
  o : Nat → Int
  v : Nat → Int
structure PkAt (W : World) (ao : Option Addr) (n b off : Nat) (k : Pk) : Prop where
  ao : 0 < n → ao = some ⟨b, off, none⟩ ∧ b < W.heap.size
  c : ∀ j, j < n → W.cell? ⟨b, off + j * 4, none⟩ = some (.bool (k.s j)) ∧ W.cell? ⟨b, off + j * 4 + 1, none⟩ = some (.int .i64 (k.p j)) ∧ W.cell? ⟨b, off + j * 4 + 2, none⟩ = some (.int .i64 (k.o j)) ∧ W.cell? ⟨b, off + j * 4 + 3, none⟩ = some (.int .u32 (k.v j))
  r : ∀ j, j < n → 0 ≤ k.v j ∧ k.v j < 4294967296
theorem PkAt.on {W w : World} {ao : Option Addr} {n b off : Nat} {k : Pk} (h : PkAt W ao n b off k) (hb : Below W.heap.size W w) : PkAt w ao n b off k :=
  ⟨fun hn => ⟨(h.ao hn).1, Nat.lt_of_lt_of_le (h.ao hn).2 hb.size⟩, fun j hj => by
    have hlt := (h.ao (by omega)).2
    obtain ⟨h1, h2, h3, h4⟩ := h.c j hj
    exact ⟨(hb.cell (p := ⟨b, off + j * 4, none⟩) hlt).trans h1, (hb.cell (p := ⟨b, off + j * 4 + 1, none⟩) hlt).trans h2, (hb.cell (p := ⟨b, off + j * 4 + 2, none⟩) hlt).trans h3, (hb.cell (p := ⟨b, off + j * 4 + 3, none⟩) hlt).trans h4⟩, h.r⟩
def MS.poked (m : MS) (k : Pk) : Nat → MS
  | 0 => m
  | j + 1 => (m.poked k j).write (k.s j) (k.p j) (k.o j) (k.v j)
theorem wd_set (L : List Int) (i j : Nat) (v : Int) : wd (L.set i v) j = if i = j ∧ j < L.length then v else wd L j := by
  unfold wd
  simp only [List.getD_eq_getElem?_getD, List.getElem?_set]
  split
  · rename_i h
    subst h
    by_cases hl : i < L.length
    · simp [hl]
    · simp [hl]
  · rename_i h
    simp [h]
theorem MS.write_p (m : MS) (s : Bool) (p o v : Int) (k j : Nat) : wd ((m.write s p o v).p k) j = v ∨ wd ((m.write s p o v).p k) j = wd (m.p k) j := by
  unfold MS.write
  split
  · exact .inr rfl
  · rename_i q hq
    split
    · simp only [MS.p, List.getD_eq_getElem?_getD, List.getElem?_set]
      split
      · split
        · rename_i h1 h2
          subst h1
          simp only [Option.getD_some]
          rw [wd_set]
          split
          · exact .inl rfl
          · exact .inr rfl
        · rename_i h1 h2
          refine .inr ?_
          subst h1
          rw [List.getElem?_eq_none (by omega)]
      · exact .inr rfl
    · exact .inr rfl
theorem MS.U.write {m : MS} (h : m.U) (s : Bool) (p o v : Int) (h0 : 0 ≤ v) (h1 : v < 4294967296) : (m.write s p o v).U := fun k j => by
  rcases m.write_p s p o v k j with e | e <;> rw [e]
  · exact ⟨h0, h1⟩
  · exact h k j
theorem MS.U.new (s n : Nat) : (MS.new s n).U := fun k j => by
  unfold MS.new MS.p
  simp only [List.getD_eq_getElem?_getD, List.getElem?_replicate]
  have hz : wd zs j = 0 := by unfold wd zs; rw [List.getD_eq_getElem?_getD, List.getElem?_replicate]; split <;> rfl
  split
  · simp only [Option.getD_some]; rw [hz]; decide
  · simp [wd]
theorem w64 {x : Int} (h : -9223372036854775808 ≤ x) (h2 : x ≤ 9223372036854775807) : wrap64 x = x := by
  unfold wrap64
  omega
theorem MS.write_c (m : MS) (s : Bool) (p o v : Int) (n : Nat) (h : 0 ≤ m.c ∧ m.c ≤ (n : Int)) (hn : n < 9223372036854775807) : 0 ≤ (m.write s p o v).c ∧ (m.write s p o v).c ≤ ((n + 1 : Nat) : Int) := by
  unfold MS.write
  split
  · omega
  · split
    · simp only [MS.tick]
      rw [w64 (by omega) (by omega)]
      omega
    · omega
theorem poked_U (m : MS) (k : Pk) (n : Nat) (h : m.U) (hr : ∀ j, j < n → 0 ≤ k.v j ∧ k.v j < 4294967296) : ∀ j, j ≤ n → (m.poked k j).U
  | 0, _ => h
  | j + 1, hj => (poked_U m k n h hr j (by omega)).write _ _ _ _ (hr j (by omega)).1 (hr j (by omega)).2
theorem poked_c (m : MS) (k : Pk) (h : m.c = 0) : ∀ j, j < 9223372036854775807 → 0 ≤ (m.poked k j).c ∧ (m.poked k j).c ≤ (j : Int)
  | 0, _ => by simp [MS.poked, h]
  | j + 1, hj => MS.write_c _ _ _ _ _ j (poked_c m k h j (by omega)) (by omega)
theorem NewMem.write {W w w' : World} {f : Fp} {m m' : MS} (h : NewMem W w f m) (hm : Mem w' f m') (hb : ButL f.w w w') : NewMem W w' f m' :=
  ⟨hm, h.below.trans (hb.below (fun k hk => h.new k (by simp only [Fp.w, Fp.all, List.mem_cons] at hk ⊢; rcases hk with hk | hk <;> simp [hk])) h.below.size), h.new⟩
theorem NewMem.on {W w w' : World} {f : Fp} {m : MS} (h : NewMem W w f m) (hb : Below w.heap.size w w') : NewMem W w' f m := ⟨h.mem.on hb, below_on h.below hb, h.new⟩
structure BW (W x : World) (g : Nat) (a b : Int) (ao : Option Addr) (n cp : Nat) : Prop where
  cel : Cel x g 71 [.int .i64 a, .int .i64 b, .slice ao n cp]
  below : Below W.heap.size W x
theorem BW.on {W x w' : World} {g : Nat} {a b : Int} {ao : Option Addr} {n cp : Nat} (h : BW W x g a b ao n cp) (hb : Below x.heap.size x w') : BW W w' g a b ao n cp := ⟨h.cel.on hb, below_on h.below hb⟩
/-- How many pages. -/
def pgs (a : Int) : Nat := (wi a 1 64).toNat
theorem pgs_eq (a : Int) : wi a 1 64 = (pgs a : Int) ∧ 1 ≤ pgs a ∧ pgs a ≤ 64 := by
  have := wi_range a 1 64 (by decide)
  unfold pgs
  omega
theorem built_any (W : World) (a b : Int) (ao : Option Addr) (n cp bk off : Nat) (k : Pk) (hk : PkAt W ao n bk off k) (hn : (n : Int) ≤ 4611686018427387904) (a0 : -9223372036854775808 ≤ a) (a1 : a ≤ 9223372036854775807) (b0 : -9223372036854775808 ≤ b) (b1 : b ≤ 9223372036854775807) :
    Calls Try.prog 28 #[.agg #[.int .i64 a, .int .i64 b, .slice ao n cp]] W fun e W' => ∃ f, e = .returned (ptr f.gm) ∧ NewMem W W' f ((MS.new (pgs a) (pgs b)).poked k n) := by
  have HC : Hid (BW W (W.alloc (.cells #[.int .i64 a, .int .i64 b, .slice ao n cp] 71)) W.heap.size a b ao n cp) := hid ⟨Cel.new W 71 _, below_one _ _⟩
  have HX : Hid (W.heap.size < (W.alloc (.cells #[.int .i64 a, .int .i64 b, .slice ao n cp] 71)).heap.size) := hid (by simp)
  have H1 := hid (fun W => within_any W a 1 64 (by decide) (by decide) (by decide) a0 a1)
  have H2 := hid (fun W => within_any W b 1 64 (by decide) (by decide) (by decide) b0 b1)
  have e1 := pgs_eq a
  have e2 := pgs_eq b
  simp only [Int.reduceSub, Int.reduceAdd] at H1 H2
  rw [e1.1] at H1
  rw [e2.1] at H2
  have H3 := hid (fun W => new_any W (pgs a) (pgs b) e1.2.1 e1.2.2 e2.2.1 e2.2.2)
  have HK := hid hk
  clear hk e1 e2 a0 a1 b0 b1
  unfold ptr at *
  generalize MS.new (pgs a) (pgs b) = m at *
  generalize pgs a = pa at *
  generalize pgs b = pb at *
  go_enter Try.func28, Try.ntmps28
  go_upto_region 1 with fail
  generalize hX : W.alloc _ = X at *
  clear hX
  generalize hg : W.heap.size = g0 at *
  have HD := hid (HC.out.on (Below.refl _ _).drew)
  refine wp_region_held_drew (S := fun x => BW W x g0 a b ao n cp) (by kernel_rfl) HD.out (fun hHeld => ?_)
  refine wpAnyH_take (i := 0) (oi := { dst := some 8, op := Op.fieldAddr 71 (Operand.tmp 1) 0, type := 0, pos := "law.go:43", after := #[], guard := none }) (v := .pointer (some ⟨g0, 0, none⟩)) rfl (by kernel_rfl) (by kernel_rfl) (by kernel_rfl) (fun _ _ _ h => h) (Or.inl ⟨by rfl, by intro w hSw; go_simp⟩) (by assumption) ?_
  simp only [Act.put, List.setIfInBounds_toArray, List.set_cons_zero, List.set_cons_succ]
  refine wpAnyH_take (i := 1) (oi := { dst := some 9, op := Op.load 3 (Operand.tmp 8), type := 3, pos := "law.go:43", after := #[{ on := 0, ground := Ground.data }], guard := none }) (v := .int .i64 a) rfl (by kernel_rfl) (by kernel_rfl) (by kernel_rfl) (fun _ _ _ h => h) (Or.inl ⟨by rfl, by intro w hSw; have c0 := hSw.cel.cell 0; simp only [List.getElem?_cons_zero] at c0; go_simp⟩) (by assumption) ?_
  simp only [Act.put, List.setIfInBounds_toArray, List.set_cons_zero, List.set_cons_succ]
  refine wpAnyH_take (i := 3) (oi := { dst := some 11, op := Op.fieldAddr 71 (Operand.tmp 1) 1, type := 0, pos := "law.go:43", after := #[], guard := none }) (v := .pointer (some ⟨g0, 1, none⟩)) rfl (by kernel_rfl) (by kernel_rfl) (by kernel_rfl) (fun _ _ _ h => h) (Or.inl ⟨by rfl, by intro w hSw; go_simp⟩) (by assumption) ?_
  simp only [Act.put, List.setIfInBounds_toArray, List.set_cons_zero, List.set_cons_succ]
  refine wpAnyH_take (i := 4) (oi := { dst := some 12, op := Op.load 3 (Operand.tmp 11), type := 3, pos := "law.go:43", after := #[{ on := 3, ground := Ground.data }], guard := none }) (v := .int .i64 b) rfl (by kernel_rfl) (by kernel_rfl) (by kernel_rfl) (fun _ _ _ h => h) (Or.inl ⟨by rfl, by intro w hSw; have c1 := hSw.cel.cell 1; simp only [List.getElem?_cons_zero, List.getElem?_cons_succ] at c1; go_simp⟩) (by assumption) ?_
  simp only [Act.put, List.setIfInBounds_toArray, List.set_cons_zero, List.set_cons_succ]
  refine wpAnyH_ready (rs := [2]) (by kernel_rfl) (by simp) (AllReadyH.cons (o := { dst := some 10, op := Op.call { callee := Callee.value (Operand.func 25), args := #[Operand.tmp 9, Operand.const (Value.int IntKind.i64 1), Operand.const (Value.int IntKind.i64 64)], argTypes := #[3, 3, 3] }, type := 3, pos := "law.go:43", after := #[{ on := 1, ground := Ground.data }], guard := none }) rfl (fun KQ hK => ?_) AllReadyH.nil)
  go_simp
  refine (H1.out _).mono ?_
  rintro e wx ⟨rfl, rfl⟩
  go_wp2_with fail
  refine hK.out _ _ HD.out (fun hHeld => ?_)
  clear hK KQ
  try simp only [Act.put, List.setIfInBounds_toArray, List.set_cons_zero, List.set_cons_succ]
  refine wpAnyH_ready (rs := [5]) (by kernel_rfl) (by simp) (AllReadyH.cons (o := { dst := some 13, op := Op.call { callee := Callee.value (Operand.func 25), args := #[Operand.tmp 12, Operand.const (Value.int IntKind.i64 1), Operand.const (Value.int IntKind.i64 64)], argTypes := #[3, 3, 3] }, type := 3, pos := "law.go:43", after := #[{ on := 4, ground := Ground.data }, { on := 2, ground := Ground.chain }], guard := none }) rfl (fun KQ hK => ?_) AllReadyH.nil)
  go_simp
  refine (H2.out _).mono ?_
  rintro e wx ⟨rfl, rfl⟩
  go_wp2_with fail
  refine hK.out _ _ HD.out (fun hHeld => ?_)
  clear hK KQ
  try simp only [Act.put, List.setIfInBounds_toArray, List.set_cons_zero, List.set_cons_succ]
  refine wpAnyH_ready (rs := [6]) (by kernel_rfl) (by simp) (AllReadyH.cons (o := { dst := some 14, op := Op.call { callee := Callee.value (Operand.func 51), args := #[Operand.tmp 10, Operand.tmp 13], argTypes := #[3, 3] }, type := 115, pos := "law.go:43", after := #[{ on := 2, ground := Ground.data }, { on := 5, ground := Ground.data }, { on := 5, ground := Ground.chain }], guard := none }) rfl (fun KQ hK => ?_) AllReadyH.nil)
  go_simp
  refine (H3.out _).mono ?_
  rintro e w1 ⟨f, rfl, hm1⟩
  have HM1 := hid hm1
  have HE := hid (HD.out.on hm1.below)
  clear hm1
  go_wp2_with fail
  refine hK.out _ _ HE.out (fun hHeld => ?_)
  clear hK KQ
  try simp only [Act.put, List.setIfInBounds_toArray, List.set_cons_zero, List.set_cons_succ]
  refine wpAnyH_take (i := 7) (oi := { dst := some 7, op := Op.move (Operand.tmp 14), type := 115, pos := "law.go:43", after := #[{ on := 6, ground := Ground.data }], guard := none }) (v := .tuple #[.pointer (some ⟨f.gm, 0, none⟩), .int .i64 0]) rfl (by kernel_rfl) (by kernel_rfl) (by kernel_rfl) (fun _ _ _ h => h) (Or.inl ⟨by rfl, by intro w hSw; go_simp⟩) (by assumption) ?_
  simp only [Act.put, List.setIfInBounds_toArray, List.set_cons_zero, List.set_cons_succ]
  refine wpAnyH_take (i := 8) (oi := { dst := some 15, op := Op.extract (Operand.tmp 7) 0, type := 57, pos := "law.go:43", after := #[{ on := 7, ground := Ground.data }], guard := none }) (v := .pointer (some ⟨f.gm, 0, none⟩)) rfl (by kernel_rfl) (by kernel_rfl) (by kernel_rfl) (fun _ _ _ h => h) (Or.inl ⟨by rfl, by intro w hSw; go_simp⟩) (by assumption) ?_
  simp only [Act.put, List.setIfInBounds_toArray, List.set_cons_zero, List.set_cons_succ]
  refine wpAnyH_take (i := 9) (oi := { dst := some 16, op := Op.extract (Operand.tmp 7) 1, type := 23, pos := "law.go:43", after := #[{ on := 7, ground := Ground.data }, { on := 10, ground := Ground.gcOnly Departure.lateStores }], guard := none }) (v := .int .i64 0) rfl (by kernel_rfl) (by kernel_rfl) (by kernel_rfl) (fun _ _ _ h => h) (Or.inl ⟨by rfl, by intro w hSw; go_simp⟩) (by assumption) ?_
  simp only [Act.put, List.setIfInBounds_toArray, List.set_cons_zero, List.set_cons_succ]
  refine wpAnyH_ready (rs := [10]) (by kernel_rfl) (by simp) (AllReadyH.cons (o := { dst := some 3, op := Op.assign (Operand.tmp 15), type := 57, pos := "law.go:43", after := #[{ on := 8, ground := Ground.data }, { on := 6, ground := Ground.chain }, { on := 0, ground := Ground.phase }, { on := 1, ground := Ground.phase }, { on := 2, ground := Ground.phase }, { on := 3, ground := Ground.phase }, { on := 4, ground := Ground.phase }, { on := 5, ground := Ground.phase }, { on := 6, ground := Ground.phase }, { on := 7, ground := Ground.phase }, { on := 8, ground := Ground.phase }, { on := 9, ground := Ground.textOnly Departure.lateStores }], guard := none }) rfl (fun KQ hK => ?_) AllReadyH.nil)
  go_simp
  refine hK.out _ _ HE.out (fun hHeld => ?_)
  clear hK KQ
  try simp only [Act.put, List.setIfInBounds_toArray, List.set_cons_zero, List.set_cons_succ]
  refine wpAnyH_ready (rs := [11]) (by kernel_rfl) (by simp) (AllReadyH.cons (o := { dst := some 4, op := Op.assign (Operand.tmp 16), type := 23, pos := "law.go:43", after := #[{ on := 9, ground := Ground.data }, { on := 10, ground := Ground.chain }, { on := 0, ground := Ground.phase }, { on := 1, ground := Ground.phase }, { on := 2, ground := Ground.phase }, { on := 3, ground := Ground.phase }, { on := 4, ground := Ground.phase }, { on := 5, ground := Ground.phase }, { on := 6, ground := Ground.phase }, { on := 7, ground := Ground.phase }, { on := 8, ground := Ground.phase }, { on := 9, ground := Ground.phase }, { on := 10, ground := Ground.phase }], guard := none }) rfl (fun KQ hK => ?_) AllReadyH.nil)
  go_simp
  refine hK.out _ _ HE.out (fun hHeld => ?_)
  clear hK KQ
  try simp only [Act.put, List.setIfInBounds_toArray, List.set_cons_zero, List.set_cons_succ]
  refine wpAnyH_done (by kernel_rfl) ?_ _
  subst hg
  have HB1 := hid HE.out.below
  have c2 := HE.out.cel.cell 2
  simp only [List.getElem?_cons_zero, List.getElem?_cons_succ] at c2
  go_wp2_with fail
  clear c2
  go_loopw [5] (fun i wr => ∃ j : Nat, j ≤ n ∧ i = .int .i64 (j : Int) ∧ Hid (NewMem X.drew wr f (m.poked k j))) (fun i _ => n - (intOf i).toNat)
  case atStart => exact ⟨0, Nat.zero_le _, rfl, HM1⟩
  case round =>
    obtain ⟨j, hj, rfl, HQ⟩ := hrel
    have HCel := hid (HD.out.on HQ.out.below).cel
    have c2 := HCel.out.cell 2
    simp only [List.getElem?_cons_zero, List.getElem?_cons_succ] at c2
    by_cases hlt : j < n
    · have q1 : (j : Int) < (n : Int) := by omega
      obtain ⟨hao, hb0⟩ := HK.out.ao (by omega)
      subst hao
      have HKx := hid (HK.out.on (below_on HD.out.below HQ.out.below))
      obtain ⟨k0, k1, k2, k3⟩ := HKx.out.c j hlt
      have HA := hid (below_one wr (.cells #[.bool (k.s j), .int .i64 (k.p j), .int .i64 (k.o j), .int .u32 (k.v j)] 75))
      have HW := hid (write_any _ f _ (HQ.out.mem.on HA.out) (k.s j) (k.p j) (k.o j) (k.v j))
      unfold fr ptr at HW
      go_wp2_with fail
      refine HW.out.mono ?_
      rintro x w2 ⟨rfl, hm2, hb2⟩
      have HN2 : Hid (NewMem X.drew w2 f (m.poked k (j + 1))) := hid ((HQ.out.on HA.out).write hm2 hb2)
      clear hm2 hb2
      go_wp2_with fail
      go_roundw
      case measure => simp [intOf] <;> omega
      case rel => exact ⟨j + 1, by omega, by simp, HN2⟩
    · have hjn : j = n := by omega
      subst hjn
      go_wp2_with fail
      go_returns
      exact ⟨f, rfl, HQ.out.mem, below_to HD.out.below (by have := HX.out; simp at this ⊢; omega) HQ.out.below, fun q hq => by have := HQ.out.new q hq; have := HX.out; simp at *; omega⟩
end Go.Proofs.Ytmmphmdmocfnpaa
