import Derived.Test.YtbpdmkohihgnjaaGreatDoorP29
namespace Go.Proofs.YtbpdmkohihgnjaaGreatDoor
open Go.RowKit
set_option maxRecDepth 100000

theorem sum4 (a b c d : Int) : (((a + b) % 4294967296 + c) % 4294967296 + d) % 4294967296 = (a + b + c + d) % 4294967296 := by omega
theorem cell_other {w : World} {a b : Addr} {v u : Value} (h : a ≠ b) (hc : w.cell? b = some u) : (w.setCell a v).cell? b = some u := by
  rw [← hc]; exact World.cell?_setCell_other _ _ _ _ h
theorem rnd_eq (a b c d e f g h x y : Int) : [(S.u1 [a, b, c, d, e, f, g, h] (x) + y + S.u2 [a, b, c, d, e, f, g, h]) % 4294967296, a, b, c, (d + (S.u1 [a, b, c, d, e, f, g, h] x + y)) % 4294967296, e, f, g] = S.round [a, b, c, d, e, f, g, h] ((x + y) % 4294967296) := by
  have e1 : S.u1 [a, b, c, d, e, f, g, h] ((x + y) % 4294967296) = S.u1 [a, b, c, d, e, f, g, h] 0 + (x + y) % 4294967296 := by simp [S.u1]
  have e2 : S.u1 [a, b, c, d, e, f, g, h] x = S.u1 [a, b, c, d, e, f, g, h] 0 + x := by simp [S.u1]
  simp only [S.round, e1, e2, List.getD_cons_zero, List.getD_cons_succ, List.cons.injEq, and_true, true_and]
  constructor <;> omega
attribute [-simp] Tryz.isAgg26 Tryz.sizeOf26 Tryz.zeroValue26 Tryz.isAgg197 Tryz.sizeOf197 Tryz.isAgg208 Tryz.sizeOf208 Tryz.zeroValue208
set_option maxRecDepth 20000 in
set_option maxHeartbeats 4000000 in
theorem rblock_any (W : World) (hT : TabR W) (h2 : 12 < W.heap.size) (A B : List Int) (hA : A.length = 8) (hB : B.length = 16) :
    Calls Tryz.prog 113 #[Ag A, Ag B] W fun en W' => en = .returned (Ag (S.block A B)) ∧ Below W.heap.size W W' := by
  obtain ⟨Z, hZ⟩ : ∃ Z : List Int, Z = List.replicate 8 0 := ⟨_, rfl⟩
  have hZl : Z.length = 8 := by rw [hZ]; simp
  have hz : ∀ w, (zeroValue 26).run Tryz.prog w = .ok (.agg (Z.map (Value.int .u32)).toArray) w := fun w => by rw [Tryz.zeroValue26, hZ]; rfl
  clear hZ
  obtain ⟨Y, hY⟩ : ∃ Y : List Int, Y = List.replicate 64 0 := ⟨_, rfl⟩
  have hYl : Y.length = 64 := by rw [hY]; simp
  have hy : ∀ w, (zeroValue 208).run Tryz.prog w = .ok (.agg (Y.map (Value.int .u32)).toArray) w := fun w => by rw [Tryz.zeroValue208, hY]; rfl
  clear hY
  have R : Hid (∀ (w : World) (x : Int) (z : Int) (k : Nat), z = k → 1 ≤ k → k ≤ 31 → Calls Tryz.prog 128 #[.int .u32 x, .int .u64 z] w fun e W' => e = .returned (.int .u32 (S.rot x k)) ∧ w = W') := turn_any
  have hsg : (if IntKind.u32.signed = true then (-1 : Int) else IntKind.u32.max) = 4294967295 := by decide
  unfold Ag
  go_enter Tryz.func113, Tryz.ntmps113
  go_wp2
  have bA : Blk ((((W.alloc (Obj.cells (List.map (Value.int IntKind.u32) A).toArray 26)).alloc (Obj.cells (List.map (Value.int IntKind.u32) B).toArray 197)).alloc (Obj.cells (List.map (Value.int IntKind.u32) Z).toArray 26)).alloc (Obj.cells (List.map (Value.int IntKind.u32) Y).toArray 208)) W.heap.size .u32 26 A := (((Blk.new W .u32 26 A).alloc _).alloc _).alloc _
  have bB : Blk ((((W.alloc (Obj.cells (List.map (Value.int IntKind.u32) A).toArray 26)).alloc (Obj.cells (List.map (Value.int IntKind.u32) B).toArray 197)).alloc (Obj.cells (List.map (Value.int IntKind.u32) Z).toArray 26)).alloc (Obj.cells (List.map (Value.int IntKind.u32) Y).toArray 208)) (W.heap.size + 1) .u32 197 B := ((Blk.newAt (by simp) .u32 197 B).alloc _).alloc _
  have bZ : Blk ((((W.alloc (Obj.cells (List.map (Value.int IntKind.u32) A).toArray 26)).alloc (Obj.cells (List.map (Value.int IntKind.u32) B).toArray 197)).alloc (Obj.cells (List.map (Value.int IntKind.u32) Z).toArray 26)).alloc (Obj.cells (List.map (Value.int IntKind.u32) Y).toArray 208)) (W.heap.size + 1 + 1) .u32 26 Z := (Blk.newAt (by simp) .u32 26 Z).alloc _
  have bY : Blk ((((W.alloc (Obj.cells (List.map (Value.int IntKind.u32) A).toArray 26)).alloc (Obj.cells (List.map (Value.int IntKind.u32) B).toArray 197)).alloc (Obj.cells (List.map (Value.int IntKind.u32) Z).toArray 26)).alloc (Obj.cells (List.map (Value.int IntKind.u32) Y).toArray 208)) (W.heap.size + 1 + 1 + 1) .u32 208 Y := Blk.newAt (by simp) .u32 208 Y
  have hX : Below W.heap.size W ((((W.alloc (Obj.cells (List.map (Value.int IntKind.u32) A).toArray 26)).alloc (Obj.cells (List.map (Value.int IntKind.u32) B).toArray 197)).alloc (Obj.cells (List.map (Value.int IntKind.u32) Z).toArray 26)).alloc (Obj.cells (List.map (Value.int IntKind.u32) Y).toArray 208)) := (((below_one W _).alloc (by simp) _).alloc (by simp; omega) _).alloc (by simp; omega) _
  generalize (((W.alloc _).alloc _).alloc _).alloc _ = X at *
  go_loopw [6, 7, 8] (fun i _ _ wr => ∃ (t : Nat) (L : List Int), t ≤ 64 ∧ i = .int .i64 (t : Int) ∧ L.length = 64 ∧ (∀ j, j < t → L.getD j 0 = (S.sched B 48).getD j 0) ∧ Blk wr W.heap.size .u32 26 A ∧ Blk wr (W.heap.size + 1) .u32 197 B ∧ Blk wr (W.heap.size + 1 + 1) .u32 26 Z ∧ Blk wr (W.heap.size + 1 + 1 + 1) .u32 208 L ∧ Below W.heap.size W wr) (fun i _ _ _ => 64 - (intOf i).toNat)
  case atStart => exact ⟨0, Y, by decide, rfl, hYl, fun j hj => by omega, bA, bB, bZ, bY, hX⟩
  case round =>
    clear bA bB bZ bY hX
    obtain ⟨t, L, ht, rfl, hLl, hL, bA, bB, bZ, bY, hb⟩ := hrel
    by_cases hlt : t < 64
    · have HX : Hid (∀ w' u, (∃ d, w' = (wr.setCell ⟨W.heap.size + 1 + 1 + 1, t, none⟩ (.int .u32 u)).drewN d) → u = (S.sched B 48).getD t 0 → Hid ((L.set t u).length = 64 ∧ (∀ j, j < t + 1 → (L.set t u).getD j 0 = (S.sched B 48).getD j 0) ∧ Blk w' W.heap.size .u32 26 A ∧ Blk w' (W.heap.size + 1) .u32 197 B ∧ Blk w' (W.heap.size + 1 + 1) .u32 26 Z ∧ Blk w' (W.heap.size + 1 + 1 + 1) .u32 208 (L.set t u) ∧ Below W.heap.size W w')) := fun w' u ⟨d, hd⟩ hu => by
        subst hd
        obtain ⟨s1, s2⟩ := set_upto hLl hlt hL u hu
        exact ⟨s1, s2, (bA.other _ (by omega)).drewN d, (bB.other _ (by omega)).drewN d, (bZ.other _ (by omega)).drewN d, (bY.set t u).drewN d, below_drewN (hb.setCell (show W.heap.size ≤ W.heap.size + 1 + 1 + 1 by omega) _) d⟩
      by_cases h16 : t < 16
      · have c1 := bB.cell t (by omega)
        have c2 := bY.cell t (by omega)
        have f2 := bY.free t
        have HU : Hid _ := (sched_low B hB t h16).symm
        clear bA bB bZ bY hb hL
        generalize B.getD t 0 = x at *
        generalize L.getD t 0 = y at *
        go_wp2
        go_roundw
        case rel =>
          exact ⟨t + 1, _, by omega, by go_num, (HX.out _ x ⟨0, rfl⟩ HU.out).out⟩
        case measure => simp [intOf]; omega
      · obtain ⟨k, rfl⟩ : ∃ k, t = 16 + k := ⟨t - 16, by omega⟩
        have c1 := bY.cell (1 + k) (by omega)
        have c2 := bY.cell (14 + k) (by omega)
        have c3 := bY.cell (9 + k) (by omega)
        have c4 := bY.cell k (by omega)
        have c5 := bY.cell (16 + k) (by omega)
        have f5 := bY.free (16 + k)
        have HU := sched_high B hB k (by omega)
        rw [← hL (14 + k) (by omega), ← hL (9 + k) (by omega), ← hL (1 + k) (by omega), ← hL k (by omega)] at HU
        generalize L.getD (1 + k) 0 = x1 at *
        generalize L.getD (14 + k) 0 = x2 at *
        generalize L.getD (9 + k) 0 = x3 at *
        generalize L.getD k 0 = x4 at *
        generalize L.getD (16 + k) 0 = x5 at *
        have HU' : Hid _ := HU.symm
        have v1 : IntKind.i64.wrap (16 + (k : Int) - 15) = 1 + (k : Int) := by rw [IntKind.wrap_i64]; omega
        have v2 : IntKind.i64.wrap (16 + (k : Int) - 2) = 14 + (k : Int) := by rw [IntKind.wrap_i64]; omega
        have v3 : IntKind.i64.wrap (16 + (k : Int) - 7) = 9 + (k : Int) := by rw [IntKind.wrap_i64]; omega
        have v4 : IntKind.i64.wrap (16 + (k : Int) - 16) = (k : Int) := by rw [IntKind.wrap_i64]; omega
        have n1 : (1 + (k : Int)).toNat = 1 + k := by omega
        have n2 : (14 + (k : Int)).toNat = 14 + k := by omega
        have n3 : (9 + (k : Int)).toNat = 9 + k := by omega
        have n4 : (16 + (k : Int)).toNat = 16 + k := by omega
        clear bA bB bZ bY hb hL HU h16
        have hk48 : k < 48 := by omega
        have j1 : (9 : Int) + (k : Int) < 64 := by omega
        have j2 : (k : Int) < 64 := by omega
        have j3 : (16 : Int) + (k : Int) < 64 := by omega
        have j4 : (0 : Int) ≤ 9 + (k : Int) := by omega
        have j5 : (0 : Int) ≤ (k : Int) := by omega
        have j6 : (0 : Int) ≤ 16 + (k : Int) := by omega
        have n5 : ((k : Int)).toNat = k := by omega
        clear ht hlt
        go_wp2
        have K0 : Hid (wr.drew.cell? ⟨W.heap.size + 1 + 1 + 1, 9 + k, none⟩ = some (.int .u32 x3) ∧ wr.drew.cell? ⟨W.heap.size + 1 + 1 + 1, k, none⟩ = some (.int .u32 x4)) := ⟨c3, c4⟩
        have K1 : Hid (∀ u, (wr.drew.setCell ⟨W.heap.size + 1 + 1 + 1, 16 + k, none⟩ u).cell? ⟨W.heap.size + 1 + 1 + 1, 9 + k, none⟩ = some (.int .u32 x3) ∧ (wr.drew.setCell ⟨W.heap.size + 1 + 1 + 1, 16 + k, none⟩ u).cell? ⟨W.heap.size + 1 + 1 + 1, k, none⟩ = some (.int .u32 x4)) := fun u => by
          exact ⟨cell_other (by intro h; injection h; omega) c3, cell_other (by intro h; injection h; omega) c4⟩
        go_region_held3 (fun w => w.cell? ⟨W.heap.size + 1 + 1 + 1, 9 + k, none⟩ = some (.int .u32 x3) ∧ w.cell? ⟨W.heap.size + 1 + 1 + 1, k, none⟩ = some (.int .u32 x4)) (first | (exact K0.out) | (exact K1.out _)) (first | (go_at_call_of 128 (Value.int .u64 7); refine (R.out _ _ _ 7 rfl (by decide) (by decide)).mono ?_; rintro en w' ⟨rfl, rfl⟩) | (go_at_call_of 128 (Value.int .u64 18); refine (R.out _ _ _ 18 rfl (by decide) (by decide)).mono ?_; rintro en w' ⟨rfl, rfl⟩) | (go_at_call_of 128 (Value.int .u64 17); refine (R.out _ _ _ 17 rfl (by decide) (by decide)).mono ?_; rintro en w' ⟨rfl, rfl⟩) | (go_at_call_of 128 (Value.int .u64 19); refine (R.out _ _ _ 19 rfl (by decide) (by decide)).mono ?_; rintro en w' ⟨rfl, rfl⟩))
        go_wp2
        go_roundw
        case rel =>
          exact ⟨16 + k + 1, _, by omega, by go_num, (HX.out _ _ ⟨1, rfl⟩ ((sum4 _ _ _ _).trans HU'.out)).out⟩
        case measure => simp [intOf]; omega
    · obtain rfl : t = 64 := by omega
      have hLe := ext_sched B L hB hLl hL
      have hwll : (S.sched B 48).length = 64 := by rw [← hLe]; exact hLl
      rw [hLe] at bY
      clear hL hB bB hLe hLl L
      have HF : Hid (S.plus (S.rounds A (S.sched B 48) 64) A 8 = S.block A B) := rfl
      generalize S.sched B 48 = wl at *
      have z8 : (Tryz.prog.info? 26).map (·.size) = some A.length := by rw [hA]; exact size26
      have zz : Z.length = A.length := by rw [hZl, hA]
      have hg3 : W.heap.size + 1 + 1 + 1 < wr.heap.size := bY.lt
      have BA : Hid (Blk wr W.heap.size .u32 26 A) := bA
      have BA' : Hid (Blk (wr.alloc (Obj.cells (List.map (Value.int IntKind.u32) Z).toArray 26)) W.heap.size .u32 26 A) := bA.alloc _
      have BZ' : Hid (Blk (wr.alloc (Obj.cells (List.map (Value.int IntKind.u32) Z).toArray 26)) (W.heap.size + 1 + 1) .u32 26 Z) := bZ.alloc _
      have BY' : Hid (Blk (wr.alloc (Obj.cells (List.map (Value.int IntKind.u32) Z).toArray 26)) (W.heap.size + 1 + 1 + 1) .u32 208 wl) := bY.alloc _
      have HB' : Hid (Below W.heap.size W (wr.alloc (Obj.cells (List.map (Value.int IntKind.u32) Z).toArray 26))) := hb.alloc (by omega) _
      clear bA bZ bY hb
      go_wp2_with (first | (refine wpList_load_blk rfl 26 _ rfl W.heap.size A rfl BA.out Tryz.underlying26 z8 ?_) | (refine wpList_store_but rfl 26 _ _ rfl wr.heap.size A rfl rfl (Blk.newAt rfl .u32 26 Z) z8 zz ?_; intro w1 bV hw1 hs1))
      have bA := hw1.blk BA'.out (by omega)
      have bZ := hw1.blk BZ'.out (by omega)
      have bY := hw1.blk BY'.out (by omega)
      have hb := HB'.out.trans (hw1.below (B := W.heap.size) (by omega) (by simp; omega))
      clear hw1 hs1 BA BA' BZ' BY' HB'
      generalize wr.heap.size = g at *
      go_loopw [10, 11, 12, 13, 14] (fun i _ _ _ _ wr => ∃ k : Nat, k ≤ 64 ∧ i = .int .i64 (k : Int) ∧ Blk wr W.heap.size .u32 26 A ∧ Blk wr (W.heap.size + 1 + 1) .u32 26 Z ∧ Blk wr (W.heap.size + 1 + 1 + 1) .u32 208 wl ∧ Blk wr g .u32 26 (S.rounds A wl k) ∧ Below W.heap.size W wr) (fun i _ _ _ _ _ => 64 - (intOf i).toNat)
      case atStart => exact ⟨0, by decide, rfl, bA, bZ, bY, bV, hb⟩
      case round =>
        clear bA bZ bY bV hb
        obtain ⟨k, hk, rfl, bA, bZ, bY, bV, hb⟩ := hrel
        by_cases hlt : k < 64
        · have hl := rounds_length A wl hA k
          have HR : Hid (∀ L, L = S.round (S.rounds A wl k) ((S.K.getD k 0 + wl.getD k 0) % 4294967296) → L = S.rounds A wl (k + 1)) := fun _ h => h
          generalize S.rounds A wl k = V at *
          obtain ⟨v0, v1, v2, v3, v4, v5, v6, v7, rfl⟩ : ∃ v0 v1 v2 v3 v4 v5 v6 v7, V = [v0, v1, v2, v3, v4, v5, v6, v7] := by
            match V, hl with
            | [v0, v1, v2, v3, v4, v5, v6, v7], _ => exact ⟨v0, v1, v2, v3, v4, v5, v6, v7, rfl⟩
          have cK := (hT.below hb (by omega)).cell k hlt
          have cW := bY.cell k (by omega)
          generalize S.K.getD k 0 = x at *
          generalize wl.getD k 0 = y at *
          have c0 : wr.cell? ⟨g, 0, none⟩ = some (.int .u32 v0) := bV.cell 0 (by show _ < 8; decide)
          have c1 : wr.cell? ⟨g, 1, none⟩ = some (.int .u32 v1) := bV.cell 1 (by show _ < 8; decide)
          have c2 : wr.cell? ⟨g, 2, none⟩ = some (.int .u32 v2) := bV.cell 2 (by show _ < 8; decide)
          have c3 : wr.cell? ⟨g, 3, none⟩ = some (.int .u32 v3) := bV.cell 3 (by show _ < 8; decide)
          have c4 : wr.cell? ⟨g, 4, none⟩ = some (.int .u32 v4) := bV.cell 4 (by show _ < 8; decide)
          have c5 : wr.cell? ⟨g, 5, none⟩ = some (.int .u32 v5) := bV.cell 5 (by show _ < 8; decide)
          have c6 : wr.cell? ⟨g, 6, none⟩ = some (.int .u32 v6) := bV.cell 6 (by show _ < 8; decide)
          have c7 : wr.cell? ⟨g, 7, none⟩ = some (.int .u32 v7) := bV.cell 7 (by show _ < 8; decide)
          have hz' : ∀ w, (zeroValue 26).run Tryz.prog w = .ok (.agg #[.int .u32 0, .int .u32 0, .int .u32 0, .int .u32 0, .int .u32 0, .int .u32 0, .int .u32 0, .int .u32 0]) w := fun w => Tryz.zeroValue26 w
          clear hz
          have j1 : (k : Int) < 64 := by omega
          have j2 : (0 : Int) ≤ (k : Int) := by omega
          have BA : Hid (Blk wr W.heap.size .u32 26 A) := bA
          have BZ : Hid (Blk wr (W.heap.size + 1 + 1) .u32 26 Z) := bZ
          have BY : Hid (Blk wr (W.heap.size + 1 + 1 + 1) .u32 208 wl) := bY
          have BV : Hid (Blk wr g .u32 26 [v0, v1, v2, v3, v4, v5, v6, v7]) := bV
          have HB : Hid (Below W.heap.size W wr) := hb
          clear bA bZ bY bV hb
          go_wp2
          go_quiet (first | (go_at_call_of 128 (Value.int .u64 6); exact quiet_same (R.out _ _ _ 6 rfl (by decide) (by decide))) | (go_at_call_of 128 (Value.int .u64 11); exact quiet_same (R.out _ _ _ 11 rfl (by decide) (by decide))) | (go_at_call_of 128 (Value.int .u64 25); exact quiet_same (R.out _ _ _ 25 rfl (by decide) (by decide))))
          go_wp2
          have e0 : (wr.drewN nq).cell? ⟨g, 0, none⟩ = some (.int .u32 v0) := (World.cell?_drewN wr nq _).trans c0
          have e1 : (wr.drewN nq).cell? ⟨g, 1, none⟩ = some (.int .u32 v1) := (World.cell?_drewN wr nq _).trans c1
          have e2 : (wr.drewN nq).cell? ⟨g, 2, none⟩ = some (.int .u32 v2) := (World.cell?_drewN wr nq _).trans c2
          have e3 : (wr.drewN nq).cell? ⟨g, 3, none⟩ = some (.int .u32 v3) := (World.cell?_drewN wr nq _).trans c3
          have e4 : (wr.drewN nq).cell? ⟨g, 4, none⟩ = some (.int .u32 v4) := (World.cell?_drewN wr nq _).trans c4
          have e5 : (wr.drewN nq).cell? ⟨g, 5, none⟩ = some (.int .u32 v5) := (World.cell?_drewN wr nq _).trans c5
          have e6 : (wr.drewN nq).cell? ⟨g, 6, none⟩ = some (.int .u32 v6) := (World.cell?_drewN wr nq _).trans c6
          have BA1 : Hid (Blk (wr.drewN nq) W.heap.size .u32 26 A) := BA.out.drewN nq
          have BZ1 : Hid (Blk (wr.drewN nq) (W.heap.size + 1 + 1) .u32 26 Z) := BZ.out.drewN nq
          have BY1 : Hid (Blk (wr.drewN nq) (W.heap.size + 1 + 1 + 1) .u32 208 wl) := BY.out.drewN nq
          have BV1 : Hid (Blk (wr.drewN nq) g .u32 26 [v0, v1, v2, v3, v4, v5, v6, v7]) := BV.out.drewN nq
          have HB1 : Hid (Below W.heap.size W (wr.drewN nq)) := below_drewN HB.out nq
          clear c0 c1 c2 c3 c4 c5 c6 c7 BA BZ BY BV HB cK cW
          generalize wr.drewN nq = X at *
          go_quiet (first | (go_at_call_of 128 (Value.int .u64 2); exact quiet_same (R.out _ _ _ 2 rfl (by decide) (by decide))) | (go_at_call_of 128 (Value.int .u64 13); exact quiet_same (R.out _ _ _ 13 rfl (by decide) (by decide))) | (go_at_call_of 128 (Value.int .u64 22); exact quiet_same (R.out _ _ _ 22 rfl (by decide) (by decide))))
          have FE := rnd_eq v0 v1 v2 v3 v4 v5 v6 v7 x y
          unfold S.u1 S.u2 S.S1 S.S0 S.ch S.mj S.xo S.an S.no at FE
          simp only [List.getD_cons_zero, List.getD_cons_succ] at FE
          generalize hL' : [_, _, _, _, _, _, _, _] = L' at FE
          have FE' : Hid (L' = S.rounds A wl (k + 1)) := HR.out L' FE
          clear FE
          go_wp2_with (first | (refine wpList_store_but rfl 26 _ _ rfl g L' rfl (by rw [← hL']; rfl) (BV1.out.drewN _) (by rw [← hL']; exact size26) (by rw [← hL']; rfl) ?_; intro w2 bV hw2 hs2))
          go_roundw
          case rel =>
            rw [FE'.out] at bV
            exact ⟨k + 1, by omega, by go_num, hw2.blk (BA1.out.drewN _) (by omega), hw2.blk (BZ1.out.drewN _) (by omega), hw2.blk (BY1.out.drewN _) (by omega), bV, (below_drewN HB1.out _).trans (hw2.below (B := W.heap.size) (by omega) (below_drewN HB1.out _).size)⟩
          case measure => simp [intOf]; omega
        · obtain rfl : k = 64 := by omega
          clear bY
          go_wp2
          have hl := rounds_length A wl hA 64
          have HF' : Hid _ := HF.out
          clear HF
          generalize S.rounds A wl 64 = L at *
          rw [← plus_zero L A hl] at bV
          go_loopw [15] (fun i wr => ∃ k : Nat, k ≤ 8 ∧ i = .int .i64 (k : Int) ∧ Blk wr W.heap.size .u32 26 A ∧ Blk wr (W.heap.size + 1 + 1) .u32 26 Z ∧ Blk wr g .u32 26 (S.plus L A k) ∧ Below W.heap.size W wr) (fun i _ => 8 - (intOf i).toNat)
          case atStart => exact ⟨0, by decide, rfl, bA, bZ, bV, hb⟩
          case round =>
            clear bA bZ bV hb
            obtain ⟨k, hk, rfl, bA, bZ, bS, hb⟩ := hrel
            by_cases hlt : k < 8
            · have c1 := bA.cell k (by omega)
              have c2 := bS.cell k (by rw [plus_length]; exact hlt)
              have f2 := bS.free k
              rw [plus_getD L A k hlt] at c2
              have HX : Hid (∀ u, u = (L.getD k 0 + A.getD k 0) % 4294967296 → Blk (wr.drew.setCell ⟨g, k, none⟩ (.int .u32 u)) W.heap.size .u32 26 A ∧ Blk (wr.drew.setCell ⟨g, k, none⟩ (.int .u32 u)) (W.heap.size + 1 + 1) .u32 26 Z ∧ Blk (wr.drew.setCell ⟨g, k, none⟩ (.int .u32 u)) g .u32 26 (S.plus L A (k + 1)) ∧ Below W.heap.size W (wr.drew.setCell ⟨g, k, none⟩ (.int .u32 u))) := fun u hu => by
                refine ⟨bA.drew.other _ (by omega), bZ.drew.other _ (by omega), ?_, hb.drew.setCell (show W.heap.size ≤ g by omega) _⟩
                have := bS.drew.set k u
                rwa [plus_set L A k u hu] at this
              clear bA bZ bS hb
              generalize L.getD k 0 = x at *
              generalize A.getD k 0 = y at *
              go_wp2
              go_region
              go_wp2
              go_roundw
              case rel => exact ⟨k + 1, by omega, by go_num, HX.out _ rfl⟩
              case measure => simp [intOf]; omega
            · obtain rfl : k = 8 := by omega
              rw [HF'.out] at bS
              have hbl := block_length A B
              have BS : Hid (Blk wr g .u32 26 (S.block A B)) := bS
              have BZ : Hid (Blk wr (W.heap.size + 1 + 1) .u32 26 Z) := bZ
              have HB : Hid (Below W.heap.size W wr) := hb
              clear bA bZ bS hb
              go_wp2_with (first | (refine wpList_load_blk rfl 26 _ rfl g (S.block A B) rfl BS.out Tryz.underlying26 (by rw [hbl]; exact size26) ?_) | (refine wpList_store_blk rfl 26 _ _ rfl (W.heap.size + 1 + 1) (S.block A B) rfl rfl BZ.out (by rw [hbl]; exact size26) (by rw [hbl, hZl]) ?_))
              refine ret_cell rfl rfl (W.heap.size + 1 + 1) (S.block A B) rfl (BZ.out.setRow _) Tryz.underlying26 (by rw [hbl]; exact size26) ⟨rfl, ?_⟩
              exact below_setRow HB.out (by omega) _
end Go.Proofs.YtbpdmkohihgnjaaGreatDoor
