import Derived.Test.YtbpdmkohihgnjaaGreatDoorP04
import Derived.Deep.RegionLaw
namespace Go.Proofs.YtbpdmkohihgnjaaGreatDoor
open Go.RowKit

theorem left_any (W : World) (x : Int) (k : Nat) (h0 : 1 ≤ k) (h1 : k ≤ 31) :
    Calls Tryz.prog 157 #[.int .u32 x, .int .i64 (-(k : Int))] W fun e W' => e = .returned (.int .u32 (S.rot x k)) ∧ W = W' := by
  have h : bits .and .u64 (18446744073709551616 - (k : Int)) 31 = ((32 - k : Nat) : Int) := by
    have : ∀ k : Fin 32, 1 ≤ k.val → bits .and .u64 (18446744073709551616 - (k.val : Int)) 31 = ((32 - k.val : Nat) : Int) := by decide +kernel
    exact this ⟨k, by omega⟩ h0
  have e1 : IntKind.u64.wrap (-(k : Int)) = 18446744073709551616 - (k : Int) := by rw [IntKind.wrap_u64]; omega
  have e2 : (32 : Int) - ((32 - k : Nat) : Int) = (k : Int) := by omega
  go_enter Tryz.func157, Tryz.ntmps157
  go_wp2
  go_ret
  exact ⟨rfl, rfl⟩
theorem right_any (W : World) (x : Int) (k : Nat) (h0 : 1 ≤ k) (h1 : k ≤ 31) :
    Calls Tryz.prog 156 #[.int .u32 x, .int .i64 (k : Int)] W fun e W' => e = .returned (.int .u32 (S.rot x k)) ∧ W = W' := by
  go_enter Tryz.func156, Tryz.ntmps156
  go_wp2_with (first | (go_at_call 157; refine (left_any _ x k h0 h1).mono ?_; rintro e w' ⟨rfl, rfl⟩))
  go_ret
  exact ⟨rfl, rfl⟩
theorem rot_any (W : World) (x : Int) (z : Int) (k : Nat) (hz : z = k) (h0 : 1 ≤ k) (h1 : k ≤ 31) :
    Calls Tryz.prog 156 #[.int .u32 x, .int .i64 z] W fun e W' => e = .returned (.int .u32 (S.rot x k)) ∧ W = W' := by
  subst hz
  exact right_any W x k h0 h1

theorem quiet_same {P : Program} {f : FuncId} {args : Array Value} {w : World} {n : Nat} {v : Value}
    (h : Calls P f args (w.drewN n) fun e w' => e = .returned v ∧ w.drewN n = w') : Calls P f args (w.drewN n) fun e w'' => e = .returned v ∧ ∃ m, w'' = w.drewN m :=
  h.mono fun _ _ ⟨he, hm⟩ => ⟨he, n, hm.symm⟩
attribute [-simp] Tryz.isAgg26 Tryz.sizeOf26
set_option maxRecDepth 20000 in
set_option maxHeartbeats 2000000 in
theorem round_eight (W : World) (a b c d e f g h x : Int) :
    Calls Tryz.prog 153 #[.agg #[.int .u32 a, .int .u32 b, .int .u32 c, .int .u32 d, .int .u32 e, .int .u32 f, .int .u32 g, .int .u32 h], .int .u32 x] W fun en W' => en = .returned (Ag (S.round [a, b, c, d, e, f, g, h] x)) ∧ Below W.heap.size W W' := by
  have R : Hid (∀ (w : World) (x : Int) (z : Int) (k : Nat), z = k → 1 ≤ k → k ≤ 31 → Calls Tryz.prog 156 #[.int .u32 x, .int .i64 z] w fun e W' => e = .returned (.int .u32 (S.rot x k)) ∧ w = W') := rot_any
  have HB := below_one W (Obj.cells #[.int .u32 a, .int .u32 b, .int .u32 c, .int .u32 d, .int .u32 e, .int .u32 f, .int .u32 g, .int .u32 h] 26)
  have hsg : (if IntKind.u32.signed = true then (-1 : Int) else IntKind.u32.max) = 4294967295 := by decide
  go_enter Tryz.func153, Tryz.ntmps153
  go_wp2
  go_quiet (fail)
  go_wp2
  have c7 : (World.drewN ((W.alloc (Obj.cells #[.int .u32 a, .int .u32 b, .int .u32 c, .int .u32 d, .int .u32 e, .int .u32 f, .int .u32 g, .int .u32 h] 26)).alloc (Obj.cells #[.int .u32 0, .int .u32 0, .int .u32 0, .int .u32 0, .int .u32 0, .int .u32 0, .int .u32 0, .int .u32 0] 26)) nq).cell? ⟨W.heap.size, 7, none⟩ = some (.int .u32 h) := by simp
  have c3 : (World.drewN ((W.alloc (Obj.cells #[.int .u32 a, .int .u32 b, .int .u32 c, .int .u32 d, .int .u32 e, .int .u32 f, .int .u32 g, .int .u32 h] 26)).alloc (Obj.cells #[.int .u32 0, .int .u32 0, .int .u32 0, .int .u32 0, .int .u32 0, .int .u32 0, .int .u32 0, .int .u32 0] 26)) nq).cell? ⟨W.heap.size, 3, none⟩ = some (.int .u32 d) := by simp
  have b0 : Blk (World.drewN ((W.alloc (Obj.cells #[.int .u32 a, .int .u32 b, .int .u32 c, .int .u32 d, .int .u32 e, .int .u32 f, .int .u32 g, .int .u32 h] 26)).alloc (Obj.cells #[.int .u32 0, .int .u32 0, .int .u32 0, .int .u32 0, .int .u32 0, .int .u32 0, .int .u32 0, .int .u32 0] 26)) nq) (W.heap.size + 1) .u32 26 [0, 0, 0, 0, 0, 0, 0, 0] := by
    have := (Blk.new (W.alloc (Obj.cells #[.int .u32 a, .int .u32 b, .int .u32 c, .int .u32 d, .int .u32 e, .int .u32 f, .int .u32 g, .int .u32 h] 26)) .u32 26 [0, 0, 0, 0, 0, 0, 0, 0]).drewN nq
    simpa using this
  have HX : Below W.heap.size W (World.drewN ((W.alloc (Obj.cells #[.int .u32 a, .int .u32 b, .int .u32 c, .int .u32 d, .int .u32 e, .int .u32 f, .int .u32 g, .int .u32 h] 26)).alloc (Obj.cells #[.int .u32 0, .int .u32 0, .int .u32 0, .int .u32 0, .int .u32 0, .int .u32 0, .int .u32 0, .int .u32 0] 26)) nq) := below_drewN (HB.alloc (by simp) _) nq
  generalize World.drewN _ nq = X at *
  have B0 : Hid (∀ n, Blk (X.drewN n) (W.heap.size + 1) .u32 26 [0, 0, 0, 0, 0, 0, 0, 0]) := fun n => b0.drewN n
  have HX' : Hid _ := HX
  clear HX b0 HB
  go_quiet (first | (go_at_call_of 156 (Value.int .i64 6); exact quiet_same (R.out _ _ _ 6 rfl (by decide) (by decide))) | (go_at_call_of 156 (Value.int .i64 11); exact quiet_same (R.out _ _ _ 11 rfl (by decide) (by decide))) | (go_at_call_of 156 (Value.int .i64 25); exact quiet_same (R.out _ _ _ 25 rfl (by decide) (by decide))))
  go_wp2_with (first | (refine wpList_store_blk rfl 26 _ _ rfl (W.heap.size + 1) (S.round [a, b, c, d, e, f, g, h] x) rfl rfl (B0.out _) size26 rfl ?_) | (go_at_call_of 156 (Value.int .i64 2); refine (R.out _ _ _ 2 rfl (by decide) (by decide)).mono ?_; rintro en w' ⟨rfl, rfl⟩) | (go_at_call_of 156 (Value.int .i64 13); refine (R.out _ _ _ 13 rfl (by decide) (by decide)).mono ?_; rintro en w' ⟨rfl, rfl⟩) | (go_at_call_of 156 (Value.int .i64 22); refine (R.out _ _ _ 22 rfl (by decide) (by decide)).mono ?_; rintro en w' ⟨rfl, rfl⟩))
  refine ret_cell rfl rfl (W.heap.size + 1) (S.round [a, b, c, d, e, f, g, h] x) rfl ((B0.out _).setRow _) Tryz.underlying26 size26 ⟨rfl, ?_⟩
  exact below_setRow (below_drewN HX'.out _) (by omega) _
theorem round_any (W : World) (L : List Int) (x : Int) (hL : L.length = 8) :
    Calls Tryz.prog 153 #[Ag L, .int .u32 x] W fun en W' => en = .returned (Ag (S.round L x)) ∧ Below W.heap.size W W' := by
  match L, hL with
  | [a, b, c, d, e, f, g, h], _ => exact round_eight W a b c d e f g h x
end Go.Proofs.YtbpdmkohihgnjaaGreatDoor
namespace Go.Proofs.YtbpdmkohihgnjaaGreatDoor
open Go.RowKit

theorem sched_length (B : List Int) (k : Nat) : (S.sched B k).length = B.length + k := by
  induction k with
  | zero => rfl
  | succ k ih => simp only [S.sched, List.length_append, ih, List.length_singleton]; omega
def Sch (B : List Int) (k : Nat) : List Int := S.sched B k ++ List.replicate (48 - k) 0
theorem Sch_length (B : List Int) (hB : B.length = 16) (k : Nat) (hk : k ≤ 48) : (Sch B k).length = 64 := by
  simp only [Sch, List.length_append, sched_length, hB, List.length_replicate]; omega
theorem Sch_getD (B : List Int) (hB : B.length = 16) (k i : Nat) (hi : i < 16 + k) : (Sch B k).getD i 0 = (S.sched B k).getD i 0 := by
  simp only [Sch, List.getD_eq_getElem?_getD]
  rw [List.getElem?_append_left (by rw [sched_length, hB]; omega)]
theorem Sch_set (B : List Int) (hB : B.length = 16) (k : Nat) (hk : k < 48) (u : Int) (hu : u = S.next (S.sched B k) (16 + k)) : (Sch B k).set (16 + k) u = Sch B (k + 1) := by
  subst hu
  unfold Sch
  rw [List.set_append_right _ _ (by rw [sched_length, hB]; omega), sched_length, hB, Nat.sub_self]
  obtain ⟨m, hm⟩ : ∃ m, 48 - k = m + 1 := ⟨47 - k, by omega⟩
  rw [hm, List.replicate_succ, List.set_cons_zero, show 48 - (k + 1) = m by omega]
  simp [S.sched]
theorem Sch_all (B : List Int) : Sch B 48 = S.sched B 48 := by simp [Sch]

attribute [-simp] Tryz.isAgg208 Tryz.sizeOf208 Tryz.zeroValue208 Tryz.isAgg197 Tryz.sizeOf197
set_option maxRecDepth 20000 in
set_option maxHeartbeats 2000000 in
theorem schedule_any (W : World) (B : List Int) (hB : B.length = 16) :
    Calls Tryz.prog 152 #[Ag B] W fun en W' => en = .returned (Ag (S.sched B 48)) ∧ Below W.heap.size W W' := by
  obtain ⟨Z, hZ⟩ : ∃ Z : List Int, Z = List.replicate 64 0 := ⟨_, rfl⟩
  have hZl : Z.length = 64 := by rw [hZ]; simp
  have hz : ∀ w, (zeroValue 208).run Tryz.prog w = .ok (.agg (Z.map (Value.int .u32)).toArray) w := fun w => by rw [Tryz.zeroValue208, hZ]; rfl
  have HZ : Hid _ := hZ
  clear hZ
  unfold Ag
  go_enter Tryz.func152, Tryz.ntmps152
  go_wp2
  have bB : Blk (((W.alloc (Obj.cells (List.map (Value.int IntKind.u32) B).toArray 197)).alloc (Obj.cells (List.map (Value.int IntKind.u32) Z).toArray 208)).alloc (Obj.cells (List.map (Value.int IntKind.u32) Z).toArray 208)) W.heap.size .u32 197 B := ((Blk.new W .u32 197 B).alloc _).alloc _
  have b1 : Blk (((W.alloc (Obj.cells (List.map (Value.int IntKind.u32) B).toArray 197)).alloc (Obj.cells (List.map (Value.int IntKind.u32) Z).toArray 208)).alloc (Obj.cells (List.map (Value.int IntKind.u32) Z).toArray 208)) (W.heap.size + 1) .u32 208 Z := (Blk.newAt (by simp) .u32 208 Z).alloc _
  have b2 : Blk (((W.alloc (Obj.cells (List.map (Value.int IntKind.u32) B).toArray 197)).alloc (Obj.cells (List.map (Value.int IntKind.u32) Z).toArray 208)).alloc (Obj.cells (List.map (Value.int IntKind.u32) Z).toArray 208)) (W.heap.size + 1 + 1) .u32 208 Z := Blk.newAt (by simp) .u32 208 Z
  have hX : Below W.heap.size W (((W.alloc (Obj.cells (List.map (Value.int IntKind.u32) B).toArray 197)).alloc (Obj.cells (List.map (Value.int IntKind.u32) Z).toArray 208)).alloc (Obj.cells (List.map (Value.int IntKind.u32) Z).toArray 208)) := ((below_one W _).alloc (by simp) _).alloc (by simp; omega) _
  generalize ((W.alloc _).alloc _).alloc _ = X at *
  have hsp : splice (Z.map (Value.int .u32)) 0 (B.map (Value.int .u32)) = (Sch B 0).map (Value.int .u32) := by
    rw [HZ.out]
    simp [splice, Sch, S.sched, hB]
  obtain ⟨c, hc⟩ : ∃ c, c = B.map (Value.int .u32) := ⟨_, rfl⟩
  obtain ⟨z, hzz⟩ : ∃ z, z = Z.map (Value.int .u32) := ⟨_, rfl⟩
  have hcl : c.length = 16 := by rw [hc]; simp [hB]
  have HS : Hid (∀ w, w.heap[W.heap.size + 1 + 1]? = some (.cells (splice z 0 c).toArray 208 (0, 0)) → Blk w (W.heap.size + 1 + 1) .u32 208 (Sch B 0)) := fun w h => by
    rw [hc, hzz, hsp] at h
    exact h
  have H1 : Hid (X.drew.heap[W.heap.size + 1 + 1]? = some (.cells z.toArray 208 (0, 0))) := by rw [hzz]; exact b2
  have H2 : Hid (∀ j v, c[j]? = some v → X.drew.cell? ((⟨W.heap.size, 0, none⟩ : Addr).add j) = some v) := by rw [hc]; exact bB.drew.at.cells
  have H3 : Hid (∀ v ∈ c, v.oneCell' = true) := by rw [hc]; exact ints_oneCell _ _
  have H4 : Hid (0 + c.length ≤ z.length) := by rw [hzz]; show _ ≤ _; simp [hcl, hZl]
  have H5 : Hid (Below (W.heap.size + 2) X X.drew) := (Below.refl _ _).drew
  clear hc hzz hsp bB b2
  have B1 : Hid _ := b1
  have HX : Hid _ := hX
  clear b1 hX
  go_region_law (refine step_copy_splice rfl (.tmp 9) (.tmp 10) 127 127 rfl 25 Tryz.underlying127 size25 _ _ _ _ _ _ rfl rfl (W.heap.size + 1 + 1) 0 z 208 H1.out c (by rw [hcl]; rfl) (fun _ => ⟨rfl, _, rfl, H2.out⟩) H4.out H3.out (W.heap.size + 2) X H5.out (Nat.le_refl _) ?_; intro w4 hg4 hb4)
  have F0 := HS.out w4 hg4.out
  have B4 := (Blk.below B1.out hb4 (by omega))
  have hW4 := HX.out.trans (hb4.mono (by omega))
  clear hg4 hb4 HS H1 H2 H3 H4 H5 B1 HX
  go_wp2
  go_loopw [4] (fun i wr => ∃ k : Nat, k ≤ 48 ∧ i = .int .i64 ((16 + k : Nat) : Int) ∧ Blk wr (W.heap.size + 1 + 1) .u32 208 (Sch B k) ∧ Blk wr (W.heap.size + 1) .u32 208 Z ∧ Below W.heap.size W wr) (fun i _ => 64 - (intOf i).toNat)
  case atStart => exact ⟨0, by decide, rfl, F0, B4, hW4⟩
  case round =>
    clear F0 B4 hW4
    obtain ⟨k, hk, rfl, F, B1, hb⟩ := hrel
    by_cases hlt : k < 48
    · have hl := Sch_length B hB k hk
      have g1 := Sch_getD B hB k (1 + k) (by omega)
      have g2 := Sch_getD B hB k (14 + k) (by omega)
      have g3 := Sch_getD B hB k (9 + k) (by omega)
      have g4 := Sch_getD B hB k k (by omega)
      have c1 := F.cell (1 + k) (by omega)
      have c2 := F.cell (14 + k) (by omega)
      have c3 := F.cell (9 + k) (by omega)
      have c4 := F.cell k (by omega)
      have c5 := F.cell (16 + k) (by omega)
      have f5 := F.free (16 + k)
      rw [g1] at c1
      rw [g2] at c2
      rw [g3] at c3
      rw [g4] at c4
      clear g1 g2 g3 g4
      have HN : ∀ u, u = S.next (S.sched B k) (16 + k) → _ := fun u hu => Sch_set B hB k hlt u hu
      unfold S.next at HN
      rw [show 16 + k - 2 = 14 + k by omega, show 16 + k - 7 = 9 + k by omega, show 16 + k - 15 = 1 + k by omega, show 16 + k - 16 = k by omega] at HN
      generalize (S.sched B k).getD (1 + k) 0 = x1 at *
      generalize (S.sched B k).getD (14 + k) 0 = x2 at *
      generalize (S.sched B k).getD (9 + k) 0 = x3 at *
      generalize (S.sched B k).getD k 0 = x4 at *
      generalize (Sch B k).getD (16 + k) 0 = x5 at *
      have HNN : Hid _ := HN
      have FF : Hid (Blk wr (W.heap.size + 1 + 1) .u32 208 (Sch B k)) := F
      have BB : Hid (Blk wr (W.heap.size + 1) .u32 208 Z) := B1
      have HB : Hid _ := hb
      have R : Hid (∀ (w : World) (x : Int) (z : Int) (k : Nat), z = k → 1 ≤ k → k ≤ 31 → Calls Tryz.prog 156 #[.int .u32 x, .int .i64 z] w fun e W' => e = .returned (.int .u32 (S.rot x k)) ∧ w = W') := rot_any
      have v1 : IntKind.i64.wrap (16 + (k : Int) - 15) = 1 + (k : Int) := by rw [IntKind.wrap_i64]; omega
      have v2 : IntKind.i64.wrap (16 + (k : Int) - 2) = 14 + (k : Int) := by rw [IntKind.wrap_i64]; omega
      have v3 : IntKind.i64.wrap (16 + (k : Int) - 7) = 9 + (k : Int) := by rw [IntKind.wrap_i64]; omega
      have v4 : IntKind.i64.wrap (16 + (k : Int) - 16) = (k : Int) := by rw [IntKind.wrap_i64]; omega
      have n1 : (1 + (k : Int)).toNat = 1 + k := by omega
      have n2 : (14 + (k : Int)).toNat = 14 + k := by omega
      have n3 : (9 + (k : Int)).toNat = 9 + k := by omega
      have n4 : (16 + (k : Int)).toNat = 16 + k := by omega
      clear HN F B1 hb
      go_wp2
      go_quiet (fail)
      go_wp2_with (first | (go_at_call_of 156 (Value.int .i64 7); refine (R.out _ _ _ 7 rfl (by decide) (by decide)).mono ?_; rintro en w' ⟨rfl, rfl⟩) | (go_at_call_of 156 (Value.int .i64 18); refine (R.out _ _ _ 18 rfl (by decide) (by decide)).mono ?_; rintro en w' ⟨rfl, rfl⟩) | (go_at_call_of 156 (Value.int .i64 17); refine (R.out _ _ _ 17 rfl (by decide) (by decide)).mono ?_; rintro en w' ⟨rfl, rfl⟩) | (go_at_call_of 156 (Value.int .i64 19); refine (R.out _ _ _ 19 rfl (by decide) (by decide)).mono ?_; rintro en w' ⟨rfl, rfl⟩))
      go_region
      go_wp2
      go_roundw
      case rel =>
        refine ⟨k + 1, by omega, by go_num, ?_, ?_, ?_⟩
        · have := ((FF.out.drewN nq).drew).set (16 + k) ((S.s1 x2 + x3 + S.s0 x1 + x4) % 4294967296)
          rw [HNN.out _ rfl] at this
          exact this
        · exact ((BB.out.drewN nq).drew).other _ (by omega)
        · exact ((below_drewN HB.out nq).drew).setCell (show W.heap.size ≤ W.heap.size + 1 + 1 by omega) _
      case measure => simp [intOf]; omega
    · obtain rfl : k = 48 := by omega
      rw [Sch_all] at F
      have FF : Hid (Blk wr (W.heap.size + 1 + 1) .u32 208 (S.sched B 48)) := F
      have BB : Hid (Blk wr (W.heap.size + 1) .u32 208 Z) := B1
      have HB : Hid _ := hb
      have hsl : (S.sched B 48).length = 64 := by rw [sched_length, hB]
      clear F B1 hb
      go_wp2_with (first | (refine wpList_load_blk rfl 208 _ rfl (W.heap.size + 1 + 1) (S.sched B 48) rfl FF.out Tryz.underlying208 (by rw [hsl]; exact size95) ?_) | (refine wpList_store_blk rfl 208 _ _ rfl (W.heap.size + 1) (S.sched B 48) rfl rfl BB.out (by rw [hsl]; exact size95) (by rw [hsl, hZl]) ?_))
      refine ret_cell rfl rfl (W.heap.size + 1) (S.sched B 48) rfl (BB.out.setRow _) Tryz.underlying208 (by rw [hsl]; exact size95) ⟨rfl, ?_⟩
      exact below_setRow HB.out (by omega) _
end Go.Proofs.YtbpdmkohihgnjaaGreatDoor
namespace Go.Proofs.YtbpdmkohihgnjaaGreatDoor
open Go.RowKit

def Tab (W : World) : Prop := Row W .u32 12 0 S.K
theorem Tab.below {W w : World} {B : Nat} (h : Tab W) (hb : Below B W w) (hB : 12 < B) : Tab w := Row.below h hb (by omega)
theorem Tab.cell {W : World} (h : Tab W) (i : Nat) (hi : i < 64) : W.cell? ⟨12, i, none⟩ = some (.int .u32 (S.K.getD i 0)) := by
  have := h i hi
  rwa [Nat.zero_add] at this
theorem rounds_length (A M : List Int) (hA : A.length = 8) (k : Nat) : (S.rounds A M k).length = 8 := by
  cases k with
  | zero => exact hA
  | succ k => rfl
theorem plus_length (a b : List Int) (t : Nat) : (S.plus a b t).length = 8 := by simp [S.plus]
theorem block_length (A B : List Int) : (S.block A B).length = 8 := plus_length _ _ _
theorem plus_zero (a b : List Int) (ha : a.length = 8) : S.plus a b 0 = a := by
  apply List.ext_getElem
  · simp [S.plus, ha]
  · intro i h1 h2
    simp [S.plus, List.getD_eq_getElem?_getD, h2]
theorem plus_getD (a b : List Int) (t : Nat) (ht : t < 8) : (S.plus a b t).getD t 0 = a.getD t 0 := by
  simp [S.plus, List.getD_eq_getElem?_getD, ht]
theorem plus_set (a b : List Int) (t : Nat) (u : Int) (hu : u = (a.getD t 0 + b.getD t 0) % 4294967296) : (S.plus a b t).set t u = S.plus a b (t + 1) := by
  subst hu
  apply List.ext_getElem
  · simp [S.plus]
  · intro i h1 h2
    rw [List.getElem_set]
    simp only [S.plus, List.getElem_map, List.getElem_range]
    split
    · subst_vars
      rw [if_pos (by omega)]
      rfl
    · by_cases h : i < t
      · rw [if_pos h, if_pos (by omega)]
      · rw [if_neg h, if_neg (by omega)]

theorem index_ag {P : Program} {ty : TypeId} {n : Nat} (hu : P.underlying ty = some (.array n 25)) (he : P.underlying 25 = some (.int .u32)) (hs : (P.info? 25).map (·.size) = some 1) (L : List Int) (k : Nat) (hL : L.length = n) (hk : k < n) (w : World) :
    (Instr.index ty (Ag L) (.int .i64 (k : Int))).run P w = .ok (.int .u32 (L.getD k 0)) w := by
  have hk' : (L.map (Value.int .u32)).toArray[k]? = some (.int .u32 (L.getD k 0)) := by simp [List.getD_eq_getElem?_getD, show k < L.length by omega]
  cases hq : P.info? 25 with
  | none => simp [hq] at hs
  | some i =>
    have hi : i.size = 1 := by simpa [hq] using hs
    simp [Instr.index, Ag, asIntOf, run_underlying hu, sizeOf, typeInfo, hq, hi, hk, part, isAgg, run_underlying he, show k < L.length by omega, List.getD_eq_getElem?_getD]
theorem cells_blk {P : Program} {w : World} {g : Nat} {e : TypeId} {L : List Int} (h : Blk w g .u32 e L) (n : Nat) (hn : L.length = n) : (loadCellsFrom ⟨g, 0, none⟩ 0 n #[]).run P w = .ok (L.map (Value.int .u32)).toArray w := by
  subst hn
  have := run_loadCells_list (P := P) w ⟨g, 0, none⟩ (L.map (Value.int .u32)) (fun j v hv => by
    have hadd : (⟨g, 0, none⟩ : Addr).add j = ⟨g, j, none⟩ := by unfold Addr.add; split <;> simp_all
    have := h.at.cells j v hv
    rwa [hadd] at this ⊢)
  simpa [loadCells] using this
theorem storeCells_blk {P : Program} {w : World} {g : Nat} {e : TypeId} {L L' : List Int} (h : Blk w g .u32 e L) (hl : L.length = L'.length) : (storeCells ⟨g, 0, none⟩ (L'.map (Value.int .u32)) 0).run P w = .ok () (w.setRow g (L'.map (Value.int .u32)).toArray) := by
  have := run_storeCells_from (P := P) g e (L'.map (Value.int .u32)) 0 _ w h (by simp [hl]) (ints_oneCell .u32 L')
  rw [this]
  simp

attribute [-simp] Tryz.isAgg26 Tryz.sizeOf26 Tryz.zeroValue26 Tryz.isAgg197 Tryz.sizeOf197 Tryz.isAgg208 Tryz.sizeOf208
set_option maxRecDepth 20000 in
set_option maxHeartbeats 2000000 in
theorem block_any (W : World) (hT : Tab W) (h2 : 12 < W.heap.size) (A B : List Int) (hA : A.length = 8) (hB : B.length = 16) :
    Calls Tryz.prog 148 #[Ag A, Ag B] W fun en W' => en = .returned (Ag (S.block A B)) ∧ Below W.heap.size W W' := by
  obtain ⟨Z, hZ⟩ : ∃ Z : List Int, Z = List.replicate 8 0 := ⟨_, rfl⟩
  have hZl : Z.length = 8 := by rw [hZ]; simp
  have hz : ∀ w, (zeroValue 26).run Tryz.prog w = .ok (.agg (Z.map (Value.int .u32)).toArray) w := fun w => by rw [Tryz.zeroValue26, hZ]; rfl
  clear hZ
  obtain ⟨wl, hwl⟩ : ∃ wl, wl = S.sched B 48 := ⟨_, rfl⟩
  have hwll : wl.length = 64 := by rw [hwl, sched_length, hB]
  have SC : Hid (∀ w, Calls Tryz.prog 152 #[Ag B] w fun en W' => en = .returned (Ag wl) ∧ Below w.heap.size w W') := by rw [hwl]; exact fun w => schedule_any w B hB
  have HF : Hid (S.plus (S.rounds A wl 64) A 8 = S.block A B) := by rw [hwl]; rfl
  clear hwl
  have bA : Blk (((W.alloc (Obj.cells (List.map (Value.int IntKind.u32) A).toArray 26)).alloc (Obj.cells (List.map (Value.int IntKind.u32) B).toArray 197)).alloc (Obj.cells (List.map (Value.int IntKind.u32) Z).toArray 26)) W.heap.size .u32 26 A := ((Blk.new W .u32 26 A).alloc _).alloc _
  have bB : Blk (((W.alloc (Obj.cells (List.map (Value.int IntKind.u32) A).toArray 26)).alloc (Obj.cells (List.map (Value.int IntKind.u32) B).toArray 197)).alloc (Obj.cells (List.map (Value.int IntKind.u32) Z).toArray 26)) (W.heap.size + 1) .u32 197 B := (Blk.newAt (by simp) .u32 197 B).alloc _
  have bZ : Blk (((W.alloc (Obj.cells (List.map (Value.int IntKind.u32) A).toArray 26)).alloc (Obj.cells (List.map (Value.int IntKind.u32) B).toArray 197)).alloc (Obj.cells (List.map (Value.int IntKind.u32) Z).toArray 26)) (W.heap.size + 1 + 1) .u32 26 Z := Blk.newAt (by simp) .u32 26 Z
  have hX : Below W.heap.size W (((W.alloc (Obj.cells (List.map (Value.int IntKind.u32) A).toArray 26)).alloc (Obj.cells (List.map (Value.int IntKind.u32) B).toArray 197)).alloc (Obj.cells (List.map (Value.int IntKind.u32) Z).toArray 26)) := ((below_one W _).alloc (by simp) _).alloc (by simp; omega) _
  have BA : Hid (Blk _ W.heap.size .u32 26 A) := bA
  have BB : Hid (Blk _ (W.heap.size + 1) .u32 197 B) := bB
  have BZ : Hid (Blk _ (W.heap.size + 1 + 1) .u32 26 Z) := bZ
  have HX : Hid _ := hX
  clear bA bB bZ hX
  have z8 : (Tryz.prog.info? 26).map (·.size) = some A.length := by rw [hA]; exact size26
  have z16 : (Tryz.prog.info? 197).map (·.size) = some B.length := by rw [hB]; exact size64
  have zz : Z.length = A.length := by rw [hZl, hA]
  unfold Ag
  go_enter Tryz.func148, Tryz.ntmps148
  go_wp2_with (first | (refine wpList_load_blk rfl 26 _ rfl W.heap.size A rfl BA.out Tryz.underlying26 z8 ?_) | (refine wpList_store_but rfl 26 _ _ rfl (W.heap.size + 1 + 1 + 1) A rfl rfl (Blk.newAt (by simp) .u32 26 Z) z8 zz ?_; intro w1 bs hw1 hs1; have bB := hw1.blk (BB.out.alloc _) (by omega)) | (refine wpList_load_blk rfl 197 _ rfl (W.heap.size + 1) B rfl bB Tryz.underlying197 z16 ?_) | (go_at_call 152; refine (SC.out _).mono ?_; rintro en w2 ⟨rfl, hb2⟩))
  have hs0 : w1.heap.size = W.heap.size + 4 := by rw [hs1]; simp
  have bA := (hw1.blk (BA.out.alloc _) (by omega)).below hb2 (by omega)
  have bZ := (hw1.blk (BZ.out.alloc _) (by omega)).below hb2 (by omega)
  have bS := bs.below hb2 (by omega)
  have hb3 := ((HX.out.alloc (by simp; omega) _).trans (hw1.below (B := W.heap.size) (by omega) (by simp; omega))).trans (hb2.mono (by omega))
  clear hw1 hs1 BA BB BZ HX bs bB hb2
  go_loopw [6, 7, 12] (fun _ _ i wr => ∃ k : Nat, k ≤ 64 ∧ i = .int .i64 (k : Int) ∧ Blk wr W.heap.size .u32 26 A ∧ Blk wr (W.heap.size + 1 + 1) .u32 26 Z ∧ Blk wr (W.heap.size + 1 + 1 + 1) .u32 26 (S.rounds A wl k) ∧ Below W.heap.size W wr) (fun _ _ i _ => 64 - (intOf i).toNat)
  case atStart => exact ⟨0, by decide, rfl, bA, bZ, bS, hb3⟩
  case round =>
    clear bA bZ bS hb3
    obtain ⟨k, hk, rfl, bA, bZ, bS, hb⟩ := hrel
    by_cases hlt : k < 64
    · have hl := rounds_length A wl hA k
      have hc := (hT.below hb h2).cell k hlt
      have hix := index_ag Tryz.underlying208 Tryz.underlying25 size25 wl k hwll hlt
      have HR : Hid (S.round (S.rounds A wl k) ((S.K.getD k 0 + wl.getD k 0) % 4294967296) = S.rounds A wl (k + 1)) := rfl
      generalize S.rounds A wl k = L at *
      generalize S.K.getD k 0 = x at *
      generalize wl.getD k 0 = y at *
      have z27 := Tryz.sizeOf26
      obtain ⟨N, hN⟩ : ∃ N : Nat, N = 8 := ⟨_, rfl⟩
      have hlN : L.length = N := by rw [hN]; exact hl
      have hMN : (S.rounds A wl (k + 1)).length = N := by rw [hN]; exact rounds_length A wl hA (k + 1)
      rw [← hN] at z27
      have hld : (loadCellsFrom ⟨W.heap.size + 1 + 1 + 1, 0, none⟩ 0 N #[]).run Tryz.prog wr.drew = .ok (L.map (Value.int .u32)).toArray wr.drew := cells_blk (e := 26) bS.drew N hlN
      have a27 := Tryz.isAgg26
      have HM : Hid (∀ w, Calls Tryz.prog 153 #[Ag L, .int .u32 ((x + y) % 4294967296)] w fun en w' => en = .returned (Ag (S.rounds A wl (k + 1))) ∧ Below w.heap.size w w') := fun w => by
        rw [← HR.out]; exact round_any w L _ hl
      clear HR
      generalize hE : S.rounds A wl (k + 1) = M at *
      have HE : Hid (S.rounds A wl (k + 1) = M) := hE
      clear hE
      have RD : Hid (Calls Tryz.prog 153 #[.agg (L.map (Value.int .u32)).toArray, .int .u32 ((x + y) % 4294967296)] wr.drew fun en w' => en = .returned (.agg (M.map (Value.int .u32)).toArray) ∧ Below wr.heap.size wr w' ∧ (storeCells ⟨W.heap.size + 1 + 1 + 1, 0, none⟩ (M.map (Value.int .u32)) 0).run Tryz.prog w' = .ok () (w'.setRow (W.heap.size + 1 + 1 + 1) (M.map (Value.int .u32)).toArray)) := by
        refine (HM.out wr.drew).mono ?_
        rintro en w' ⟨rfl, hb'⟩
        have hb'' : Below wr.heap.size wr w' := Below.trans (Below.drew (Below.refl _ _)) hb'
        exact ⟨rfl, hb'', storeCells_blk (e := 26) (bS.below hb'' bS.lt) (by rw [hlN, hMN])⟩
      have HX : Hid (∀ w', Below wr.heap.size wr w' → Blk (w'.setRow (W.heap.size + 1 + 1 + 1) (M.map (Value.int .u32)).toArray) W.heap.size .u32 26 A ∧ Blk (w'.setRow (W.heap.size + 1 + 1 + 1) (M.map (Value.int .u32)).toArray) (W.heap.size + 1 + 1) .u32 26 Z ∧ Blk (w'.setRow (W.heap.size + 1 + 1 + 1) (M.map (Value.int .u32)).toArray) (W.heap.size + 1 + 1 + 1) .u32 26 M ∧ Below W.heap.size W (w'.setRow (W.heap.size + 1 + 1 + 1) (M.map (Value.int .u32)).toArray)) := fun w' hb' =>
        ⟨(bA.below hb' bA.lt).setRow_other _ (by omega), (bZ.below hb' bZ.lt).setRow_other _ (by omega), (bS.below hb' bS.lt).setRow _, below_setRow (hb.trans (hb'.mono hb.size)) (by omega) _⟩
      clear bA bZ bS hb HM hN hl hlN
      go_wp2
      go_region_with (first | (go_at_call 153; refine RD.out.mono ?_; rintro en w' ⟨rfl, hb', hst⟩))
      all_goals
        have HY : Hid _ := HX.out _ hb'
        clear hb' hst
        go_wp2
        go_roundw
        case rel => exact ⟨k + 1, by omega, by go_num, by rw [HE.out]; exact HY.out⟩
        case measure => simp [intOf]; omega
    · obtain rfl : k = 64 := by omega
      go_wp2
      have hl := rounds_length A wl hA 64
      have HF' : Hid _ := HF.out
      clear HF
      generalize S.rounds A wl 64 = L at *
      rw [← plus_zero L A hl] at bS
      go_loopw [8, 24] (fun _ i wr => ∃ k : Nat, k ≤ 8 ∧ i = .int .i64 (k : Int) ∧ Blk wr W.heap.size .u32 26 A ∧ Blk wr (W.heap.size + 1 + 1) .u32 26 Z ∧ Blk wr (W.heap.size + 1 + 1 + 1) .u32 26 (S.plus L A k) ∧ Below W.heap.size W wr) (fun _ i _ => 8 - (intOf i).toNat)
      case atStart => exact ⟨0, by decide, rfl, bA, bZ, bS, hb⟩
      case round =>
        clear bA bZ bS hb
        obtain ⟨k, hk, rfl, bA, bZ, bS, hb⟩ := hrel
        by_cases hlt : k < 8
        · have c1 := bA.cell k (by omega)
          have c2 := bS.cell k (by rw [plus_length]; exact hlt)
          have f2 := bS.free k
          rw [plus_getD L A k hlt] at c2
          have HP : Hid (∀ u, u = _ → _) := plus_set L A k
          have HX : Hid (∀ u, u = (L.getD k 0 + A.getD k 0) % 4294967296 → Blk (wr.drew.setCell ⟨W.heap.size + 1 + 1 + 1, k, none⟩ (.int .u32 u)) W.heap.size .u32 26 A ∧ Blk (wr.drew.setCell ⟨W.heap.size + 1 + 1 + 1, k, none⟩ (.int .u32 u)) (W.heap.size + 1 + 1) .u32 26 Z ∧ Blk (wr.drew.setCell ⟨W.heap.size + 1 + 1 + 1, k, none⟩ (.int .u32 u)) (W.heap.size + 1 + 1 + 1) .u32 26 (S.plus L A (k + 1)) ∧ Below W.heap.size W (wr.drew.setCell ⟨W.heap.size + 1 + 1 + 1, k, none⟩ (.int .u32 u))) := fun u hu => by
            refine ⟨bA.drew.other _ (by omega), bZ.drew.other _ (by omega), ?_, hb.drew.setCell (show W.heap.size ≤ W.heap.size + 1 + 1 + 1 by omega) _⟩
            have := bS.drew.set k u
            rwa [plus_set L A k u hu] at this
          clear bA bZ bS hb HP
          generalize L.getD k 0 = x at *
          generalize A.getD k 0 = y at *
          go_wp2
          go_region
          go_wp2
          go_roundw
          case rel => exact ⟨k + 1, by omega, by go_num, HX.out _ rfl⟩
          case measure => simp [intOf]; omega
        · obtain rfl : k = 8 := by omega
          rw [HF'.out] at bS
          have hbl := block_length A B
          have BS : Hid (Blk wr (W.heap.size + 1 + 1 + 1) .u32 26 (S.block A B)) := bS
          have BZ : Hid (Blk wr (W.heap.size + 1 + 1) .u32 26 Z) := bZ
          have HB : Hid (Below W.heap.size W wr) := hb
          clear bA bZ bS hb
          go_wp2_with (first | (refine wpList_load_blk rfl 26 _ rfl (W.heap.size + 1 + 1 + 1) (S.block A B) rfl BS.out Tryz.underlying26 (by rw [hbl]; exact size26) ?_) | (refine wpList_store_blk rfl 26 _ _ rfl (W.heap.size + 1 + 1) (S.block A B) rfl rfl BZ.out (by rw [hbl]; exact size26) (by rw [hbl, hZl]) ?_))
          refine ret_cell rfl rfl (W.heap.size + 1 + 1) (S.block A B) rfl (BZ.out.setRow _) Tryz.underlying26 (by rw [hbl]; exact size26) ⟨rfl, ?_⟩
          exact below_setRow HB.out (by omega) _
end Go.Proofs.YtbpdmkohihgnjaaGreatDoor
