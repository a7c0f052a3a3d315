import Derived.Test.YtmomidkodjihjaaDoorP02
import Derived.Deep.RegionLaw
namespace Go.Proofs.YtmomidkodjihjaaDoor.H
open Go.RowKit

theorem sched_length (B : List Int) (k : Nat) : (S.sched B k).length = B.length + k := by
  induction k with
  | zero => rfl
  | succ k ih => simp only [S.sched, List.length_append, ih, List.length_singleton]; omega
def Sch (B : List Int) (k : Nat) : List Int := S.sched B k ++ List.replicate (48 - k) 0
theorem Sch_length (B : List Int) (hB : B.length = 16) (k : Nat) (hk : k ≤ 48) : (Sch B k).length = 64 := by
  simp only [Sch, List.length_append, sched_length, hB, List.length_replicate]; omega
theorem Sch_getD (B : List Int) (hB : B.length = 16) (k i : Nat) (hi : i < 16 + k) : (Sch B k).getD i 0 = (S.sched B k).getD i 0 := by
  simp only [Sch, List.getD_eq_getElem?_getD]
  rw [List.getElem?_append_left (by rw [sched_length, hB]; omega)]
theorem Sch_set (B : List Int) (hB : B.length = 16) (k : Nat) (hk : k < 48) (u : Int) (hu : u = S.next (S.sched B k) (16 + k)) : (Sch B k).set (16 + k) u = Sch B (k + 1) := by
  subst hu
  unfold Sch
  rw [List.set_append_right _ _ (by rw [sched_length, hB]; omega), sched_length, hB, Nat.sub_self]
  obtain ⟨m, hm⟩ : ∃ m, 48 - k = m + 1 := ⟨47 - k, by omega⟩
  rw [hm, List.replicate_succ, List.set_cons_zero, show 48 - (k + 1) = m by omega]
  simp [S.sched]
theorem Sch_all (B : List Int) : Sch B 48 = S.sched B 48 := by simp [Sch]

attribute [-simp] Tryd.isAgg139 Tryd.sizeOf139 Tryd.zeroValue139 Tryd.isAgg119 Tryd.sizeOf119
set_option maxRecDepth 20000 in
set_option maxHeartbeats 2000000 in
theorem schedule_any (W : World) (B : List Int) (hB : B.length = 16) :
    Calls Tryd.prog 75 #[Ag B] W fun en W' => en = .returned (Ag (S.sched B 48)) ∧ Below W.heap.size W W' := by
  obtain ⟨Z, hZ⟩ : ∃ Z : List Int, Z = List.replicate 64 0 := ⟨_, rfl⟩
  have hZl : Z.length = 64 := by rw [hZ]; simp
  have hz : ∀ w, (zeroValue 139).run Tryd.prog w = .ok (.agg (Z.map (Value.int .u32)).toArray) w := fun w => by rw [Tryd.zeroValue139, hZ]; rfl
  have HZ : Hid _ := hZ
  clear hZ
  unfold Ag
  go_enter Tryd.func75, Tryd.ntmps75
  go_wp2
  have bB : Blk (((W.alloc (Obj.cells (List.map (Value.int IntKind.u32) B).toArray 119)).alloc (Obj.cells (List.map (Value.int IntKind.u32) Z).toArray 139)).alloc (Obj.cells (List.map (Value.int IntKind.u32) Z).toArray 139)) W.heap.size .u32 119 B := ((Blk.new W .u32 119 B).alloc _).alloc _
  have b1 : Blk (((W.alloc (Obj.cells (List.map (Value.int IntKind.u32) B).toArray 119)).alloc (Obj.cells (List.map (Value.int IntKind.u32) Z).toArray 139)).alloc (Obj.cells (List.map (Value.int IntKind.u32) Z).toArray 139)) (W.heap.size + 1) .u32 139 Z := (Blk.newAt (by simp) .u32 139 Z).alloc _
  have b2 : Blk (((W.alloc (Obj.cells (List.map (Value.int IntKind.u32) B).toArray 119)).alloc (Obj.cells (List.map (Value.int IntKind.u32) Z).toArray 139)).alloc (Obj.cells (List.map (Value.int IntKind.u32) Z).toArray 139)) (W.heap.size + 1 + 1) .u32 139 Z := Blk.newAt (by simp) .u32 139 Z
  have hX : Below W.heap.size W (((W.alloc (Obj.cells (List.map (Value.int IntKind.u32) B).toArray 119)).alloc (Obj.cells (List.map (Value.int IntKind.u32) Z).toArray 139)).alloc (Obj.cells (List.map (Value.int IntKind.u32) Z).toArray 139)) := ((below_one W _).alloc (by simp) _).alloc (by simp; omega) _
  generalize ((W.alloc _).alloc _).alloc _ = X at *
  have hsp : splice (Z.map (Value.int .u32)) 0 (B.map (Value.int .u32)) = (Sch B 0).map (Value.int .u32) := by
    rw [HZ.out]
    simp [splice, Sch, S.sched, hB]
  obtain ⟨c, hc⟩ : ∃ c, c = B.map (Value.int .u32) := ⟨_, rfl⟩
  obtain ⟨z, hzz⟩ : ∃ z, z = Z.map (Value.int .u32) := ⟨_, rfl⟩
  have hcl : c.length = 16 := by rw [hc]; simp [hB]
  have HS : Hid (∀ w, w.heap[W.heap.size + 1 + 1]? = some (.cells (splice z 0 c).toArray 139 (0, 0)) → Blk w (W.heap.size + 1 + 1) .u32 139 (Sch B 0)) := fun w h => by
    rw [hc, hzz, hsp] at h
    exact h
  have H1 : Hid (X.drew.heap[W.heap.size + 1 + 1]? = some (.cells z.toArray 139 (0, 0))) := by rw [hzz]; exact b2
  have H2 : Hid (∀ j v, c[j]? = some v → X.drew.cell? ((⟨W.heap.size, 0, none⟩ : Addr).add j) = some v) := by rw [hc]; exact bB.drew.at.cells
  have H3 : Hid (∀ v ∈ c, v.oneCell' = true) := by rw [hc]; exact ints_oneCell _ _
  have H4 : Hid (0 + c.length ≤ z.length) := by rw [hzz]; show _ ≤ _; simp [hcl, hZl]
  have H5 : Hid (Below (W.heap.size + 2) X X.drew) := (Below.refl _ _).drew
  clear hc hzz hsp bB b2
  have B1 : Hid _ := b1
  have HX : Hid _ := hX
  clear b1 hX
  go_region_law (refine step_copy_splice rfl (.tmp 9) (.tmp 10) 22 22 rfl 24 Tryd.underlying22 size26 _ _ _ _ _ _ rfl rfl (W.heap.size + 1 + 1) 0 z 139 H1.out c (by rw [hcl]; rfl) (fun _ => ⟨rfl, _, rfl, H2.out⟩) H4.out H3.out (W.heap.size + 2) X H5.out (Nat.le_refl _) ?_; intro w4 hg4 hb4)
  have F0 := HS.out w4 hg4.out
  have B4 := (Blk.below B1.out hb4 (by omega))
  have hW4 := HX.out.trans (hb4.mono (by omega))
  clear hg4 hb4 HS H1 H2 H3 H4 H5 B1 HX
  go_wp2
  go_loopw [4] (fun i wr => ∃ k : Nat, k ≤ 48 ∧ i = .int .i64 ((16 + k : Nat) : Int) ∧ Blk wr (W.heap.size + 1 + 1) .u32 139 (Sch B k) ∧ Blk wr (W.heap.size + 1) .u32 139 Z ∧ Below W.heap.size W wr) (fun i _ => 64 - (intOf i).toNat)
  case atStart => exact ⟨0, by decide, rfl, F0, B4, hW4⟩
  case round =>
    clear F0 B4 hW4
    obtain ⟨k, hk, rfl, F, B1, hb⟩ := hrel
    by_cases hlt : k < 48
    · have hl := Sch_length B hB k hk
      have g1 := Sch_getD B hB k (1 + k) (by omega)
      have g2 := Sch_getD B hB k (14 + k) (by omega)
      have g3 := Sch_getD B hB k (9 + k) (by omega)
      have g4 := Sch_getD B hB k k (by omega)
      have c1 := F.cell (1 + k) (by omega)
      have c2 := F.cell (14 + k) (by omega)
      have c3 := F.cell (9 + k) (by omega)
      have c4 := F.cell k (by omega)
      have c5 := F.cell (16 + k) (by omega)
      have f5 := F.free (16 + k)
      rw [g1] at c1
      rw [g2] at c2
      rw [g3] at c3
      rw [g4] at c4
      clear g1 g2 g3 g4
      have HN : ∀ u, u = S.next (S.sched B k) (16 + k) → _ := fun u hu => Sch_set B hB k hlt u hu
      unfold S.next at HN
      rw [show 16 + k - 2 = 14 + k by omega, show 16 + k - 7 = 9 + k by omega, show 16 + k - 15 = 1 + k by omega, show 16 + k - 16 = k by omega] at HN
      generalize (S.sched B k).getD (1 + k) 0 = x1 at *
      generalize (S.sched B k).getD (14 + k) 0 = x2 at *
      generalize (S.sched B k).getD (9 + k) 0 = x3 at *
      generalize (S.sched B k).getD k 0 = x4 at *
      generalize (Sch B k).getD (16 + k) 0 = x5 at *
      have HNN : Hid _ := HN
      have FF : Hid (Blk wr (W.heap.size + 1 + 1) .u32 139 (Sch B k)) := F
      have BB : Hid (Blk wr (W.heap.size + 1) .u32 139 Z) := B1
      have HB : Hid _ := hb
      have R : Hid (∀ (w : World) (x : Int) (z : Int) (k : Nat), z = k → 1 ≤ k → k ≤ 31 → Calls Tryd.prog 78 #[.int .u32 x, .int .i64 z] w fun e W' => e = .returned (.int .u32 (S.rot x k)) ∧ w = W') := rot_any
      have v1 : IntKind.i64.wrap (16 + (k : Int) - 15) = 1 + (k : Int) := by rw [IntKind.wrap_i64]; omega
      have v2 : IntKind.i64.wrap (16 + (k : Int) - 2) = 14 + (k : Int) := by rw [IntKind.wrap_i64]; omega
      have v3 : IntKind.i64.wrap (16 + (k : Int) - 7) = 9 + (k : Int) := by rw [IntKind.wrap_i64]; omega
      have v4 : IntKind.i64.wrap (16 + (k : Int) - 16) = (k : Int) := by rw [IntKind.wrap_i64]; omega
      have n1 : (1 + (k : Int)).toNat = 1 + k := by omega
      have n2 : (14 + (k : Int)).toNat = 14 + k := by omega
      have n3 : (9 + (k : Int)).toNat = 9 + k := by omega
      have n4 : (16 + (k : Int)).toNat = 16 + k := by omega
      clear HN F B1 hb
      go_wp2
      go_quiet (fail)
      go_wp2_with (first | (go_at_call_of 78 (Value.int .i64 7); refine (R.out _ _ _ 7 rfl (by decide) (by decide)).mono ?_; rintro en w' ⟨rfl, rfl⟩) | (go_at_call_of 78 (Value.int .i64 18); refine (R.out _ _ _ 18 rfl (by decide) (by decide)).mono ?_; rintro en w' ⟨rfl, rfl⟩) | (go_at_call_of 78 (Value.int .i64 17); refine (R.out _ _ _ 17 rfl (by decide) (by decide)).mono ?_; rintro en w' ⟨rfl, rfl⟩) | (go_at_call_of 78 (Value.int .i64 19); refine (R.out _ _ _ 19 rfl (by decide) (by decide)).mono ?_; rintro en w' ⟨rfl, rfl⟩))
      go_region
      go_wp2
      go_roundw
      case rel =>
        refine ⟨k + 1, by omega, by go_num, ?_, ?_, ?_⟩
        · have := ((FF.out.drewN nq).drew).set (16 + k) ((S.s1 x2 + x3 + S.s0 x1 + x4) % 4294967296)
          rw [HNN.out _ rfl] at this
          exact this
        · exact ((BB.out.drewN nq).drew).other _ (by omega)
        · exact ((below_drewN HB.out nq).drew).setCell (show W.heap.size ≤ W.heap.size + 1 + 1 by omega) _
      case measure => simp [intOf]; omega
    · obtain rfl : k = 48 := by omega
      rw [Sch_all] at F
      have FF : Hid (Blk wr (W.heap.size + 1 + 1) .u32 139 (S.sched B 48)) := F
      have BB : Hid (Blk wr (W.heap.size + 1) .u32 139 Z) := B1
      have HB : Hid _ := hb
      have hsl : (S.sched B 48).length = 64 := by rw [sched_length, hB]
      clear F B1 hb
      go_wp2_with (first | (refine wpList_load_blk rfl 139 _ rfl (W.heap.size + 1 + 1) (S.sched B 48) rfl FF.out Tryd.underlying139 (by rw [hsl]; exact size48) ?_) | (refine wpList_store_blk rfl 139 _ _ rfl (W.heap.size + 1) (S.sched B 48) rfl rfl BB.out (by rw [hsl]; exact size48) (by rw [hsl, hZl]) ?_))
      refine ret_cell rfl rfl (W.heap.size + 1) (S.sched B 48) rfl (BB.out.setRow _) Tryd.underlying139 (by rw [hsl]; exact size48) ⟨rfl, ?_⟩
      exact below_setRow HB.out (by omega) _
end Go.Proofs.YtmomidkodjihjaaDoor.H
