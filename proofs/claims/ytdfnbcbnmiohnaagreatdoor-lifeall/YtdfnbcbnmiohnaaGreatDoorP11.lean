import Derived.Test.YtdfnbcbnmiohnaaGreatDoorP09
namespace Go.Proofs.YtdfnbcbnmiohnaaGreatDoor.H
open Go.RowKit

def saveL (A : List Int) (n : Nat) (p : List Int) : List Int := (A ++ [(n : Int) / 4294967296, (n : Int) % 4294967296]) ++ (p ++ List.replicate (16 - p.length) 0)
theorem saveL_length (A : List Int) (n : Nat) (p : List Int) (hA : A.length = 8) (hp : p.length ≤ 16) : (saveL A n p).length = 26 := by simp [saveL, hA]; omega

attribute [-simp] Tryz.isAgg44 Tryz.sizeOf44 Tryz.zeroValue44
set_option maxRecDepth 20000 in
set_option maxHeartbeats 2000000 in
theorem save_any (W : World) (g : Nat) (A : List Int) (n : Nat) (p : List Int) (D : Dig W g A n p) :
    Calls Tryz.prog 56 #[.pointer (some ⟨g, 0, none⟩)] W fun e W' => e = .returned (.agg ((saveL A n p).map (Value.int .u32)).toArray) ∧ Below W.heap.size W W' := by
  obtain ⟨Z, hZ⟩ : ∃ Z : List Int, Z = List.replicate 26 0 := ⟨_, rfl⟩
  have hZl : Z.length = 26 := by rw [hZ]; simp
  have hz : ∀ w, (zeroValue 44).run Tryz.prog w = .ok (.agg (Z.map (Value.int .u32)).toArray) w := fun w => by rw [Tryz.zeroValue44, hZ]; rfl
  have HZ : Hid (Z = List.replicate 26 0) := hZ
  clear hZ
  have hgl := D.lt
  have al := D.al
  have hpl := D.pl
  have hp16 : p.length < 16 := by rw [hpl]; omega
  have i1 : (n : Int) ≤ 36028797018963968 := by have := D.nl; omega
  obtain ⟨t, ht⟩ : ∃ t, n % 16 = t := ⟨_, rfl⟩
  have hX : Below W.heap.size W ((W.alloc (Obj.cells (List.map (Value.int IntKind.u32) Z).toArray 44)).alloc (Obj.cells (List.map (Value.int IntKind.u32) Z).toArray 44)) := (below_one W _).alloc (by simp) _
  have b1 : Blk ((W.alloc (Obj.cells (List.map (Value.int IntKind.u32) Z).toArray 44)).alloc (Obj.cells (List.map (Value.int IntKind.u32) Z).toArray 44)) W.heap.size .u32 44 Z := (Blk.new W .u32 44 Z).alloc _
  have b2 : Blk ((W.alloc (Obj.cells (List.map (Value.int IntKind.u32) Z).toArray 44)).alloc (Obj.cells (List.map (Value.int IntKind.u32) Z).toArray 44)) (W.heap.size + 1) .u32 44 Z := Blk.newAt (by simp) .u32 44 Z
  go_enter Tryz.func56, Tryz.ntmps56
  go_wp2
  generalize (W.alloc _).alloc _ = X at *
  have hsp : splice (Z.map (Value.int .u32)) 0 (A.map (Value.int .u32)) = (A ++ List.replicate 18 0).map (Value.int .u32) := by
    rw [HZ.out]; simp [splice, al]
  obtain ⟨c, hc⟩ : ∃ c, c = A.map (Value.int .u32) := ⟨_, rfl⟩
  obtain ⟨z, hzz⟩ : ∃ z, z = Z.map (Value.int .u32) := ⟨_, rfl⟩
  have hcl : c.length = 8 := by rw [hc]; simp [al]
  have HS : Hid (∀ w, w.heap[W.heap.size + 1]? = some (.cells (splice z 0 c).toArray 44 (0, 0)) → Blk w (W.heap.size + 1) .u32 44 (A ++ List.replicate 18 0)) := fun w h => by
    rw [hc, hzz, hsp] at h
    exact h
  have rA := (D.below hX hgl).rowA
  have H1 : Hid (X.drew.heap[W.heap.size + 1]? = some (.cells z.toArray 44 (0, 0))) := by rw [hzz]; exact b2
  have H2 : Hid (∀ j v, c[j]? = some v → X.drew.cell? ((⟨g, 0, none⟩ : Addr).add j) = some v) := fun j v hv => by
    rw [hc] at hv
    rw [Addr.add_mid]
    exact (rA.drewN 1).range j v hv
  have H3 : Hid (∀ v ∈ c, v.oneCell' = true) := by rw [hc]; exact ints_oneCell _ _
  have H4 : Hid (0 + c.length ≤ z.length) := by rw [hzz]; show _ ≤ _; simp [hcl, hZl]
  have H5 : Hid (Below (W.heap.size + 1) X X.drew) := (Below.refl _ _).drew
  have B1 : Hid (Blk X W.heap.size .u32 44 Z) := b1
  have HX : Hid (Below W.heap.size W X) := hX
  clear hc hzz hsp b1 b2 hX rA
  go_region_law (refine step_copy_splice rfl (.tmp 4) (.tmp 8) 51 51 rfl 43 Tryz.underlying51 size26 _ _ _ _ _ _ rfl rfl (W.heap.size + 1) 0 z 44 H1.out c (by rw [hcl]; rfl) (fun _ => ⟨rfl, _, rfl, H2.out⟩) H4.out H3.out (W.heap.size + 1) X H5.out (Nat.le_refl _) ?_; intro w4 hg4 hb4)
  have F0 := HS.out w4 hg4.out
  have B4 := (Blk.below B1.out hb4 (by omega))
  have hW4 := HX.out.trans (hb4.mono (by omega))
  have D4 := D.below hW4 hgl
  clear hg4 hb4 HS H1 H2 H3 H4 H5 B1 HX
  obtain ⟨hh, hhh⟩ : ∃ x, x = (n : Int) / 4294967296 := ⟨_, rfl⟩
  obtain ⟨ll, hll⟩ : ∃ x, x = (n : Int) % 4294967296 := ⟨_, rfl⟩
  have HIGH : Hid (∀ w, Calls Tryz.prog 102 #[.int .u64 (n : Int)] w fun e W' => e = .returned (.int .u32 hh) ∧ w = W') := by rw [hhh]; exact fun w => high_any w n (by omega) (by omega)
  have LOW : Hid (∀ w, Calls Tryz.prog 103 #[.int .u64 (n : Int)] w fun e W' => e = .returned (.int .u32 ll) ∧ w = W') := by rw [hll]; exact fun w => low_any w n
  have HHH : Hid (hh = (n : Int) / 4294967296 ∧ ll = (n : Int) % 4294967296) := ⟨hhh, hll⟩
  clear hhh hll
  have l26 : (A ++ List.replicate 18 (0 : Int)).length = 26 := by simp [al]
  have c8 := F0.cell 8 (by omega)
  have f8 := F0.free 8
  have F1 := F0.set 8 hh
  have c9 := F1.cell 9 (by simp [al])
  have f9 := F1.free 9
  have F2 := F1.set 9 ll
  have cn := D4.cellN
  have cn' : (w4.setCell ⟨W.heap.size + 1, 8, none⟩ (.int .u32 hh)).cell? ⟨g, 8, none⟩ = some (.int .i64 (n : Int)) := by
    rw [World.cell?_setCell_far _ _ _ _ (show W.heap.size + 1 ≠ g by omega)]; exact cn
  have e2 : ((A ++ List.replicate 18 0).set 8 hh).set 9 ll = (A ++ [hh, ll]) ++ List.replicate 16 0 := by
    rw [List.set_append_right _ _ (by omega), List.set_append_right _ _ (by omega), al, List.append_assoc]
    rfl
  rw [e2] at F2
  have B6 := (B4.other (b := W.heap.size + 1) (j := 8) (.int .u32 hh) (by omega)).other (b := W.heap.size + 1) (j := 9) (.int .u32 ll) (by omega)
  have hW6 : Below W.heap.size W ((w4.setCell ⟨W.heap.size + 1, 8, none⟩ (.int .u32 hh)).setCell ⟨W.heap.size + 1, 9, none⟩ (.int .u32 ll)) := (hW4.setCell (show W.heap.size ≤ W.heap.size + 1 by omega) _).setCell (show W.heap.size ≤ W.heap.size + 1 by omega) _
  have F2' : Hid (Blk ((w4.setCell ⟨W.heap.size + 1, 8, none⟩ (.int .u32 hh)).setCell ⟨W.heap.size + 1, 9, none⟩ (.int .u32 ll)) (W.heap.size + 1) .u32 44 ((A ++ [hh, ll]) ++ List.replicate 16 0)) := F2
  have B6' : Hid (Blk ((w4.setCell ⟨W.heap.size + 1, 8, none⟩ (.int .u32 hh)).setCell ⟨W.heap.size + 1, 9, none⟩ (.int .u32 ll)) W.heap.size .u32 44 Z) := B6
  have HW6 : Hid (Below W.heap.size W ((w4.setCell ⟨W.heap.size + 1, 8, none⟩ (.int .u32 hh)).setCell ⟨W.heap.size + 1, 9, none⟩ (.int .u32 ll))) := hW6
  generalize (A ++ List.replicate 18 0).getD 8 0 = y8 at *
  generalize ((A ++ List.replicate 18 0).set 8 hh).getD 9 0 = y9 at *
  clear F0 F1 F2 B4 hW4 B6 hW6 e2 l26 D4
  go_wp2_with (first | (go_at_call 102; refine (HIGH.out _).mono ?_; rintro en w' ⟨rfl, rfl⟩) | (go_at_call 103; refine (LOW.out _).mono ?_; rintro en w' ⟨rfl, rfl⟩))
  generalize (w4.setCell ⟨W.heap.size + 1, 8, none⟩ (.int .u32 hh)).setCell ⟨W.heap.size + 1, 9, none⟩ (.int .u32 ll) = w6 at *
  have hW6 := HW6.out
  have D6 := D.below hW6 hgl
  rw [ht] at hpl
  have WT : Hid (Calls Tryz.prog 104 #[.pointer (some ⟨g, 0, none⟩)] w6.drew fun e W' => e = .returned (.slice (some ⟨g, 9, none⟩) t t) ∧ w6.drew = W') := by
    have := waiting_any w6.drew g A n p (D6.below (Below.refl w6.heap.size w6).drew D6.lt)
    rwa [ht] at this
  obtain ⟨c, hc⟩ : ∃ c, c = p.map (Value.int .u32) := ⟨_, rfl⟩
  obtain ⟨z, hzz⟩ : ∃ z, z = ((A ++ [hh, ll]) ++ List.replicate 16 0).map (Value.int .u32) := ⟨_, rfl⟩
  have hcl : c.length = t := by rw [hc]; simp [hpl]
  have htl : t < 16 := by omega
  have hsp : splice z 10 c = (saveL A n p).map (Value.int .u32) := by
    rw [hzz, hc]
    unfold splice saveL
    rw [← HHH.out.1, ← HHH.out.2]
    rw [List.map_append (l₁ := A ++ [hh, ll]), List.map_append (l₁ := A ++ [hh, ll]), List.map_append (l₁ := p), List.map_replicate, List.map_replicate, List.length_map]
    have hl10 : ((A ++ [hh, ll]).map (Value.int .u32)).length = 10 := by simp [al]
    generalize (A ++ [hh, ll]).map (Value.int .u32) = Y at *
    rw [List.take_append_of_le_length (by omega), List.take_of_length_le (by omega), List.drop_append, List.drop_eq_nil_of_le (by omega), hl10, List.nil_append, List.drop_replicate, show 16 - (10 + p.length - 10) = 16 - p.length by omega]
  have H1 : Hid (w6.drew.heap[W.heap.size + 1]? = some (.cells z.toArray 44 (0, 0))) := by rw [hzz]; exact F2'.out
  have rP := D6.rowP
  have H2 : Hid (∀ j v, c[j]? = some v → w6.drew.cell? ((⟨g, 9, none⟩ : Addr).add j) = some v) := fun j v hv => by
    rw [hc] at hv
    rw [Addr.add_mid]
    exact (rP.drewN 1).range j v hv
  have H3 : Hid (∀ v ∈ c, v.oneCell' = true) := by rw [hc]; exact ints_oneCell _ _
  have H4 : Hid (10 + c.length ≤ z.length) := by rw [hzz, hcl]; show _ ≤ _; simp [al]; omega
  have H5 : Hid (Below (W.heap.size + 1) w6 w6.drew) := (Below.refl _ _).drew
  have H6 : Hid (c.length = Nat.min t 16) := by rw [hcl]; show t = min t 16; omega
  have HS : Hid (∀ w, w.heap[W.heap.size + 1]? = some (.cells (splice z 10 c).toArray 44 (0, 0)) → Blk w (W.heap.size + 1) .u32 44 (saveL A n p)) := fun w h => by
    rw [hsp] at h
    exact h
  have hMl : (saveL A n p).length = 26 := saveL_length A n p al (by omega)
  generalize hM : saveL A n p = M at *
  have HM : Hid (saveL A n p = M) := hM
  clear hM
  clear hc hzz hsp rP D6 hW6 D
  go_region_held3 (fun _ => True) (trivial) (first | (go_at_call 104; refine WT.out.mono ?_; rintro en w' ⟨rfl, rfl⟩) | (refine step_copy_splice (by rfl) (.tmp 24) (.tmp 26) 51 51 (by rfl) 43 Tryz.underlying51 size26 _ _ _ _ _ _ (by rfl) (by rfl) (W.heap.size + 1) 10 z 44 H1.out c H6.out (fun _ => ⟨rfl, _, rfl, H2.out⟩) H4.out H3.out (W.heap.size + 1) w6 H5.out (Nat.le_refl _) ?_; intro w7 hg7 hb7))
  have F7 : Hid (Blk w7 (W.heap.size + 1) .u32 44 M) := HS.out _ hg7.out
  have B7 : Hid (Blk w7 W.heap.size .u32 44 Z) := B6'.out.below hb7 (by omega)
  have HW7 : Hid (Below W.heap.size W w7) := HW6.out.trans (hb7.mono (by omega))
  clear hg7 hb7 HS H1 H2 H3 H4 H5 H6 F2' B6' HW6 WT
  go_wp2_with (first | (refine wpList_load_blk rfl 44 _ rfl (W.heap.size + 1) M rfl F7.out Tryz.underlying44 (by rw [hMl]; exact size40) ?_) | (refine wpList_store_blk rfl 44 _ _ rfl W.heap.size M rfl rfl B7.out (by rw [hMl]; exact size40) (by rw [hZl, hMl]) ?_))
  refine ret_cell rfl rfl W.heap.size M rfl (B7.out.setRow _) Tryz.underlying44 (by rw [hMl]; exact size40) ?_
  rw [HM.out]
  exact ⟨rfl, below_setRow HW7.out (Nat.le_refl _) _⟩
end Go.Proofs.YtdfnbcbnmiohnaaGreatDoor.H
