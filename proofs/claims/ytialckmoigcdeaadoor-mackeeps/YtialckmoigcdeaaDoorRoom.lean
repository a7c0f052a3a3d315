/- The law's roomy lists, and whether a list is as it was. -/
import Derived.Test.YtialckmoigcdeaaDoorP1
namespace Go.Proofs.YtialckmoigcdeaaDoor
open Go.RowKit


def roomWD (xs : List Int) (t : Nat) : List Int := (65261 :: xs) ++ List.replicate t 48879
theorem roomWD_length (xs : List Int) (t : Nat) : (roomWD xs t).length = xs.length + 1 + t := by simp [roomWD]; omega
set_option maxRecDepth 20000 in
set_option maxHeartbeats 1000000 in
theorem roomW_any (W : World) (ao : Option Addr) (n c : Nat) (xs : List Int) (hx : xs.length = n) (hat : At W .u32 ao xs) (hs : Sl ao c) (hn : n * 4 ≤ 140737488351232) :
    Calls Tryd.prog 20 #[.slice ao n c] W fun e W' => ∃ v, e = .returned v ∧ Holds W W' .u32 25 v (roomWD xs 200) := by
  obtain ⟨i0, hi, hz0, hz1, hz2⟩ := info_parts Tryd.info25
  have H0 : Hid (Holds W (W.alloc (Obj.cells #[.int .u32 65261] 25)) .u32 25 (.slice (some ⟨W.heap.size, 0, none⟩) 1 1) [65261]) := ⟨World.ownsRow_lit (base := W.heap.size) (e := 25) (size := 1) W #[.int .u32 65261] 1 (Nat.le_refl _) (by decide) rfl, below_one W _⟩
  have HA : Hid (At (W.alloc (Obj.cells #[.int .u32 65261] 25)) .u32 ao xs) := hat.below (below_one W _)
  have HS : Hid (Sl ao c) := hs
  have HX : Hid (xs.length = n) := hx
  have h63 : ([65261] : List Int).length + n ≤ maxLen := by unfold maxLen; simp; omega
  have hby : (([65261] : List Int).length + n) * 4 ≤ 140737488355328 := by simp; omega
  have N0 : Hid (∀ w v, Holds W w .u32 25 v ([65261] ++ xs) → Holds W w .u32 25 v (roomWD xs 0)) := fun w v h => by unfold roomWD; simpa using h
  clear hat hs
  go_enter Tryd.func20, Tryd.ntmps20
  go_wp2_with (first | (at_builtin; refine wpList_append_at (W := W) rfl _ _ 35 rfl .u32 25 i0 (.int .u32 0) 4 Tryd.underlying35 hi hz0 hz1 hz2 rfl (.slice (some ⟨W.heap.size, 0, none⟩) 1 1) [65261] rfl H0.out ao n c xs rfl HX.out HA.out HS.out h63 hby ?_; intro v1 w1 G1; have G1' : Hid _ := N0.out _ _ G1; clear G1))
  clear H0 HA HS h63 hby N0
  go_loopw [3, 4] (fun v i wr => ∃ s : Nat, s ≤ 200 ∧ i = .int .i64 (s : Int) ∧ Holds W wr .u32 25 v (roomWD xs s)) (fun _ i _ => 200 - (intOf i).toNat)
  case atStart => exact ⟨0, Nat.zero_le _, rfl, G1'.out⟩
  case round =>
    clear G1'
    obtain ⟨s, hs, rfl, F⟩ := hrel
    by_cases hlt : s < 200
    · have i1 : (s : Int) < 200 := by omega
      have F' : Hid (Holds W wr .u32 25 u3 (roomWD xs s)) := F
      have hl := roomWD_length xs s
      have h63 : (roomWD xs s).length + 1 ≤ maxLen := by rw [hl]; unfold maxLen; omega
      have hby : ((roomWD xs s).length + 1) * 4 ≤ 140737488355328 := by rw [hl]; omega
      have NN : Hid (∀ w v, Holds W w .u32 25 v (roomWD xs s ++ [48879]) → Holds W w .u32 25 v (roomWD xs (s + 1))) := fun w v h => by
        unfold roomWD at h ⊢
        rw [List.append_assoc, ← List.replicate_succ'] at h
        exact h
      clear F hl hlt
      generalize roomWD xs s = L at *
      go_wp2_with (first | (at_builtin; refine wpList_append_at (W := W) rfl _ _ 35 rfl .u32 25 i0 (.int .u32 0) 4 Tryd.underlying35 hi hz0 hz1 hz2 rfl u3 L rfl (F'.out.alloc _) (some ⟨wr.heap.size, 0, none⟩) 1 1 [48879] rfl rfl (Blk.new wr .u32 25 [48879]).at (fun h => by cases h) h63 hby ?_; intro v2 w2 G2; have G2' : Hid _ := NN.out _ _ G2; clear G2))
      go_roundw
      case rel => exact ⟨s + 1, by omega, by go_num, G2'.out⟩
      case measure => simp [intOf]; omega
    · obtain rfl : s = 200 := by omega
      have F' : Hid (Holds W wr .u32 25 u3 (roomWD xs 200)) := F
      clear F
      go_wp2
      go_ret
      exact ⟨_, rfl, F'.out⟩

def roomBD (xs : List Int) (t : Nat) : List Int := (254 :: xs) ++ List.replicate t 190
theorem roomBD_length (xs : List Int) (t : Nat) : (roomBD xs t).length = xs.length + 1 + t := by simp [roomBD]; omega
set_option maxRecDepth 20000 in
set_option maxHeartbeats 1000000 in
theorem roomB_any (W : World) (ao : Option Addr) (n c : Nat) (xs : List Int) (hx : xs.length = n) (hat : At W .u8 ao xs) (hs : Sl ao c) (hn : n * 1 ≤ 140737488351232) :
    Calls Tryd.prog 21 #[.slice ao n c] W fun e W' => ∃ v, e = .returned v ∧ Holds W W' .u8 5 v (roomBD xs 400) := by
  obtain ⟨i0, hi, hz0, hz1, hz2⟩ := info_parts Tryd.info5
  have H0 : Hid (Holds W (W.alloc (Obj.cells #[.int .u8 254] 5)) .u8 5 (.slice (some ⟨W.heap.size, 0, none⟩) 1 1) [254]) := ⟨World.ownsRow_lit (base := W.heap.size) (e := 5) (size := 1) W #[.int .u8 254] 1 (Nat.le_refl _) (by decide) rfl, below_one W _⟩
  have HA : Hid (At (W.alloc (Obj.cells #[.int .u8 254] 5)) .u8 ao xs) := hat.below (below_one W _)
  have HS : Hid (Sl ao c) := hs
  have HX : Hid (xs.length = n) := hx
  have h63 : ([254] : List Int).length + n ≤ maxLen := by unfold maxLen; simp; omega
  have hby : (([254] : List Int).length + n) * 1 ≤ 140737488355328 := by simp; omega
  have N0 : Hid (∀ w v, Holds W w .u8 5 v ([254] ++ xs) → Holds W w .u8 5 v (roomBD xs 0)) := fun w v h => by unfold roomBD; simpa using h
  clear hat hs
  go_enter Tryd.func21, Tryd.ntmps21
  go_wp2_with (first | (at_builtin; refine wpList_append_at (W := W) rfl _ _ 22 rfl .u8 5 i0 (.int .u8 0) 1 Tryd.underlying22 hi hz0 hz1 hz2 rfl (.slice (some ⟨W.heap.size, 0, none⟩) 1 1) [254] rfl H0.out ao n c xs rfl HX.out HA.out HS.out h63 hby ?_; intro v1 w1 G1; have G1' : Hid _ := N0.out _ _ G1; clear G1))
  clear H0 HA HS h63 hby N0
  go_loopw [3, 4] (fun v i wr => ∃ s : Nat, s ≤ 400 ∧ i = .int .i64 (s : Int) ∧ Holds W wr .u8 5 v (roomBD xs s)) (fun _ i _ => 400 - (intOf i).toNat)
  case atStart => exact ⟨0, Nat.zero_le _, rfl, G1'.out⟩
  case round =>
    clear G1'
    obtain ⟨s, hs, rfl, F⟩ := hrel
    by_cases hlt : s < 400
    · have i1 : (s : Int) < 400 := by omega
      have F' : Hid (Holds W wr .u8 5 u3 (roomBD xs s)) := F
      have hl := roomBD_length xs s
      have h63 : (roomBD xs s).length + 1 ≤ maxLen := by rw [hl]; unfold maxLen; omega
      have hby : ((roomBD xs s).length + 1) * 1 ≤ 140737488355328 := by rw [hl]; omega
      have NN : Hid (∀ w v, Holds W w .u8 5 v (roomBD xs s ++ [190]) → Holds W w .u8 5 v (roomBD xs (s + 1))) := fun w v h => by
        unfold roomBD at h ⊢
        rw [List.append_assoc, ← List.replicate_succ'] at h
        exact h
      clear F hl hlt
      generalize roomBD xs s = L at *
      go_wp2_with (first | (at_builtin; refine wpList_append_at (W := W) rfl _ _ 22 rfl .u8 5 i0 (.int .u8 0) 1 Tryd.underlying22 hi hz0 hz1 hz2 rfl u3 L rfl (F'.out.alloc _) (some ⟨wr.heap.size, 0, none⟩) 1 1 [190] rfl rfl (Blk.new wr .u8 5 [190]).at (fun h => by cases h) h63 hby ?_; intro v2 w2 G2; have G2' : Hid _ := NN.out _ _ G2; clear G2))
      go_roundw
      case rel => exact ⟨s + 1, by omega, by go_num, G2'.out⟩
      case measure => simp [intOf]; omega
    · obtain rfl : s = 400 := by omega
      have F' : Hid (Holds W wr .u8 5 u3 (roomBD xs 400)) := F
      clear F
      go_wp2
      go_ret
      exact ⟨_, rfl, F'.out⟩

set_option maxRecDepth 20000 in
set_option maxHeartbeats 1000000 in
theorem as_any (W : World) (ab af bb bf n ca cb : Nat) (xs : List Int) (hx : xs.length = n) (ha : Row W .u32 ab af xs) (hab : ab < W.heap.size) (hb : Row W .u32 bb bf xs) (hbb : bb < W.heap.size) (hn : n ≤ 140737488355328) :
    Calls Tryd.prog 22 #[.slice (some ⟨ab, af, none⟩) n ca, .slice (some ⟨bb, bf, none⟩) n cb] W fun e W' => e = .returned (.bool true) ∧ Below W.heap.size W W' := by
  have i1 : (n : Int) ≤ 140737488355328 := by omega
  go_enter Tryd.func22, Tryd.ntmps22
  go_wp2_with fail
  go_loopw [5] (fun j wr => ∃ s : Nat, s ≤ n ∧ j = .int .i64 (s : Int) ∧ Below W.heap.size W wr) (fun j _ => n - (intOf j).toNat)
  case atStart => exact ⟨0, Nat.zero_le _, rfl, Below.refl _ _⟩
  case round =>
    obtain ⟨s, hs, rfl, hbw⟩ := hrel
    have BW : Hid (Below W.heap.size W wr) := hbw
    clear hbw
    by_cases hlt : s < n
    · have j1 : (s : Int) < (n : Int) := by omega
      have CA : Hid (∀ w, Below W.heap.size W w → w.cell? ⟨ab, af + s, none⟩ = some (.int .u32 (xs.getD s 0))) := fun w h => (ha.below h hab) s (by omega)
      have CB : Hid (∀ w, Below W.heap.size W w → w.cell? ⟨bb, bf + s, none⟩ = some (.int .u32 (xs.getD s 0))) := fun w h => (hb.below h hbb) s (by omega)
      generalize xs.getD s 0 = x at *
      go_wp2_with fail
      refine wp_region_held_drew (S := fun w => Below W.heap.size W w) (by kernel_rfl) BW.out.drew (fun hHeld => ?_)
      refine wpAnyH_take (i := 0) (oi := { dst := some 17, op := Op.move (Operand.tmp 0), type := 35, pos := "outright.go:145", after := #[], guard := none }) (v := .slice (some ⟨ab, af, none⟩) n ca) rfl (by kernel_rfl) (by kernel_rfl) (by kernel_rfl) (fun _ _ _ h => h) (Or.inl ⟨by rfl, by intro w hSw; go_simp⟩) (by assumption) ?_
      simp only [Act.put, List.setIfInBounds_toArray, List.set_cons_zero, List.set_cons_succ]
      refine wpAnyH_take (i := 1) (oi := { dst := some 18, op := Op.move (Operand.tmp 5), type := 3, pos := "outright.go:145", after := #[], guard := none }) (v := .int .i64 (s : Int)) rfl (by kernel_rfl) (by kernel_rfl) (by kernel_rfl) (fun _ _ _ h => h) (Or.inl ⟨by rfl, by intro w hSw; go_simp⟩) (by assumption) ?_
      simp only [Act.put, List.setIfInBounds_toArray, List.set_cons_zero, List.set_cons_succ]
      refine wpAnyH_take (i := 2) (oi := { dst := some 19, op := Op.indexAddr 35 (Operand.tmp 17) (Operand.tmp 18), type := 0, pos := "outright.go:145", after := #[{ on := 0, ground := Ground.data }, { on := 1, ground := Ground.data }], guard := none }) (v := .pointer (some ⟨ab, af + s, none⟩)) rfl (by kernel_rfl) (by kernel_rfl) (by kernel_rfl) (fun _ _ _ h => h) (Or.inl ⟨by rfl, by intro w hSw; go_simp⟩) (by assumption) ?_
      simp only [Act.put, List.setIfInBounds_toArray, List.set_cons_zero, List.set_cons_succ]
      refine wpAnyH_take (i := 3) (oi := { dst := some 20, op := Op.load 25 (Operand.tmp 19), type := 25, pos := "outright.go:145", after := #[{ on := 2, ground := Ground.data }], guard := none }) (v := .int .u32 x) rfl (by kernel_rfl) (by kernel_rfl) (by kernel_rfl) (fun _ _ _ h => h) (Or.inl ⟨by rfl, by intro w hSw; have hcc := CA.out w hSw; go_simp⟩) (by assumption) ?_
      simp only [Act.put, List.setIfInBounds_toArray, List.set_cons_zero, List.set_cons_succ]
      refine wpAnyH_take (i := 4) (oi := { dst := some 21, op := Op.move (Operand.tmp 1), type := 35, pos := "outright.go:145", after := #[], guard := none }) (v := .slice (some ⟨bb, bf, none⟩) n cb) rfl (by kernel_rfl) (by kernel_rfl) (by kernel_rfl) (fun _ _ _ h => h) (Or.inl ⟨by rfl, by intro w hSw; go_simp⟩) (by assumption) ?_
      simp only [Act.put, List.setIfInBounds_toArray, List.set_cons_zero, List.set_cons_succ]
      refine wpAnyH_take (i := 5) (oi := { dst := some 22, op := Op.move (Operand.tmp 5), type := 3, pos := "outright.go:145", after := #[], guard := none }) (v := .int .i64 (s : Int)) rfl (by kernel_rfl) (by kernel_rfl) (by kernel_rfl) (fun _ _ _ h => h) (Or.inl ⟨by rfl, by intro w hSw; go_simp⟩) (by assumption) ?_
      simp only [Act.put, List.setIfInBounds_toArray, List.set_cons_zero, List.set_cons_succ]
      refine wpAnyH_take (i := 6) (oi := { dst := some 23, op := Op.indexAddr 35 (Operand.tmp 21) (Operand.tmp 22), type := 0, pos := "outright.go:145", after := #[{ on := 4, ground := Ground.data }, { on := 5, ground := Ground.data }], guard := none }) (v := .pointer (some ⟨bb, bf + s, none⟩)) rfl (by kernel_rfl) (by kernel_rfl) (by kernel_rfl) (fun _ _ _ h => h) (Or.inl ⟨by rfl, by intro w hSw; go_simp⟩) (by assumption) ?_
      simp only [Act.put, List.setIfInBounds_toArray, List.set_cons_zero, List.set_cons_succ]
      refine wpAnyH_take (i := 7) (oi := { dst := some 24, op := Op.load 25 (Operand.tmp 23), type := 25, pos := "outright.go:145", after := #[{ on := 6, ground := Ground.data }], guard := none }) (v := .int .u32 x) rfl (by kernel_rfl) (by kernel_rfl) (by kernel_rfl) (fun _ _ _ h => h) (Or.inl ⟨by rfl, by intro w hSw; have hcc := CB.out w hSw; go_simp⟩) (by assumption) ?_
      simp only [Act.put, List.setIfInBounds_toArray, List.set_cons_zero, List.set_cons_succ]
      refine wpAnyH_take (i := 8) (oi := { dst := some 25, op := Op.binOp BinOp.neq 25 (Operand.tmp 20) (Operand.tmp 24) 25, type := 4, pos := "outright.go:145", after := #[{ on := 3, ground := Ground.data }, { on := 7, ground := Ground.data }], guard := none }) (v := .bool false) rfl (by kernel_rfl) (by kernel_rfl) (by kernel_rfl) (fun _ _ _ h => h) (Or.inl ⟨by rfl, by intro w hSw; go_simp⟩) (by assumption) ?_
      simp only [Act.put, List.setIfInBounds_toArray, List.set_cons_zero, List.set_cons_succ]
      refine wpAnyH_done (by kernel_rfl) ?_ _
      have BD : Hid (Below W.heap.size W wr.drew) := BW.out.drew
      clear hHeld CA CB BW
      generalize wr.drew = y at *
      go_wp2_with fail
      go_roundw
      case rel => exact ⟨s + 1, by omega, by go_num, BD.out⟩
      case measure => simp [intOf]; omega
    · have j1 : (n : Int) ≤ (s : Int) := by omega
      go_wp2_with fail
      go_ret
      exact ⟨rfl, BW.out⟩
end Go.Proofs.YtialckmoigcdeaaDoor
