import Derived.Test.YtjkkelkblccolaaDoorBackPre
namespace Go.Proofs.YtjkkelkblccolaaDoor
open Go.RowKit

def markW (t : Nat) : List Int := (List.range t).map fun (i : Nat) => 3237998080 + (i : Int)
def markB (t : Nat) : List Int := (List.range t).map fun (i : Nat) => (192 + (i : Int)) % 256
theorem markW_succ (t : Nat) : markW (t + 1) = markW t ++ [3237998080 + (t : Int)] := by simp [markW, List.range_succ]
theorem markB_succ (t : Nat) : markB (t + 1) = markB t ++ [(192 + (t : Int)) % 256] := by simp [markB, List.range_succ]
theorem markW_length (t : Nat) : (markW t).length = t := by simp [markW]
theorem markB_length (t : Nat) : (markB t).length = t := by simp [markB]
set_option maxRecDepth 20000 in
set_option maxHeartbeats 1000000 in
theorem lent_any (W : World) (ao : Option Addr) (n c : Nat) (xs : List Int) (hx : xs.length = n) (hat : At W .u32 ao xs) (hn : 4 * n ≤ 140737488351232) :
    Calls Tryd.prog 28 #[.slice ao n c] W fun e W' => ∃ v, e = .returned v ∧ Holds W W' .u32 26 v (xs ++ markW 120) := by
  obtain ⟨i0, hi, hz0, hz1, hz2⟩ := info_parts Tryd.info26
  have h63 : n ≤ maxLen := by unfold maxLen; omega
  have hby : n * 4 ≤ 140737488355328 := by omega
  go_enter Tryd.func28, Tryd.ntmps28
  go_wp2_with (first | (at_builtin; refine wpList_append_new rfl _ _ 23 rfl .u32 26 i0 (.int .u32 0) 4 Tryd.underlying23 hi hz0 hz1 hz2 rfl rfl ao n c xs rfl hx hat h63 hby ?_; intro v1 w1 H1))
  clear h63 hby
  go_loopw [3, 4] (fun v i wr => ∃ k : Nat, k ≤ 120 ∧ i = .int .i64 k ∧ Holds W wr .u32 26 v (xs ++ markW k)) (fun _ i _ => 120 - (intOf i).toNat)
  case atStart => exact ⟨0, Nat.zero_le _, rfl, by simpa [markW] using H1⟩
  case round =>
    clear H1
    obtain ⟨k, hk, rfl, F⟩ := hrel
    have hl : (xs ++ markW k).length = n + k := by rw [List.length_append, hx, markW_length]
    by_cases hlt : k < 120
    · have F' : Hid (Holds W wr .u32 26 u3 (xs ++ markW k)) := F
      have FF : Hid (∀ v' w', Holds W w' .u32 26 v' ((xs ++ markW k) ++ [3237998080 + (k : Int)]) → Holds W w' .u32 26 v' (xs ++ markW (k + 1))) := fun v' w' h => by rw [markW_succ, ← List.append_assoc]; exact h
      have h63 : (xs ++ markW k).length + 1 ≤ maxLen := by rw [hl]; unfold maxLen; omega
      have hby : ((xs ++ markW k).length + 1) * 4 ≤ 140737488355328 := by rw [hl]; omega
      clear F hl hn
      go_wp2_with (first | (at_builtin; refine wpList_append_more (W := W) rfl _ _ 23 rfl .u32 26 i0 (.int .u32 0) 4 Tryd.underlying23 hi hz0 hz1 hz2 rfl u3 _ rfl (F'.out.alloc _) wr.heap.size 1 1 [3237998080 + (k : Int)] rfl rfl (row_new _ _ _ _ _ rfl) h63 hby ?_; intro v' w2 H2; have H2' : Hid _ := FF.out _ _ H2; clear H2))
      go_roundw
      case rel => exact ⟨k + 1, by omega, by go_num, H2'.out⟩
      case measure => simp [intOf]; omega
    · obtain rfl : k = 120 := by omega
      have HH : Hid (Holds W wr .u32 26 u3 (xs ++ markW 120)) := F
      clear F
      go_wp2
      go_ret
      exact ⟨_, rfl, HH.out⟩
set_option maxRecDepth 20000 in
set_option maxHeartbeats 1000000 in
theorem lentBytes_any (W : World) (ao : Option Addr) (n c : Nat) (xs : List Int) (hx : xs.length = n) (hat : At W .u8 ao xs) (hn : n ≤ 140737488351232) :
    Calls Tryd.prog 29 #[.slice ao n c] W fun e W' => ∃ v, e = .returned v ∧ Holds W W' .u8 5 v (xs ++ markB 200) := by
  obtain ⟨i0, hi, hz0, hz1, hz2⟩ := info_parts Tryd.info5
  have h63 : n ≤ maxLen := by unfold maxLen; omega
  have hby : n * 1 ≤ 140737488355328 := by omega
  go_enter Tryd.func29, Tryd.ntmps29
  go_wp2_with (first | (at_builtin; refine wpList_append_new rfl _ _ 22 rfl .u8 5 i0 (.int .u8 0) 1 Tryd.underlying22 hi hz0 hz1 hz2 rfl rfl ao n c xs rfl hx hat h63 hby ?_; intro v1 w1 H1))
  clear h63 hby
  go_loopw [3, 4] (fun v i wr => ∃ k : Nat, k ≤ 200 ∧ i = .int .i64 k ∧ Holds W wr .u8 5 v (xs ++ markB k)) (fun _ i _ => 200 - (intOf i).toNat)
  case atStart => exact ⟨0, Nat.zero_le _, rfl, by simpa [markB] using H1⟩
  case round =>
    clear H1
    obtain ⟨k, hk, rfl, F⟩ := hrel
    have hl : (xs ++ markB k).length = n + k := by rw [List.length_append, hx, markB_length]
    by_cases hlt : k < 200
    · have F' : Hid (Holds W wr .u8 5 u3 (xs ++ markB k)) := F
      have FF : Hid (∀ v' w', Holds W w' .u8 5 v' ((xs ++ markB k) ++ [(192 + (k : Int)) % 256]) → Holds W w' .u8 5 v' (xs ++ markB (k + 1))) := fun v' w' h => by rw [markB_succ, ← List.append_assoc]; exact h
      have h63 : (xs ++ markB k).length + 1 ≤ maxLen := by rw [hl]; unfold maxLen; omega
      have hby : ((xs ++ markB k).length + 1) * 1 ≤ 140737488355328 := by rw [hl]; omega
      clear F hl hn
      go_wp2_with (first | (at_builtin; refine wpList_append_more (W := W) rfl _ _ 22 rfl .u8 5 i0 (.int .u8 0) 1 Tryd.underlying22 hi hz0 hz1 hz2 rfl u3 _ rfl (F'.out.alloc _) wr.heap.size 1 1 [(192 + (k : Int)) % 256] rfl rfl (row_new _ _ _ _ _ rfl) h63 hby ?_; intro v' w2 H2; have H2' : Hid _ := FF.out _ _ H2; clear H2))
      go_roundw
      case rel => exact ⟨k + 1, by omega, by go_num, H2'.out⟩
      case measure => simp [intOf]; omega
    · obtain rfl : k = 200 := by omega
      have HH : Hid (Holds W wr .u8 5 u3 (xs ++ markB 200)) := F
      clear F
      go_wp2
      go_ret
      exact ⟨_, rfl, HH.out⟩
set_option maxRecDepth 20000 in
theorem whole_yes (W : World) (al : Option Addr) (c1 : Nat) (ao : Option Addr) (n c : Nat) (xs : List Int) (hx : xs.length = n) (hl : At W .u32 al (xs ++ markW 120)) (hat : At W .u32 ao xs) (hn : 4 * n ≤ 140737488351232) :
    Calls Tryd.prog 32 #[.slice al (n + 120) c1, .slice ao n c] W fun e W' => e = .returned (.bool true) ∧ Below W.heap.size W W' := by
  have hxl : (xs ++ markW 120).length = n + 120 := by rw [List.length_append, hx, markW_length]
  have C28 : Hid (Calls Tryd.prog 28 #[.slice ao n c] W fun e w => ∃ ao' cap', e = .returned (.slice ao' (n + 120) cap') ∧ At w .u32 ao' (xs ++ markW 120) ∧ Below W.heap.size W w) := by
    refine (lent_any W ao n c xs hx hat hn).mono ?_
    rintro e w ⟨v, rfl, F⟩
    obtain ⟨ao', cap', rfl, hc', hat', _⟩ := F.at'
    rw [hxl]
    exact ⟨ao', cap', rfl, hat', F.below⟩
  have C22 : Hid (∀ w ao' cap', At w .u32 ao' (xs ++ markW 120) → Below W.heap.size W w → Calls Tryd.prog 22 #[.slice al (n + 120) c1, .slice ao' (n + 120) cap'] w fun e w' => e = .returned (.bool true) ∧ Below W.heap.size W w') := fun w ao' cap' ha hw => by
    refine (same_yes w al ao' (n + 120) c1 cap' (xs ++ markW 120) hxl (hl.below hw) ha (by omega)).mono ?_
    rintro e w' ⟨rfl, k, rfl⟩
    exact ⟨rfl, below_drewN hw k⟩
  clear hl hat hx hxl hn
  go_enter Tryd.func32, Tryd.ntmps32
  go_wp2_with (first | (go_at_call 28; refine C28.out.mono ?_; rintro en w1 ⟨ao1, cap1, rfl, hat1, hb1⟩) | (go_at_call 22; refine (C22.out _ _ _ hat1 hb1).mono ?_; rintro en w2 ⟨rfl, hb2⟩))
  go_ret
  exact ⟨rfl, hb2⟩
end Go.Proofs.YtjkkelkblccolaaDoor
