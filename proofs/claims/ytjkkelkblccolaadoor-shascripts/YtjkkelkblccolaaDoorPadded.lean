import Derived.Test.YtjkkelkblccolaaDoorApp
namespace Go.Proofs.YtjkkelkblccolaaDoor
open Go.RowKit

def bz (m : Nat) : Nat := (119 - m % 64) % 64
def lenB (b : Int) (t : Nat) : List Int := (List.range t).map fun k => b / 2 ^ (56 - 8 * k) % 256
def padB (bs : List Int) : List Int := ((bs ++ [128]) ++ List.replicate (bz bs.length) 0) ++ lenB (8 * (bs.length : Int)) 8
theorem lenB_succ (b : Int) (t : Nat) : lenB b (t + 1) = lenB b t ++ [b / 2 ^ (56 - 8 * t) % 256] := by simp [lenB, List.range_succ]
theorem lenB_length (b : Int) (t : Nat) : (lenB b t).length = t := by simp [lenB]

set_option maxRecDepth 20000 in
set_option maxHeartbeats 1000000 in
theorem padded_any (W : World) (ao : Option Addr) (m c : Nat) (bs : List Int) (hx : bs.length = m) (hat : At W .u8 ao bs) (hm : m ≤ 140737488351232) :
    Calls Tryd.prog 13 #[.slice ao m c] W fun e W' => ∃ v, e = .returned v ∧ Holds W W' .u8 5 v (padB bs) := by
  obtain ⟨i0, hi, hz0, hz1, hz2⟩ := info_parts Tryd.info5
  have h63 : m ≤ maxLen := by unfold maxLen; omega
  have hby : m * 1 ≤ 140737488355328 := by omega
  have hl1 : bs.length + 1 ≤ maxLen := by rw [hx]; unfold maxLen; omega
  have hb1 : (bs.length + 1) * 1 ≤ 140737488355328 := by rw [hx]; omega
  have i1 : (m : Int) ≤ 140737488351232 := by omega
  go_enter Tryd.func13, Tryd.ntmps13
  go_wp2_with (first | (at_builtin; refine wpList_append_new rfl _ _ 22 rfl .u8 5 i0 (.int .u8 0) 1 Tryd.underlying22 hi hz0 hz1 hz2 rfl rfl ao m c bs rfl hx hat h63 hby ?_; intro v1 w1 H1) | (at_builtin; refine wpList_append_more (W := W) rfl _ _ 22 rfl .u8 5 i0 (.int .u8 0) 1 Tryd.underlying22 hi hz0 hz1 hz2 rfl v1 bs rfl (H1.alloc _) w1.heap.size 1 1 [128] rfl rfl (row_new _ _ _ _ _ rfl) hl1 hb1 ?_; intro v2 w2 H2))
  clear H1 h63 hby hl1 hb1
  go_loopw [3] (fun v wr => ∃ k : Nat, k ≤ bz m ∧ Holds W wr .u8 5 v ((bs ++ [128]) ++ List.replicate k 0)) (fun v _ => match v with | .slice _ k _ => m + 100 - k | _ => 0)
  case atStart => exact ⟨0, Nat.zero_le _, by simpa using H2⟩
  case round =>
    clear H2
    obtain ⟨k, hk, F⟩ := hrel
    have hbz : bz m = (119 - m % 64) % 64 := rfl
    have hl : ((bs ++ [128]) ++ List.replicate k 0).length = m + 1 + k := by simp [hx]; omega
    obtain ⟨gt, ct, hv, _, hgt, hgt', _⟩ := F.form (by omega)
    rw [hl] at hv
    subst hv
    obtain ⟨q, hq⟩ : ∃ q, q = m + 1 + k := ⟨_, rfl⟩
    rw [← hq] at F hl ⊢
    have i2 : (q : Int) ≤ 140737488351432 := by omega
    by_cases hlt : k < bz m
    · obtain ⟨q', hq'⟩ : ∃ q', q' = q % 64 := ⟨_, rfl⟩
      have i3 : (q : Int) % 64 = (q' : Int) := by omega
      have i4 : ((q' : Int) != 56) = true := by simp; omega
      have h63 : ((bs ++ [128]) ++ List.replicate k 0).length + 1 ≤ maxLen := by rw [hl]; unfold maxLen; omega
      have hby : (((bs ++ [128]) ++ List.replicate k 0).length + 1) * 1 ≤ 140737488355328 := by rw [hl]; omega
      have F' : Hid (Holds W wr .u8 5 (.slice (some ⟨gt, 0, none⟩) q ct) ((bs ++ [128]) ++ List.replicate k 0)) := F
      have FF : Hid (∀ v' w', Holds W w' .u8 5 v' (((bs ++ [128]) ++ List.replicate k 0) ++ [0]) → Hid (∃ k' : Nat, k' ≤ bz m ∧ Holds W w' .u8 5 v' ((bs ++ [128]) ++ List.replicate k' 0)) ∧ ∃ ao' cap', v' = .slice ao' (q + 1) cap') := fun v' w' h => by
        obtain ⟨ao', cap', hv', _⟩ := h.at'
        refine ⟨⟨k + 1, by omega, ?_⟩, ao', cap', ?_⟩
        · rw [List.replicate_succ', ← List.append_assoc]; exact h
        · rw [hv', List.length_append, hl]; rfl
      have HM : Hid (m + 100 - (q + 1) < m + 100 - q) := by show _ < _; omega
      clear F hq hq' hlt hk hbz hl
      go_wp2_with (first | (at_builtin; refine wpList_append_more (W := W) rfl _ _ 22 rfl .u8 5 i0 (.int .u8 0) 1 Tryd.underlying22 hi hz0 hz1 hz2 rfl _ _ rfl (F'.out.alloc _) wr.heap.size 1 1 [0] rfl rfl (row_new _ _ _ _ _ rfl) h63 hby ?_; intro v' w2 H2; obtain ⟨H3, ao', cap', rfl⟩ := FF.out _ _ H2; clear H2))
      exact ⟨H3.out, HM.out⟩
    · obtain rfl : k = bz m := by omega
      have i3 : (q : Int) % 64 = 56 := by omega
      obtain ⟨X, hX⟩ : ∃ X, X = (bs ++ [128]) ++ List.replicate (bz m) 0 := ⟨_, rfl⟩
      rw [← hX] at F hl
      have hP : padB bs = X ++ lenB (8 * (m : Int)) 8 := by unfold padB; rw [hx, hX]
      have HP : Hid _ := hP
      have F' : Hid (Holds W wr .u8 5 (.slice (some ⟨gt, 0, none⟩) q ct) X) := F
      have i5 : (m : Int) * 8 = 8 * (m : Int) := by omega
      obtain ⟨b, hb⟩ : ∃ b, b = 8 * (m : Int) := ⟨_, rfl⟩
      rw [← hb] at i5 hP
      have HP' : Hid (padB bs = X ++ lenB b 8) := hP
      have b0 : 0 ≤ b := by omega
      have hq64 : q ≤ 140737488351432 := by omega
      clear F hX hP HP hq hbz hlt hk hb
      go_wp2
      clear i3 i5
      go_loopw [3, 5] (fun v i wr => ∃ k : Nat, k ≤ 8 ∧ i = .int .i64 (7 - (k : Int)) ∧ Holds W wr .u8 5 v (X ++ lenB b k)) (fun _ i _ => ((intOf i) + 1).toNat)
      case atStart => exact ⟨0, by decide, rfl, by simpa [lenB] using F'.out⟩
      case round =>
        clear F'
        obtain ⟨k, hk, rfl, F⟩ := hrel
        have hXl : (X ++ lenB b k).length = q + k := by rw [List.length_append, hl, lenB_length]
        by_cases hlt : k < 8
        · have v1 : IntKind.i64.wrap (8 * (7 - (k : Int))) = 8 * (7 - (k : Int)) := by rw [IntKind.wrap_i64]; omega
          have v2 : (8 * (7 - (k : Int))).toNat = 56 - 8 * k := by omega
          have v3 : (0 : Int) ≤ 7 - (k : Int) := by omega
          have v4 : IntKind.u64.wrap (8 * (7 - (k : Int))) = 8 * (7 - (k : Int)) := by rw [IntKind.wrap_u64]; omega
          have h63 : (X ++ lenB b k).length + 1 ≤ maxLen := by rw [hXl]; unfold maxLen; omega
          have hby : ((X ++ lenB b k).length + 1) * 1 ≤ 140737488355328 := by rw [hXl]; omega
          have F' : Hid (Holds W wr .u8 5 u3 (X ++ lenB b k)) := F
          have FF : Hid (∀ v' w', Holds W w' .u8 5 v' ((X ++ lenB b k) ++ [b / 2 ^ (56 - 8 * k) % 256]) → Holds W w' .u8 5 v' (X ++ lenB b (k + 1))) := fun v' w' h => by
            rw [lenB_succ, ← List.append_assoc]; exact h
          clear F hXl
          go_wp2_with (first | (at_builtin; refine wpList_append_more (W := W) rfl _ _ 22 rfl .u8 5 i0 (.int .u8 0) 1 Tryd.underlying22 hi hz0 hz1 hz2 rfl u3 _ rfl (F'.out.alloc _) wr.heap.size 1 1 [b / 2 ^ (56 - 8 * k) % 256] rfl rfl (row_new _ _ _ _ _ rfl) h63 hby ?_; intro v' w2 H2; have H2' : Hid _ := FF.out _ _ H2; clear H2))
          go_roundw
          case rel => exact ⟨k + 1, by omega, by go_num, H2'.out⟩
          case measure => simp [intOf]; omega
        · obtain rfl : k = 8 := by omega
          have HH : Hid (Holds W wr .u8 5 u3 (padB bs)) := by rw [HP'.out]; exact F
          clear F
          go_wp2
          go_ret
          exact ⟨_, rfl, HH.out⟩
end Go.Proofs.YtjkkelkblccolaaDoor
