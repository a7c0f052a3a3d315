import Derived.Test.YtjkkelkblccolaaDoorSumsM
import Derived.Test.YtjkkelkblccolaaDoorRtMath
namespace Go.Proofs.YtjkkelkblccolaaDoor
open Go.RowKit

theorem Tryd.info71 : (Tryd.prog.info? 71).map (fun i => (i.zero, i.size, i.bytes)) = some (some (.int .u64 0), 1, 8) := by kernel_rfl
theorem Mine.drewN {w : World} {g : Nat} {k : IntKind} {e : TypeId} {L : List Int} (h : Mine w g k e L) (d : Nat) : Mine (w.drewN d) g k e L := h.on (below_drewN (Below.refl _ _) d)
set_option maxRecDepth 20000 in
set_option maxHeartbeats 4000000 in
theorem times_any (W : World) (b n c : Nat) (l : List Int) (y : Int) (hl : l.length = n) (hn0 : 0 < n) (hn : n ≤ 16) (hy : 0 ≤ y ∧ y < 18446744073709551616) (hul : U l) (hb : b < W.heap.size) (hr : Row W .u64 b 0 l) :
    Calls Tryd.prog 58 #[.slice (some ⟨b, 0, none⟩) n c, .int .u64 y] W fun e w => ∃ g cap, e = .returned (.slice (some ⟨g, 0, none⟩) (n + 3) cap) ∧ Mine w g .u64 71 (timesL l y) ∧ Below W.heap.size W w := by
  obtain ⟨i0, hi, hz0, hz1, hz2⟩ := info_parts Tryd.info71
  have i1 : (n : Int) ≤ 16 := by omega
  go_enter Tryd.func58, Tryd.ntmps58
  go_wp2
  go_loopw [5, 6] (fun v i wr => ∃ k : Nat, k ≤ n + 3 ∧ i = .int .i64 k ∧ Holds W wr .u64 71 v (List.replicate k 0)) (fun _ i _ => n + 3 - (intOf i).toNat)
  case atStart => exact ⟨0, Nat.zero_le _, rfl, Holds.start _ _ _⟩
  case round =>
    obtain ⟨k, hk, rfl, F⟩ := hrel
    have hkl : (List.replicate k (0 : Int)).length = k := List.length_replicate
    by_cases hlt : k < n + 3
    · have F' : Hid (Holds W wr .u64 71 u5 (List.replicate k 0)) := F
      have FF : Hid (∀ v' w', Holds W w' .u64 71 v' (List.replicate k 0 ++ [0]) → Holds W w' .u64 71 v' (List.replicate (k + 1) 0)) := fun v' w' h => by rw [List.replicate_succ']; exact h
      have h63 : (List.replicate k (0 : Int)).length + 1 ≤ maxLen := by rw [hkl]; unfold maxLen; omega
      have hby : ((List.replicate k (0 : Int)).length + 1) * 8 ≤ 140737488355328 := by rw [hkl]; omega
      have q1 : (k : Int) < (n : Int) + 3 := by omega
      clear F hkl
      go_wp2_with (first | (at_builtin; refine wpList_append_more (W := W) rfl _ _ 93 rfl .u64 71 i0 (.int .u64 0) 8 Tryd.underlying93 hi hz0 hz1 hz2 rfl u5 _ rfl (F'.out.alloc _) wr.heap.size 1 1 [0] rfl rfl (row_new _ _ _ _ _ rfl) h63 hby ?_; intro v' w2 H2; have H2' : Hid _ := FF.out _ _ H2; clear H2))
      go_roundw
      case rel => exact ⟨k + 1, by omega, by go_num, H2'.out⟩
      case measure => simp [intOf]; omega
    · obtain rfl : k = n + 3 := by omega
      have hkl' := hkl
      obtain ⟨g, cap, rfl, hcap, hg, M0⟩ := F.mine (by omega)
      rw [hkl] at hcap
      have hB0 := F.below
      rw [hkl]
      have hTL : Hid (timesL l y = carryL (mulI l y (List.replicate (n + 3) 0) n) (n + 2)) := by unfold Hid timesL; rw [hl]
      have hZu : U (List.replicate (n + 3) 0) := u_zeros _
      have hZl : (List.replicate (n + 3) (0 : Int)).length = n + 3 := List.length_replicate
      clear F hkl hkl'
      generalize List.replicate (n + 3) (0 : Int) = Z at *
      have M0' : Hid (Mine wr g .u64 71 Z) := M0
      have HB0 : Hid (Below W.heap.size W wr) := hB0
      clear M0 hB0
      go_wp2
      go_loopw [7, 8] (fun i _ w => ∃ t : Nat, t ≤ n ∧ i = .int .i64 (t : Int) ∧ Mine w g .u64 71 (mulI l y Z t) ∧ Below W.heap.size W w) (fun i _ _ => n - (intOf i).toNat)
      case atStart => exact ⟨0, Nat.zero_le _, rfl, M0'.out, HB0.out⟩
      case round =>
        clear M0' HB0
        obtain ⟨t, ht, rfl, M, hB⟩ := hrel
        by_cases hlt2 : t < n
        · have q0 : (t : Int) < (n : Int) := by omega
          have M' : Hid (Mine wr g .u64 71 (mulI l y Z t)) := M
          have HB : Hid (Below W.heap.size W wr) := hB
          clear M hB
          go_wp2
          go_loopw [8] (fun j w => ∃ k : Nat, k ≤ 3 ∧ j = .int .i64 (k : Int) ∧ Mine w g .u64 71 (mulJ (l.getD t 0) y t (mulI l y Z t) k) ∧ Below W.heap.size W w) (fun j _ => 3 - (intOf j).toNat)
          case atStart => exact ⟨0, Nat.zero_le _, rfl, M'.out, HB.out⟩
          case round =>
            clear M' HB
            obtain ⟨k, hk, rfl, M, hB⟩ := hrel
            have hPl : (mulJ (l.getD t 0) y t (mulI l y Z t) k).length = n + 3 := by rw [mulJ_length, mulI_length, hZl]
            have hPu := mulJ_u (l.getD t 0) y t _ (mulI_u l y Z hZu t) k
            by_cases hlt3 : k < 3
            · have cP := M.cell (t + k) (by omega)
              have fP := M.free (t + k)
              have cL := hr.below hB hb t (by omega)
              rw [Nat.zero_add] at cL
              have HS : Hid (∀ u, u = ((mulJ (l.getD t 0) y t (mulI l y Z t) k).getD (t + k) 0 + l.getD t 0 * (y / 2 ^ (16 * k) % 65536)) % 18446744073709551616 → Mine (wr.setCell ⟨g, t + k, none⟩ (.int .u64 u)).drew g .u64 71 (mulJ (l.getD t 0) y t (mulI l y Z t) (k + 1)) ∧ Below W.heap.size W (wr.setCell ⟨g, t + k, none⟩ (.int .u64 u)).drew) := fun u hu => by
                subst hu
                exact ⟨(M.set _ _).drewN 1, (hB.setCell hg _).drew⟩
              obtain ⟨q1, q2⟩ := hPu (t + k)
              obtain ⟨a1, a2⟩ := hul t
              generalize (mulJ (l.getD t 0) y t (mulI l y Z t) k).getD (t + k) 0 = q at *
              generalize l.getD t 0 = a at *
              have e1 : IntKind.i64.wrap ((t : Int) + (k : Int)) = (t : Int) + (k : Int) := by rw [IntKind.wrap_i64]; omega
              have e2 : (0 : Int) ≤ (t : Int) + (k : Int) := by omega
              have e3 : (t : Int) + (k : Int) < (n : Int) + 3 := by omega
              have e4 : ((t : Int) + (k : Int)).toNat = t + k := by omega
              obtain ⟨s, hs⟩ : ∃ s : Nat, s = 16 * k := ⟨_, rfl⟩
              have e5 : (16 : Int) * (k : Int) = (s : Int) := by omega
              have e8 : (s : Int) < 64 := by omega
              have HSS : Hid (s = 16 * k) := hs
              clear hs
              clear M hB hPl hPu
              go_wp2
              go_region
              have HU : Hid (IntKind.u64.wrap (q + IntKind.u64.wrap (a * (y / 2 ^ s).tmod 65536)) = (q + a * (y / 2 ^ (16 * k) % 65536)) % 18446744073709551616) := by
                unfold Hid
                rw [← HSS.out, Int.tmod_eq_emod_of_nonneg (Int.ediv_nonneg hy.1 (Int.pow_nonneg (by decide))), IntKind.wrap_u64, IntKind.wrap_u64]
                generalize a * (y / 2 ^ s % 65536) = z
                omega
              have HN := HS.out _ HU.out
              have HN' : Hid _ := HN
              clear HN HS
              go_wp2
              go_roundw
              case rel => exact ⟨k + 1, by omega, by go_num, HN'.out⟩
              case measure => simp [intOf]; omega
            · obtain rfl : k = 3 := by omega
              have M3 : Hid (Mine wr g .u64 71 (mulI l y Z (t + 1))) := M
              have HB : Hid (Below W.heap.size W wr) := hB
              clear M hB hPl hPu
              go_wp2
              go_roundw
              case rel => exact ⟨t + 1, by omega, by go_num, M3.out, HB.out⟩
              case measure => simp [intOf]; omega
        · obtain rfl : t = n := by omega
          have hQl : (mulI l y Z t).length = t + 3 := by rw [mulI_length, hZl]
          have hQu := mulI_u l y Z hZu t
          generalize mulI l y Z t = Q0 at *
          have M' : Hid (Mine wr g .u64 71 Q0) := M
          have HB : Hid (Below W.heap.size W wr) := hB
          clear M hB
          go_wp2
          go_loopw [9] (fun i w => ∃ k : Nat, k ≤ t + 2 ∧ i = .int .i64 (k : Int) ∧ Mine w g .u64 71 (carryL Q0 k) ∧ Below W.heap.size W w) (fun i _ => t + 2 - (intOf i).toNat)
          case atStart => exact ⟨0, Nat.zero_le _, rfl, M'.out, HB.out⟩
          case round =>
            clear M' HB
            obtain ⟨k, hk, rfl, M, hB⟩ := hrel
            have hPl : (carryL Q0 k).length = t + 3 := by rw [carryL_length, hQl]
            have hPu := carryL_u Q0 hQu k
            by_cases hlt3 : k < t + 2
            · have c1 := M.cell (k + 1) (by omega)
              have c0 := M.cell k (by omega)
              have f1 := M.free (k + 1)
              obtain ⟨q1, q2⟩ := hPu (k + 1)
              obtain ⟨a1, a2⟩ := hPu k
              have HS : Hid (∀ u v, u = ((carryL Q0 k).getD (k + 1) 0 + (carryL Q0 k).getD k 0 / 65536) % 18446744073709551616 → v = (carryL Q0 k).getD k 0 % 65536 → Mine ((wr.setCell ⟨g, k + 1, none⟩ (.int .u64 u)).drew.setCell ⟨g, k, none⟩ (.int .u64 v)) g .u64 71 (carryL Q0 (k + 1)) ∧ Below W.heap.size W ((wr.setCell ⟨g, k + 1, none⟩ (.int .u64 u)).drew.setCell ⟨g, k, none⟩ (.int .u64 v))) := fun u v hu hv => by
                subst hu hv
                exact ⟨((M.set _ _).drewN 1).set _ _, (hB.setCell hg _).drew.setCell hg _⟩
              have HC : Hid (∀ u, (wr.setCell ⟨g, k + 1, none⟩ (.int .u64 u)).drew.cell? ⟨g, k, none⟩ = some (.int .u64 ((carryL Q0 k).getD k 0)) ∧ (wr.setCell ⟨g, k + 1, none⟩ (.int .u64 u)).drew.frozen? ⟨g, k, none⟩ = false) := fun u => by
                have M1 := (M.set (k + 1) u).drewN 1
                refine ⟨?_, M1.free k⟩
                have := M1.cell k (by rw [List.length_set]; omega)
                rwa [show ((carryL Q0 k).set (k + 1) u).getD k 0 = (carryL Q0 k).getD k 0 by simp only [List.getD_eq_getElem?_getD, List.getElem?_set, if_neg (show ¬ k + 1 = k by omega)]] at this
              generalize (carryL Q0 k).getD (k + 1) 0 = q at *
              generalize (carryL Q0 k).getD k 0 = a at *
              have e1 : IntKind.i64.wrap ((k : Int) + 1) = (k : Int) + 1 := by rw [IntKind.wrap_i64]; omega
              have e3 : (k : Int) + 1 < (t : Int) + 3 := by omega
              have e4 : ((k : Int) + 1).toNat = k + 1 := by omega
              have HU : Hid (IntKind.u64.wrap (q + a / 65536) = (q + a / 65536) % 18446744073709551616) := by unfold Hid; rw [IntKind.wrap_u64]
              clear M hB hPl hPu
              go_wp2
              go_region
              obtain ⟨cc, ff⟩ := HC.out (IntKind.u64.wrap (q + a / 65536))
              have HN : Hid (Mine ((wr.setCell ⟨g, k + 1, none⟩ (.int .u64 (IntKind.u64.wrap (q + a / 65536)))).drew.setCell ⟨g, k, none⟩ (.int .u64 (a % 65536))) g .u64 71 (carryL Q0 (k + 1)) ∧ Below W.heap.size W ((wr.setCell ⟨g, k + 1, none⟩ (.int .u64 (IntKind.u64.wrap (q + a / 65536)))).drew.setCell ⟨g, k, none⟩ (.int .u64 (a % 65536)))) := HS.out _ _ HU.out rfl
              clear HS HC c1 c0 f1
              generalize (wr.setCell ⟨g, k + 1, none⟩ (.int .u64 (IntKind.u64.wrap (q + a / 65536)))).drew = w2 at *
              go_wp2
              go_roundw
              case rel => exact ⟨k + 1, by omega, by go_num, HN.out⟩
              case measure => simp [intOf]; omega
            · obtain rfl : k = t + 2 := by omega
              have M' : Hid (Mine wr g .u64 71 (timesL l y)) := by unfold Hid; rw [hTL.out]; exact M
              have HB : Hid (Below W.heap.size W wr) := hB
              clear M hB hPl hPu
              go_wp2
              go_ret
              exact ⟨g, cap, rfl, M'.out, HB.out⟩
end Go.Proofs.YtjkkelkblccolaaDoor
