import Derived.Test.YtlfnpllojinjdaaDoorAll3
namespace Go.Proofs.YtlfnpllojinjdaaDoor
open Go.RowKit

theorem conv_at {w : World} {ao : Option Addr} {L : List Int} (h : At w .u8 ao L) (N cap : Nat) (hN : L.length = N) : (convert 36 9 (.slice ao N cap)).run Tryd.prog w = .ok (.string (strOfNums L)) w := by
  subst hN
  rcases h with rfl | ⟨b, off, rfl, _, hr⟩
  · rcases ao with _ | a
    · exact (run_convert_bytes_nil (P := Tryd.prog) w 36 5 Tryd.underlying36 Tryd.underlying5 0 cap 9 Tryd.underlying9).trans rfl
    · show (convert 36 9 (.slice (some a) 0 cap)).run Tryd.prog w = _
      rw [run_convert_bytes_string (P := Tryd.prog) w 36 9 5 _ 0 cap Tryd.underlying36 Tryd.underlying5 Tryd.underlying9, run_bytesToString w a 0 cap [] (run_loadCells_list (P := Tryd.prog) w a [] (fun j v hj => by simp at hj))]
      rfl
  · exact run_convert_bytes_arg (P := Tryd.prog) w 36 5 Tryd.underlying36 Tryd.underlying5 b off _ cap L rfl hr 9 Tryd.underlying9
theorem rbytes_at (W : World) (ao : Option Addr) (n cap : Nat) (xs : List Int) (hx : xs.length = n) (wx : Wds xs) (h1 : At W .u32 ao xs) (hn : 4 * n ≤ 140737488351232) :
    Calls Tryd.prog 30 #[.slice ao n cap] W fun e W' => ∃ v, e = .returned v ∧ Holds W W' .u8 5 v (bytesD xs) := by
  rcases h1 with rfl | ⟨b, off, rfl, hb, h1⟩
  · simp at hx
    subst hx
    have HH : Hid (Holds W W .u8 5 (.slice none 0 0) (bytesD [])) := Holds.start W .u8 5
    go_enter Tryd.func30, Tryd.ntmps30
    go_wp2
    refine wp_loop_rounds 1 ?_
    rw [rounds_succ]
    go_wp2
    go_ret
    exact ⟨_, rfl, HH.out⟩
  · exact rbytes_any W b off n cap xs hx wx h1 hn hb
set_option maxRecDepth 100000 in
set_option maxHeartbeats 1000000 in
theorem texts3 (W : World) (hT : Tab W) (h0 : 0 < W.heap.size) (o : OpV) (ok : o.Ok W) :
    Calls Tryd.prog 43 #[.agg (o.cells 3)] W fun e W' => e = .returned (.bool true) ∧ Below W.heap.size W W' := by
  obtain ⟨⟨a0, a1⟩, -, -, -, -, -, -, -, -, -, -, -, -, -, -, -, -, -, -⟩ := ok
  obtain ⟨a, b, c, d, n, m, lao, ln, lc, lx, pao, pn, pc, px, bao, bn, bc, bx, s⟩ := o
  simp only [OpV.cells] at *
  have HB : Hid _ := below_one W (.cells #[.int .i64 3, .int .u32 a, .int .u32 b, .int .u32 c, .int .u32 d, .int .i64 n, .int .i64 m, .slice lao ln lc, .slice pao pn pc, .slice bao bn bc, .string s] 67)
  have hT1 := hT.alloc h0 (.cells #[.int .i64 3, .int .u32 a, .int .u32 b, .int .u32 c, .int .u32 d, .int .i64 n, .int .i64 m, .slice lao ln lc, .slice pao pn pc, .slice bao bn bc, .string s] 67)
  have k1 : (W.alloc (.cells #[.int .i64 3, .int .u32 a, .int .u32 b, .int .u32 c, .int .u32 d, .int .i64 n, .int .i64 m, .slice lao ln lc, .slice pao pn pc, .slice bao bn bc, .string s] 67)).cell? ⟨W.heap.size, 1, none⟩ = some (.int .u32 a) := by rw [cell_new]; rfl
  have HX : Hid (Calls Tryd.prog 20 #[.int .u32 a] (W.alloc (.cells #[.int .i64 3, .int .u32 a, .int .u32 b, .int .u32 c, .int .u32 d, .int .i64 n, .int .i64 m, .slice lao ln lc, .slice pao pn pc, .slice bao bn bc, .string s] 67)).drew fun e w' => e = .returned (.string (strOfNums (hexW a))) ∧ Below W.heap.size W w' ∧ w'.cell? ⟨W.heap.size, 1, none⟩ = some (.int .u32 a)) := by
    refine (hex_any (W.alloc (.cells #[.int .i64 3, .int .u32 a, .int .u32 b, .int .u32 c, .int .u32 d, .int .i64 n, .int .i64 m, .slice lao ln lc, .slice pao pn pc, .slice bao bn bc, .string s] 67)).drew (hT1.drewN 1) a a0 a1 (by show 0 < (W.alloc (.cells #[.int .i64 3, .int .u32 a, .int .u32 b, .int .u32 c, .int .u32 d, .int .i64 n, .int .i64 m, .slice lao ln lc, .slice pao pn pc, .slice bao bn bc, .string s] 67)).heap.size; simp)).mono ?_
    rintro e w' ⟨rfl, hb'⟩
    exact ⟨rfl, HB.out.drew.trans (hb'.mono (by show _ ≤ (W.alloc (.cells #[.int .i64 3, .int .u32 a, .int .u32 b, .int .u32 c, .int .u32 d, .int .i64 n, .int .i64 m, .slice lao ln lc, .slice pao pn pc, .slice bao bn bc, .string s] 67)).heap.size; simp)), (hb'.cell (p := ⟨W.heap.size, 1, none⟩) (by show _ < (W.alloc (.cells #[.int .i64 3, .int .u32 a, .int .u32 b, .int .u32 c, .int .u32 d, .int .i64 n, .int .i64 m, .slice lao ln lc, .slice pao pn pc, .slice bao bn bc, .string s] 67)).heap.size; simp)).trans k1⟩
  clear HB hT1 hT h0
  go_enter Tryd.func43, Tryd.ntmps43
  go_wp2_with fail
  go_region_held3 (fun w' => w'.cell? ⟨W.heap.size, 1, none⟩ = some (.int .u32 a)) (go_keep) (first | (go_at_call 20; refine HX.out.mono ?_; rintro e w6 ⟨rfl, hb6, cc⟩) | (go_at_call 45; refine (rhex_any _ _ a0 a1).mono ?_; rintro e w7 ⟨rfl, rfl⟩))
  go_wp2
  go_ret
  exact ⟨rfl, hb6⟩
set_option maxRecDepth 100000 in
set_option maxHeartbeats 1000000 in
theorem texts1 (W : World) (hT : Tab W) (h0 : 0 < W.heap.size) (o : OpV) (ok : o.Ok W) :
    Calls Tryd.prog 43 #[.agg (o.cells 1)] W fun e W' => e = .returned (.bool true) ∧ Below W.heap.size W W' := by
  obtain ⟨⟨a0, a1⟩, -, -, -, -, -, ll, lw, la, lb, -, -, -, -, -, -, -, -, -⟩ := ok
  obtain ⟨a, b, c, d, n, m, lao, ln, lc, lx, pao, pn, pc, px, bao, bn, bc, bx, s⟩ := o
  simp only [OpV.cells] at *
  have HB : Hid _ := below_one W (.cells #[.int .i64 1, .int .u32 a, .int .u32 b, .int .u32 c, .int .u32 d, .int .i64 n, .int .i64 m, .slice lao ln lc, .slice pao pn pc, .slice bao bn bc, .string s] 67)
  have la' := la.below HB.out
  have hT1 := hT.alloc h0 (.cells #[.int .i64 1, .int .u32 a, .int .u32 b, .int .u32 c, .int .u32 d, .int .i64 n, .int .i64 m, .slice lao ln lc, .slice pao pn pc, .slice bao bn bc, .string s] 67)
  have hbl : (bytesD lx).length = 4 * ln := by rw [bytesD_length, ll]
  go_enter Tryd.func43, Tryd.ntmps43
  go_wp2_with fail
  refine (rbytes_at _ lao ln lc lx ll lw la' (by omega)).mono ?_
  rintro e w1 ⟨v, rfl, F⟩
  have hb1 := F.below
  have k7 := box_cell hb1 7
  simp at k7
  obtain ⟨ro, rc, hv, hr1⟩ := F.at
  rw [hbl] at hv
  subst hv
  have hz1 : 0 < w1.heap.size := by have := hb1.size; simp at this; omega
  have cv0 : (convert 36 9 (.slice ro (4 * ln) rc)).run Tryd.prog w1.drew = .ok (.string (strOfNums (bytesD lx))) w1.drew := conv_at (hr1.drewN 1) _ _ hbl
  have HX : Hid (Calls Tryd.prog 14 #[.slice lao ln lc] w1.drew fun e w' => e = .returned (.slice (some ⟨w1.heap.size, 0, none⟩) (4 * ln) (4 * ln)) ∧ Below W.heap.size W w' ∧ w'.cell? ⟨W.heap.size, 7, none⟩ = some (.slice lao ln lc) ∧ (convert 36 9 (.slice ro (4 * ln) rc)).run Tryd.prog w' = .ok (.string (strOfNums (bytesD lx))) w' ∧ (convert 36 9 (.slice (some ⟨w1.heap.size, 0, none⟩) (4 * ln) (4 * ln))).run Tryd.prog w' = .ok (.string (strOfNums (bytesD lx))) w') := by
    refine (bytes_at w1.drew ((hT1.below hb1 (by simp)).drewN 1) lao ln lc lx ll lw ((la'.below hb1).drewN 1) (by omega) hz1).mono ?_
    rintro e w' ⟨rfl, ow⟩
    have hb' := ow.below
    exact ⟨rfl, after_box (hb1.trans ((Below.refl _ w1).drew.trans (hb'.mono hb1.size) |>.mono (Nat.le_refl _) |> fun h => h)), (hb'.cell (p := ⟨W.heap.size, 7, none⟩) (by have := hb1.size; simp at this; show W.heap.size < w1.heap.size; omega)).trans k7, conv_at ((hr1.drewN 1).below hb') _ _ hbl, conv_at ow.at _ _ hbl⟩
  clear F hb1 hr1 hz1 la' hT1 HB hT h0
  go_wp2_with fail
  go_region_with (first | (go_at_call 14; refine HX.out.mono ?_; rintro e w6 ⟨rfl, hb6, cc, cr, cn⟩))
  all_goals go_wp2
  all_goals go_ret
  all_goals exact ⟨rfl, hb6⟩
end Go.Proofs.YtlfnpllojinjdaaDoor
