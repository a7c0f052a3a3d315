import Derived.Test.YtlfnpllojinjdaaDoorKeeps7
import Derived.Deep.RegionWith
import Derived.Deep.DrawnRows
import Derived.Deep.RegionHeld3
namespace Go.Proofs.YtlfnpllojinjdaaDoor
open Go.RowKit

attribute [local go_sem ↓] Go.wp_at_zero Go.wp_at_succ
set_option maxRecDepth 100000 in
set_option maxHeartbeats 40000000 in
theorem keeps_any (W : World) (hT : Tab W) (h0 : 0 < W.heap.size) (ao : Option Addr) (N cap : Nat) (A : Nat → Option Addr) (n c : Nat → Nat) (X : Nat → List Int)
    (hs : N = 0 ∨ ∃ b off, ao = some ⟨b, off, none⟩ ∧ b < W.heap.size ∧ ∀ k, k < N → W.cell? ⟨b, off + k, none⟩ = some (.slice (A k) (n k) (c k)))
    (hX : ∀ k, k < N → Given W (A k) (n k) (c k) (X k)) (hN : N ≤ 1048576) :
    Calls Tryd.prog 6 #[.slice ao N cap] W fun e W' => e = .returned (.bool true) ∧ Below W.heap.size W W' := by
  obtain ⟨i0, hi, hz0, hz1, hz2⟩ := info_parts info61
  go_enter Tryd.func6, Tryd.ntmps6
  go_wp2
  go_loopw [3, 4] (fun v i wr => ∃ t : Nat, t ≤ 3 * N ∧ i = .int .i64 t ∧ ∃ m E, m ≤ 2 * t ∧ Bk W wr v m E ∧ Says N n X m E) (fun _ i _ => 3 * N - (intOf i).toNat)
  case atStart => exact ⟨0, Nat.zero_le _, rfl, 0, _, Nat.le_refl _, Bk.start W, fun i hi => absurd hi (by omega)⟩
  case round =>
    obtain ⟨t, ht, rfl, m, E, hm, B, S⟩ := hrel
    by_cases hlt : t < 3 * N
    · obtain ⟨b, off, rfl, hb, hc⟩ : ∃ b off, ao = some ⟨b, off, none⟩ ∧ b < W.heap.size ∧ ∀ k, k < N → W.cell? ⟨b, off + k, none⟩ = some (.slice (A k) (n k) (c k)) := by
        rcases hs with rfl | h
        · omega
        · exact h
      have hlt' : (t : Int) < 3 * (N : Int) := by omega
      rcases (by omega : t % 3 = 0 ∨ t % 3 = 1 ∨ t % 3 = 2) with hr | hr | hr
      · obtain ⟨k, hkt, hkN⟩ : ∃ k, t = 3 * k ∧ k < N := ⟨t / 3, by omega, by omega⟩
        have d1 : (t : Int) / 3 = (k : Int) := by omega
        have d2 : (t : Int) % 3 = 0 := by omega
        clear hkt hr
        have ck : wr.cell? ⟨b, off + k, none⟩ = some (.slice (A k) (n k) (c k)) := (B.below.cell (p := ⟨b, off + k, none⟩) hb).trans (hc k hkN)
        obtain ⟨xl, xw, xa, xn, xm⟩ := hX k hkN
        by_cases hbig : 262144 < n k
        · go_wp2
          go_roundw
          case rel => exact ⟨t + 1, by omega, by go_num, m, E, by omega, B, S⟩
          case measure => simp [intOf]; omega
        · go_wp2_with fail
          have hk := B.below.size
          refine (told_any wr (hT.below B.below h0) (by omega) (A k) (n k) (c k) (X k) xl xw (xa.below B.below) xn (by omega)).mono ?_
          rintro e w2 ⟨g1, g2, g3, g4, gh, l1, l2, l3, l4, l5, rfl, hgh, b1, b2, b3, b4, hb2⟩
          have hk2 := hb2.size
          have hg2 : gh < w2.heap.size := by
            rcases Nat.lt_or_ge gh w2.heap.size with h | h
            · exact h
            · rw [Array.getElem?_eq_none h] at hgh; cases hgh
          have ck2 : w2.cell? ⟨b, off + k, none⟩ = some (.slice (A k) (n k) (c k)) := (hb2.cell (p := ⟨b, off + k, none⟩) (show b < wr.heap.size by omega)).trans ck
          have hbW := B.below.trans (hb2.mono hk)
          go_wp2_with fail
          refine (turned_any w2 (hT.below hbW h0) (by omega) (A k) (n k) (c k) (X k) xl xw (xa.below hbW) xn (by omega)).mono ?_
          rintro e w3 ⟨rfl, hb3⟩
          have B3 := hb2.trans (hb3.mono hk2)
          have hgh3 := (hb3.block gh hg2).trans hgh
          have q1 := b1.below hb3 b1.lt
          have q2 := b2.below hb3 b2.lt
          have q3 := b3.below hb3 b3.lt
          have q4 := b4.below hb3 b4.lt
          clear hgh b1 b2 b3 b4 ck2 hbW
          obtain ⟨xs0, o0, hxs0⟩ := B.own
          have s4 : w3.cell? ⟨gh, 4, none⟩ = some (.int .i64 0) := (cell_of_row w3 gh 4 _ 61 (0, 0) hgh3).trans rfl
          have s9 : w3.cell? ⟨gh, 9, none⟩ = some (.int .i64 0) := (cell_of_row w3 gh 9 _ 61 (0, 0) hgh3).trans rfl
          have f4 : w3.frozen? ⟨gh, 4, none⟩ = false := frozen_of_row w3 gh 4 _ 61 hgh3
          have f9 : w3.frozen? ⟨gh, 9, none⟩ = false := frozen_of_row w3 gh 9 _ 61 hgh3
          have PRE : Hid (∀ w4, (w3.setCell ⟨gh, 4, none⟩ (.int .i64 (k : Int))).setCell ⟨gh, 9, none⟩ (.int .i64 (k : Int)) = w4 → w4.ownsRow W.heap.size 61 5 u3 m xs0 ∧
              (∀ j u, (Ent.cells ⟨g2, g1, n k, (k : Int), .slice none 0 0, .slice none 0 0, X k, bytesD (X k)⟩ ++ Ent.cells ⟨g3, g4, n k, (k : Int), .slice none 0 0, .slice none 0 0, X k, bytesD (X k)⟩)[j]? = some u → w4.cell? ((⟨gh, 0, none⟩ : Addr).add j) = some u)) := fun w4 e => by
            have ng : u3.ownBlock ≠ some gh := fun e => by have := (B.own_ne.2 gh e).2; omega
            subst e
            refine ⟨own_other (own_other (ownsRow_below o0 B3) _ ng) _ ng, ?_⟩
            have h5 := heap_setCell_same _ gh 9 _ 61 (.int .i64 (k : Int)) (heap_setCell_same w3 gh 4 _ 61 (.int .i64 (k : Int)) hgh3)
            exact World.news_of_block h5
          have GROW : Hid (∀ w4 w5 v', (w3.setCell ⟨gh, 4, none⟩ (.int .i64 (k : Int))).setCell ⟨gh, 9, none⟩ (.int .i64 (k : Int)) = w4 → w5.ownsRow W.heap.size 61 5 v' (m + 2) (xs0 ++ (Ent.cells ⟨g2, g1, n k, (k : Int), .slice none 0 0, .slice none 0 0, X k, bytesD (X k)⟩ ++ Ent.cells ⟨g3, g4, n k, (k : Int), .slice none 0 0, .slice none 0 0, X k, bytesD (X k)⟩)) → w4.grownBy w5 u3.ownBlock →
              ∃ E', Bk W w5 v' (m + 2) E' ∧ Says N n X (m + 2) E') := fun w4 w5 v' e ho hg =>
            ⟨_, B.grow B3 xl l1 l2 l3 l4 l5 q1 q2 q3 q4 (k : Int) _ _ e o0.1 hxs0 ho hg, S.grow k hkN (by omega) _ _ ⟨rfl, rfl, rfl, rfl⟩ ⟨rfl, rfl, rfl, rfl⟩⟩
          have h1c : ∀ u ∈ Ent.cells ⟨g2, g1, n k, (k : Int), .slice none 0 0, .slice none 0 0, X k, bytesD (X k)⟩ ++ Ent.cells ⟨g3, g4, n k, (k : Int), .slice none 0 0, .slice none 0 0, X k, bytesD (X k)⟩, u.oneCell' = true := fun u hu => (List.mem_append.1 hu).elim (Ent.one _ rfl rfl u) (Ent.one _ rfl rfl u)
          have h63 : m + 2 ≤ maxLen := by unfold maxLen; omega
          have hby : (m + 2) * 104 ≤ 140737488355328 := by omega
          have hbase : W.heap.size ≤ w3.heap.size := by have := B3.size; omega
          clear q1 q2 q3 q4 B S hgh3 o0 hxs0
          go_wp2_with (first | (at_builtin; refine wpList_append_own _ rfl _ _ 56 rfl W.heap.size 61 i0 _ 5 104 Tryd.underlying56 hi hz0 hz1 hz2 rfl (by decide) u3 m xs0 rfl (PRE.out _ rfl).1 ⟨gh, 0, none⟩ 2 2 _ rfl rfl (PRE.out _ rfl).2 h1c h63 hby (by simpa using hbase) ?_))
          intro v' w5 hown5 hgrow5 _
          obtain ⟨E', B', S'⟩ := GROW.out _ w5 v' rfl hown5 hgrow5
          clear hown5 hgrow5 PRE GROW h1c h63 hby hbase
          go_wp2
          go_roundw
          case rel => exact ⟨t + 1, by omega, by go_num, m + 2, E', by omega, B', S'⟩
          case measure => simp [intOf]; omega
      · obtain ⟨k, hkt, hkN⟩ : ∃ k, t = 3 * k + 1 ∧ k < N := ⟨t / 3, by omega, by omega⟩
        have d1 : (t : Int) / 3 = (k : Int) := by omega
        have d2 : (t : Int) % 3 = 1 := by omega
        clear hkt hr
        have ck : wr.cell? ⟨b, off + k, none⟩ = some (.slice (A k) (n k) (c k)) := (B.below.cell (p := ⟨b, off + k, none⟩) hb).trans (hc k hkN)
        obtain ⟨xl, xw, xa, xn, xm⟩ := hX k hkN
        by_cases hbig : 262144 < n k
        · go_wp2
          go_roundw
          case rel => exact ⟨t + 1, by omega, by go_num, m, E, by omega, B, S⟩
          case measure => simp [intOf]; omega
        · go_wp2_with fail
          have hk := B.below.size
          refine (told_any wr (hT.below B.below h0) (by omega) (A k) (n k) (c k) (X k) xl xw (xa.below B.below) xn (by omega)).mono ?_
          rintro e w2 ⟨g1, g2, g3, g4, gh, l1, l2, l3, l4, l5, rfl, hgh, b1, b2, b3, b4, hb2⟩
          have hk2 := hb2.size
          have hg2 : gh < w2.heap.size := by
            rcases Nat.lt_or_ge gh w2.heap.size with h | h
            · exact h
            · rw [Array.getElem?_eq_none h] at hgh; cases hgh
          have ck2 : w2.cell? ⟨b, off + k, none⟩ = some (.slice (A k) (n k) (c k)) := (hb2.cell (p := ⟨b, off + k, none⟩) (show b < wr.heap.size by omega)).trans ck
          have B3 := hb2
          have hgh3 := hgh
          have q1 := b1
          have q2 := b2
          have q3 := b3
          have q4 := b4
          clear hgh b1 b2 b3 b4 ck2
          obtain ⟨xs0, o0, hxs0⟩ := B.own
          have s4 : w2.cell? ⟨gh, 4, none⟩ = some (.int .i64 0) := (cell_of_row w2 gh 4 _ 61 (0, 0) hgh3).trans rfl
          have s9 : w2.cell? ⟨gh, 9, none⟩ = some (.int .i64 0) := (cell_of_row w2 gh 9 _ 61 (0, 0) hgh3).trans rfl
          have f4 : w2.frozen? ⟨gh, 4, none⟩ = false := frozen_of_row w2 gh 4 _ 61 hgh3
          have f9 : w2.frozen? ⟨gh, 9, none⟩ = false := frozen_of_row w2 gh 9 _ 61 hgh3
          have PRE : Hid (∀ w4, (w2.setCell ⟨gh, 4, none⟩ (.int .i64 (k : Int))).setCell ⟨gh, 9, none⟩ (.int .i64 (k : Int)) = w4 → w4.ownsRow W.heap.size 61 5 u3 m xs0 ∧
              (∀ j u, (Ent.cells ⟨g2, g1, n k, (k : Int), .slice none 0 0, .slice none 0 0, X k, bytesD (X k)⟩ ++ Ent.cells ⟨g3, g4, n k, (k : Int), .slice none 0 0, .slice none 0 0, X k, bytesD (X k)⟩)[j]? = some u → w4.cell? ((⟨gh, 0, none⟩ : Addr).add j) = some u)) := fun w4 e => by
            have ng : u3.ownBlock ≠ some gh := fun e => by have := (B.own_ne.2 gh e).2; omega
            subst e
            refine ⟨own_other (own_other (ownsRow_below o0 B3) _ ng) _ ng, ?_⟩
            have h5 := heap_setCell_same _ gh 9 _ 61 (.int .i64 (k : Int)) (heap_setCell_same w2 gh 4 _ 61 (.int .i64 (k : Int)) hgh3)
            exact World.news_of_block h5
          have GROW : Hid (∀ w4 w5 v', (w2.setCell ⟨gh, 4, none⟩ (.int .i64 (k : Int))).setCell ⟨gh, 9, none⟩ (.int .i64 (k : Int)) = w4 → w5.ownsRow W.heap.size 61 5 v' (m + 2) (xs0 ++ (Ent.cells ⟨g2, g1, n k, (k : Int), .slice none 0 0, .slice none 0 0, X k, bytesD (X k)⟩ ++ Ent.cells ⟨g3, g4, n k, (k : Int), .slice none 0 0, .slice none 0 0, X k, bytesD (X k)⟩)) → w4.grownBy w5 u3.ownBlock →
              ∃ E', Bk W w5 v' (m + 2) E' ∧ Says N n X (m + 2) E') := fun w4 w5 v' e ho hg =>
            ⟨_, B.grow B3 xl l1 l2 l3 l4 l5 q1 q2 q3 q4 (k : Int) _ _ e o0.1 hxs0 ho hg, S.grow k hkN (by omega) _ _ ⟨rfl, rfl, rfl, rfl⟩ ⟨rfl, rfl, rfl, rfl⟩⟩
          have h1c : ∀ u ∈ Ent.cells ⟨g2, g1, n k, (k : Int), .slice none 0 0, .slice none 0 0, X k, bytesD (X k)⟩ ++ Ent.cells ⟨g3, g4, n k, (k : Int), .slice none 0 0, .slice none 0 0, X k, bytesD (X k)⟩, u.oneCell' = true := fun u hu => (List.mem_append.1 hu).elim (Ent.one _ rfl rfl u) (Ent.one _ rfl rfl u)
          have h63 : m + 2 ≤ maxLen := by unfold maxLen; omega
          have hby : (m + 2) * 104 ≤ 140737488355328 := by omega
          have hbase : W.heap.size ≤ w2.heap.size := by have := B3.size; omega
          clear q1 q2 q3 q4 B S hgh3 o0 hxs0
          go_wp2_with (first | (at_builtin; refine wpList_append_own _ rfl _ _ 56 rfl W.heap.size 61 i0 _ 5 104 Tryd.underlying56 hi hz0 hz1 hz2 rfl (by decide) u3 m xs0 rfl (PRE.out _ rfl).1 ⟨gh, 0, none⟩ 2 2 _ rfl rfl (PRE.out _ rfl).2 h1c h63 hby (by simpa using hbase) ?_))
          intro v' w5 hown5 hgrow5 _
          obtain ⟨E', B', S'⟩ := GROW.out _ w5 v' rfl hown5 hgrow5
          clear hown5 hgrow5 PRE GROW h1c h63 hby hbase
          go_wp2
          go_roundw
          case rel => exact ⟨t + 1, by omega, by go_num, m + 2, E', by omega, B', S'⟩
          case measure => simp [intOf]; omega
      · obtain ⟨k0, hkt, hkN0⟩ : ∃ k, t = 3 * k + 2 ∧ k < N := ⟨t / 3, by omega, by omega⟩
        obtain ⟨k, hk0, hkN⟩ : ∃ k, (k0 = 2 * k ∨ k0 = 2 * k + 1) ∧ k < N := ⟨k0 / 2, by omega, by omega⟩
        have d1 : (t : Int) / 3 = (k0 : Int) := by omega
        have d2 : (t : Int) % 3 = 2 := by omega
        have d3 : (k0 : Int) / 2 = (k : Int) := by omega
        clear hkt hr hk0
        have ck : wr.cell? ⟨b, off + k, none⟩ = some (.slice (A k) (n k) (c k)) := (B.below.cell (p := ⟨b, off + k, none⟩) hb).trans (hc k hkN)
        obtain ⟨xl, xw, xa, xn, xm⟩ := hX k hkN
        by_cases hbig : 262144 < n k
        · go_wp2
          go_roundw
          case rel => exact ⟨t + 1, by omega, by go_num, m, E, by omega, B, S⟩
          case measure => simp [intOf]; omega
        · go_wp2_with fail
          have hk := B.below.size
          refine (told_any wr (hT.below B.below h0) (by omega) (A k) (n k) (c k) (X k) xl xw (xa.below B.below) xn (by omega)).mono ?_
          rintro e w2 ⟨g1, g2, g3, g4, gh, l1, l2, l3, l4, l5, rfl, hgh, b1, b2, b3, b4, hb2⟩
          have hk2 := hb2.size
          have hg2 : gh < w2.heap.size := by
            rcases Nat.lt_or_ge gh w2.heap.size with h | h
            · exact h
            · rw [Array.getElem?_eq_none h] at hgh; cases hgh
          have ck2 : w2.cell? ⟨b, off + k, none⟩ = some (.slice (A k) (n k) (c k)) := (hb2.cell (p := ⟨b, off + k, none⟩) (show b < wr.heap.size by omega)).trans ck
          have B3 := hb2
          have hgh3 := hgh
          have q1 := b1
          have q2 := b2
          have q3 := b3
          have q4 := b4
          clear hgh b1 b2 b3 b4 ck2
          obtain ⟨xs0, o0, hxs0⟩ := B.own
          have s4 : w2.cell? ⟨gh, 4, none⟩ = some (.int .i64 0) := (cell_of_row w2 gh 4 _ 61 (0, 0) hgh3).trans rfl
          have s9 : w2.cell? ⟨gh, 9, none⟩ = some (.int .i64 0) := (cell_of_row w2 gh 9 _ 61 (0, 0) hgh3).trans rfl
          have f4 : w2.frozen? ⟨gh, 4, none⟩ = false := frozen_of_row w2 gh 4 _ 61 hgh3
          have f9 : w2.frozen? ⟨gh, 9, none⟩ = false := frozen_of_row w2 gh 9 _ 61 hgh3
          have PRE : Hid (∀ w4, (w2.setCell ⟨gh, 4, none⟩ (.int .i64 (k : Int))).setCell ⟨gh, 9, none⟩ (.int .i64 (k : Int)) = w4 → w4.ownsRow W.heap.size 61 5 u3 m xs0 ∧
              (∀ j u, (Ent.cells ⟨g2, g1, n k, (k : Int), .slice none 0 0, .slice none 0 0, X k, bytesD (X k)⟩ ++ Ent.cells ⟨g3, g4, n k, (k : Int), .slice none 0 0, .slice none 0 0, X k, bytesD (X k)⟩)[j]? = some u → w4.cell? ((⟨gh, 0, none⟩ : Addr).add j) = some u)) := fun w4 e => by
            have ng : u3.ownBlock ≠ some gh := fun e => by have := (B.own_ne.2 gh e).2; omega
            subst e
            refine ⟨own_other (own_other (ownsRow_below o0 B3) _ ng) _ ng, ?_⟩
            have h5 := heap_setCell_same _ gh 9 _ 61 (.int .i64 (k : Int)) (heap_setCell_same w2 gh 4 _ 61 (.int .i64 (k : Int)) hgh3)
            exact World.news_of_block h5
          have GROW : Hid (∀ w4 w5 v', (w2.setCell ⟨gh, 4, none⟩ (.int .i64 (k : Int))).setCell ⟨gh, 9, none⟩ (.int .i64 (k : Int)) = w4 → w5.ownsRow W.heap.size 61 5 v' (m + 2) (xs0 ++ (Ent.cells ⟨g2, g1, n k, (k : Int), .slice none 0 0, .slice none 0 0, X k, bytesD (X k)⟩ ++ Ent.cells ⟨g3, g4, n k, (k : Int), .slice none 0 0, .slice none 0 0, X k, bytesD (X k)⟩)) → w4.grownBy w5 u3.ownBlock →
              ∃ E', Bk W w5 v' (m + 2) E' ∧ Says N n X (m + 2) E') := fun w4 w5 v' e ho hg =>
            ⟨_, B.grow B3 xl l1 l2 l3 l4 l5 q1 q2 q3 q4 (k : Int) _ _ e o0.1 hxs0 ho hg, S.grow k hkN (by omega) _ _ ⟨rfl, rfl, rfl, rfl⟩ ⟨rfl, rfl, rfl, rfl⟩⟩
          have h1c : ∀ u ∈ Ent.cells ⟨g2, g1, n k, (k : Int), .slice none 0 0, .slice none 0 0, X k, bytesD (X k)⟩ ++ Ent.cells ⟨g3, g4, n k, (k : Int), .slice none 0 0, .slice none 0 0, X k, bytesD (X k)⟩, u.oneCell' = true := fun u hu => (List.mem_append.1 hu).elim (Ent.one _ rfl rfl u) (Ent.one _ rfl rfl u)
          have h63 : m + 2 ≤ maxLen := by unfold maxLen; omega
          have hby : (m + 2) * 104 ≤ 140737488355328 := by omega
          have hbase : W.heap.size ≤ w2.heap.size := by have := B3.size; omega
          clear q1 q2 q3 q4 B S hgh3 o0 hxs0
          go_wp2_with (first | (at_builtin; refine wpList_append_own _ rfl _ _ 56 rfl W.heap.size 61 i0 _ 5 104 Tryd.underlying56 hi hz0 hz1 hz2 rfl (by decide) u3 m xs0 rfl (PRE.out _ rfl).1 ⟨gh, 0, none⟩ 2 2 _ rfl rfl (PRE.out _ rfl).2 h1c h63 hby (by simpa using hbase) ?_))
          intro v' w5 hown5 hgrow5 _
          obtain ⟨E', B', S'⟩ := GROW.out _ w5 v' rfl hown5 hgrow5
          clear hown5 hgrow5 PRE GROW h1c h63 hby hbase
          go_wp2
          go_roundw
          case rel => exact ⟨t + 1, by omega, by go_num, m + 2, E', by omega, B', S'⟩
          case measure => simp [intOf]; omega
    · obtain rfl : t = 3 * N := by omega
      have hlt' : ¬ ((3 * (N : Int)) < 3 * (N : Int)) := by omega
      obtain ⟨bo, bc, rfl, hmc, hbo⟩ := B.form
      go_wp2
      go_loopw [8] (fun i wr => ∃ t : Nat, t ≤ m ∧ i = .int .i64 t ∧ Bk W wr (.slice bo m bc) m E) (fun i _ => m - (intOf i).toNat)
      case atStart => exact ⟨0, Nat.zero_le _, rfl, B⟩
      case round =>
        clear B hlt' ht hlt
        obtain ⟨t, ht, rfl, B⟩ := hrel
        by_cases hlt : t < m
        · obtain ⟨gk, rfl⟩ := hbo (by omega)
          obtain ⟨k, hkN, smk, sn, snk, slw, slb⟩ := S t hlt
          obtain ⟨b, off, rfl, hb, hc⟩ : ∃ b off, ao = some ⟨b, off, none⟩ ∧ b < W.heap.size ∧ ∀ k, k < N → W.cell? ⟨b, off + k, none⟩ = some (.slice (A k) (n k) (c k)) := by
            rcases hs with rfl | h
            · omega
            · exact h
          have ck : wr.cell? ⟨b, off + k, none⟩ = some (.slice (A k) (n k) (c k)) := (B.below.cell (p := ⟨b, off + k, none⟩) hb).trans (hc k hkN)
          obtain ⟨xl, xw, xa, xn, xm⟩ := hX k hkN
          have c0 := B.cell t 0 hlt (by decide)
          have c2 := B.cell t 2 hlt (by decide)
          have c4 := B.cell t 4 hlt (by decide)
          have bw := B.lw t hlt
          have bb := B.lb t hlt
          have hgk := B.lt.2
          simp only [Ent.cells, smk, sn, Nat.add_zero] at c0 c2 c4
          rw [slw] at bw
          rw [slb] at bb
          simp at c0 c2 c4
          generalize (E t).gl = gl at *
          generalize (E t).gb = gb at *
          have hbl : (bytesD (X k)).length = 4 * n k := by rw [bytesD_length, xl]
          have hbW := B.below
          have hk := hbW.size
          have xa' := xa.below hbW
          have SAME : Hid (∀ w, Below wr.heap.size wr w → Calls Tryd.prog 18 #[.slice (some ⟨gl, 0, none⟩) (n k) (n k), .slice (A k) (n k) (c k)] w fun e w' => e = .returned (.bool true) ∧ Below wr.heap.size wr w' ∧ w'.cell? ⟨gk, t * 5 + 2, none⟩ = some (.slice (some ⟨gb, 0, none⟩) (4 * n k) (4 * n k)) ∧ (convert 36 9 (.slice (some ⟨gb, 0, none⟩) (4 * n k) (4 * n k))).run Tryd.prog w' = .ok (.string (strOfNums (bytesD (X k)))) w') := fun w hw => by
            refine (lawSame_yes w _ _ (n k) _ _ (X k) xl (bw.at.below hw) (xa'.below hw) (by omega)).mono ?_
            rintro e w' ⟨rfl, q, rfl⟩
            have hw' := below_drewN hw q
            exact ⟨rfl, hw', (hw'.cell (p := ⟨gk, t * 5 + 2, none⟩) hgk).trans c2, conv_at (bb.at.below hw') _ _ hbl⟩
          have RBYTES : Hid (∀ w, Below wr.heap.size wr w → Calls Tryd.prog 30 #[.slice (A k) (n k) (c k)] w fun e w' => ∃ ro rc, e = .returned (.slice ro (4 * n k) rc) ∧ Below wr.heap.size wr w' ∧ w'.cell? ⟨gk, t * 5 + 2, none⟩ = some (.slice (some ⟨gb, 0, none⟩) (4 * n k) (4 * n k)) ∧ (convert 36 9 (.slice (some ⟨gb, 0, none⟩) (4 * n k) (4 * n k))).run Tryd.prog w' = .ok (.string (strOfNums (bytesD (X k)))) w' ∧ (convert 36 9 (.slice ro (4 * n k) rc)).run Tryd.prog w' = .ok (.string (strOfNums (bytesD (X k)))) w') := fun w hw => by
            refine (rbytes_at w (A k) (n k) (c k) (X k) xl xw (xa'.below hw) (by omega)).mono ?_
            rintro e w' ⟨v, rfl, F⟩
            obtain ⟨ro, rc, hv, hr, _⟩ := F.at'
            rw [hbl] at hv
            subst hv
            have hw' := hw.trans (F.below.mono hw.size)
            exact ⟨ro, rc, rfl, hw', (hw'.cell (p := ⟨gk, t * 5 + 2, none⟩) hgk).trans c2, conv_at (bb.at.below hw') _ _ hbl, conv_at hr _ _ hbl⟩
          have DR : Hid (Below wr.heap.size wr wr.drew) := (Below.refl _ _).drew
          have FIN : Hid (∀ w, Below wr.heap.size wr w → Bk W w (.slice (some ⟨gk, 0, none⟩) m bc) m E) := fun w hw => B.carry hw
          clear B bw bb xa xa' hbW hs hX hc S hbo slw slb smk sn
          go_wp2_with fail
          go_region_with (first | (go_at_call 18; refine (SAME.out _ DR.out).mono ?_; rintro e wa ⟨rfl, hba, cca, cva⟩) | (go_at_call 30; refine (RBYTES.out _ hba).mono ?_; rintro e wb ⟨ro, rc, rfl, hbb, ccb, cvx, cvy⟩))
          all_goals
            have FB := FIN.out _ hbb
            clear SAME RBYTES hba cca cva ccb cvx cvy FIN hbb
            go_wp2
            refine ⟨⟨t + 1, by omega, by go_num, FB⟩, by simp [intOf]; omega⟩
        · obtain rfl : m = t := by omega
          have M0 : Mk3 0 m E := ⟨fun i hi => by obtain ⟨k, _, _, sn, snk, _⟩ := S i hi; omega, fun i hi => absurd hi (by omega)⟩
          clear hlt hs hX S
          have hmb : m ≤ 6291456 := by omega
          go_wp2
          go_loopw [10] (fun i wr => ∃ t : Nat, t ≤ m ∧ i = .int .i64 t ∧ ∃ E, Bk W wr (.slice bo m bc) m E ∧ Mk3 t m E) (fun i _ => m - (intOf i).toNat)
          case atStart => exact ⟨0, Nat.zero_le _, rfl, E, B, M0⟩
          case round =>
            clear B M0 ht
            obtain ⟨t, ht, rfl, E, B, M⟩ := hrel
            by_cases hlt : t < m
            · obtain ⟨gk, rfl⟩ := hbo (by omega)
              have c4 := B.cell t 4 hlt (by decide)
              have f4 := B.free (t * 5 + 4)
              have B1 := B.setMark t hlt (1000 + (t : Int))
              simp only [Ent.cells] at c4
              simp at c4
              have hn := M.1 t hlt
              obtain ⟨nn, hnn⟩ : ∃ nn, (E t).n = nn := ⟨_, rfl⟩
              rw [hnn] at hn
              clear B
              go_wp2
              go_loopw [11] (fun j w => ∃ s : Nat, s ≤ nn ∧ j = .int .i64 s ∧ ∃ E1, Bk W w (.slice (some ⟨gk, 0, none⟩) m bc) m E1 ∧ InA t s E E1) (fun j _ => nn - (intOf j).toNat)
              case atStart => exact ⟨0, Nat.zero_le _, rfl, _, B1, InA.start⟩
              case round =>
                clear c4 f4 B1
                obtain ⟨s, hs, rfl, E1, B, I⟩ := hrel
                have c0 := B.cell t 0 hlt (by decide)
                simp only [Ent.cells, I.2.2.1, hnn, Nat.add_zero] at c0
                simp at c0
                have hl := (B.len t hlt).1
                rw [I.2.2.1, hnn] at hl
                by_cases hsl : s < nn
                · have cl := (B.lw t hlt).cell s (by omega)
                  have fl := (B.lw t hlt).free s
                  have B2 := B.setW t hlt s (1000 + (t : Int))
                  have I2 := I.step (show s < (E1 t).lw.length by omega)
                  clear B I
                  go_wp2
                  exact ⟨⟨s + 1, by omega, by go_num, _, B2, I2⟩, by simp [intOf]; omega⟩
                · obtain rfl : nn = s := by omega
                  rw [← hnn] at I
                  have I2 := I.turn (by rw [I.2.2.1]; omega)
                  rw [hnn] at I
                  go_wp2
                  go_loopw [12] (fun j w => ∃ s : Nat, s ≤ 4 * nn ∧ j = .int .i64 s ∧ ∃ E1, Bk W w (.slice (some ⟨gk, 0, none⟩) m bc) m E1 ∧ InB t s E E1) (fun j _ => 4 * nn - (intOf j).toNat)
                  case atStart => exact ⟨0, Nat.zero_le _, rfl, _, B, I2⟩
                  case round =>
                    clear B I I2 c0 hl hsl hs
                    obtain ⟨s, hs, rfl, E2, B, I⟩ := hrel
                    have c2 := B.cell t 2 hlt (by decide)
                    simp only [Ent.cells, I.2.2.1, hnn] at c2
                    simp at c2
                    have hl := (B.len t hlt).2
                    rw [I.2.2.1, hnn] at hl
                    by_cases hsl : s < 4 * nn
                    · have cl := (B.lb t hlt).cell s (by omega)
                      have fl := (B.lb t hlt).free s
                      have B2 := B.setB t hlt s ((1000 + (t : Int)) % 256)
                      have I2 := I.step (show s < (E2 t).lb.length by omega)
                      have hi4 : (s : Int) < 4 * (nn : Int) := by omega
                      clear B I
                      go_wp2
                      exact ⟨⟨s + 1, by omega, by go_num, _, B2, I2⟩, by simp [intOf]; omega⟩
                    · obtain rfl : s = 4 * nn := by omega
                      rw [← hnn] at I
                      have M2 := I.turn (by rw [I.2.2.1, hl, hnn]) M hlt
                      have hi4 : ¬ (4 * (nn : Int)) < 4 * (nn : Int) := by omega
                      go_wp2
                      exact ⟨⟨t + 1, by omega, by go_num, _, B, M2⟩, by simp [intOf]; omega⟩
            · obtain rfl : m = t := by omega
              go_wp2
              go_loopw [13] (fun i wr => ∃ t : Nat, t ≤ m ∧ i = .int .i64 t ∧ ∃ E, Bk W wr (.slice bo m bc) m E ∧ Mk3 m m E ∧ ∀ i, i < t → Ext W wr (E i) i) (fun i _ => m - (intOf i).toNat)
              case atStart => exact ⟨0, Nat.zero_le _, rfl, E, B, M, fun i hi => absurd hi (by omega)⟩
              case round =>
                clear B M ht hlt
                obtain ⟨t, ht, rfl, E, B, M, X⟩ := hrel
                by_cases hlt : t < m
                · obtain ⟨gk, rfl⟩ := hbo (by omega)
                  obtain ⟨mk1, mk2, mk3⟩ := M.2 t hlt hlt
                  have hnt := M.1 t hlt
                  have c0 := B.cell t 0 hlt (by decide)
                  have c1 := B.cell t 1 hlt (by decide)
                  have c4 := B.cell t 4 hlt (by decide)
                  have f1 := B.free (t * 5 + 1)
                  have bw := B.lw t hlt
                  have hgk := B.lt.2
                  rw [mk2] at bw
                  simp only [Ent.cells, mk1, Nat.add_zero] at c0 c1 c4
                  simp at c0 c1 c4
                  have SB : Hid (∀ w1, Below wr.heap.size wr w1 → w1.cell? ⟨gk, t * 5, none⟩ = some (.slice (some ⟨(E t).gl, 0, none⟩) (E t).n (E t).n) ∧ w1.cell? ⟨gk, t * 5 + 4, none⟩ = some (.int .i64 (1000 + (t : Int)))) := fun w1 hw1 =>
                    ⟨(hw1.cell (p := ⟨gk, t * 5, none⟩) hgk).trans c0, (hw1.cell (p := ⟨gk, t * 5 + 4, none⟩) hgk).trans c4⟩
                  have SC : Hid (∀ w1, Below wr.heap.size wr w1 → w1.cell? ⟨gk, t * 5 + 1, none⟩ = some (E t).mo ∧ w1.frozen? ⟨gk, t * 5 + 1, none⟩ = false) := fun w1 hw1 =>
                    ⟨(hw1.cell (p := ⟨gk, t * 5 + 1, none⟩) hgk).trans c1, (World.frozen?_of_block (hw1.block gk hgk)).trans f1⟩
                  have SS : Hid (∀ w1 u, Below wr.heap.size wr w1 → (w1.setCell ⟨gk, t * 5 + 1, none⟩ u).cell? ⟨gk, t * 5, none⟩ = some (.slice (some ⟨(E t).gl, 0, none⟩) (E t).n (E t).n) ∧ (w1.setCell ⟨gk, t * 5 + 1, none⟩ u).cell? ⟨gk, t * 5 + 4, none⟩ = some (.int .i64 (1000 + (t : Int)))) := fun w1 u hw1 => by
                    exact ⟨(cell_beside w1 gk _ _ u (by omega)).trans (SB.out w1 hw1).1, (cell_beside w1 gk _ _ u (by omega)).trans (SB.out w1 hw1).2⟩
                  have KP : Hid (∀ w w1, Below wr.heap.size wr w → w.grownBy w1 none → Below wr.heap.size wr w1) := fun w w1 hw hg => hw.grown hg hw.size (fun k hk => by cases hk)
                  generalize hgl : (E t).gl = gl at *
                  generalize hnn : (E t).n = nn at *
                  generalize hmo : (E t).mo = mo at *
                  have OLD : Hid (∀ w, Below wr.heap.size wr w → ∀ j u, (List.replicate nn (Value.int .u32 (1000 + (t : Int))))[j]? = some u → w.cell? ((⟨gl, 0, none⟩ : Addr).add j) = some u) := fun w hw j u hu => by
                    have := (bw.at.below hw).cells j u
                    rw [List.map_replicate] at this
                    exact this hu
                  have hwr : IntKind.u32.wrap (1000 + (t : Int)) = 1000 + (t : Int) := by simp [IntKind.wrap, IntKind.signed, IntKind.bits]; omega
                  have hnb : nn + 1 ≤ maxLen := by unfold maxLen; omega
                  have hby : (nn + 1) * 4 ≤ 140737488355328 := by omega
                  obtain ⟨i2, hi2, hy0, hy1, hy2⟩ := info_parts Tryd.info22
                  clear bw
                  go_wp2_with fail
                  go_region_held3 (fun w' => w'.cell? ⟨gk, t * 5, none⟩ = some (.slice (some ⟨gl, 0, none⟩) nn nn) ∧ w'.cell? ⟨gk, t * 5 + 4, none⟩ = some (.int .i64 (1000 + (t : Int)))) (first | (exact SB.out _ ((Below.refl _ _).alloc (Nat.le_refl _) _).drew) | (exact SB.out _ hw1) | (exact SS.out _ _ hw1) | go_keep)
                    ((refine step_append_full _ (by rfl) _ _ 32 (by rfl) 22 i2 (.int .u32 0) 1 4 Tryd.underlying32 hi2 hy0 hy1 hy2 (by rfl) (by decide) ⟨gl, 0, none⟩ nn nn (List.replicate nn (.int .u32 (1000 + (t : Int)))) (by rfl) (by simp) (OLD.out _ ((Below.refl _ _).alloc (Nat.le_refl _) _).drew) ⟨wr.heap.size, 0, none⟩ 1 1 [.int .u32 (1000 + (t : Int))] (by rfl) (by rfl) (World.news_of_block (cs := #[.int .u32 (1000 + (t : Int))]) (heap_alloc_new _ _)) (by omega) (by decide) hnb hby ?_; intro gm cm w1 hown hgrow; have hw1 := KP.out _ _ ((Below.refl _ _).alloc (Nat.le_refl _) _).drew hgrow; obtain ⟨k1, k2⟩ := SC.out _ hw1))
                  rename_i hHeld
                  clear hHeld
                  rw [replicate_one] at hown
                  have hsW := B.below.size
                  have o1 := ownsRow_base hown (show W.heap.size ≤ _ by simp; omega)
                  obtain ⟨E2, B2, M2, X2, hn2, om2⟩ := B.more M X hlt hw1 _ (by rw [hnn]; exact o1)
                  generalize w1.setCell ⟨gk, t * 5 + 1, none⟩ (.slice (some ⟨gm, 0, none⟩) (nn + 1) cm) = w2 at *
                  clear hown hgrow hw1 k1 k2 o1 SB SC SS KP OLD hwr hnb hby i2 hi2 hy0 hy1 hy2 B M X hgl hmo mk1 mk2 mk3 c0 c1 c4 f1 hgk
                  obtain ⟨mk1, mk2, mk3⟩ := M2.2 t hlt hlt
                  have c2 := B2.cell t 2 hlt (by decide)
                  have c3 := B2.cell t 3 hlt (by decide)
                  have c4 := B2.cell t 4 hlt (by decide)
                  have f3 := B2.free (t * 5 + 3)
                  have bb := B2.lb t hlt
                  have hgk := B2.lt.2
                  rw [mk3] at bb
                  rw [hn2] at bb
                  simp only [Ent.cells, mk1, hn2] at c2 c3 c4
                  simp at c2 c3 c4
                  rw [hnn] at bb c2
                  have SB : Hid (∀ w1, Below w2.heap.size w2 w1 → w1.cell? ⟨gk, t * 5 + 2, none⟩ = some (.slice (some ⟨(E2 t).gb, 0, none⟩) (4 * nn) (4 * nn)) ∧ w1.cell? ⟨gk, t * 5 + 4, none⟩ = some (.int .i64 (1000 + (t : Int)))) := fun w1 hw1 =>
                    ⟨(hw1.cell (p := ⟨gk, t * 5 + 2, none⟩) hgk).trans c2, (hw1.cell (p := ⟨gk, t * 5 + 4, none⟩) hgk).trans c4⟩
                  have SC : Hid (∀ w1, Below w2.heap.size w2 w1 → w1.cell? ⟨gk, t * 5 + 3, none⟩ = some (E2 t).ex ∧ w1.frozen? ⟨gk, t * 5 + 3, none⟩ = false) := fun w1 hw1 =>
                    ⟨(hw1.cell (p := ⟨gk, t * 5 + 3, none⟩) hgk).trans c3, (World.frozen?_of_block (hw1.block gk hgk)).trans f3⟩
                  have SS : Hid (∀ w1 u, Below w2.heap.size w2 w1 → (w1.setCell ⟨gk, t * 5 + 3, none⟩ u).cell? ⟨gk, t * 5 + 2, none⟩ = some (.slice (some ⟨(E2 t).gb, 0, none⟩) (4 * nn) (4 * nn)) ∧ (w1.setCell ⟨gk, t * 5 + 3, none⟩ u).cell? ⟨gk, t * 5 + 4, none⟩ = some (.int .i64 (1000 + (t : Int)))) := fun w1 u hw1 => by
                    exact ⟨(cell_beside w1 gk _ _ u (by omega)).trans (SB.out w1 hw1).1, (cell_beside w1 gk _ _ u (by omega)).trans (SB.out w1 hw1).2⟩
                  have KP : Hid (∀ w w1, Below w2.heap.size w2 w → w.grownBy w1 none → Below w2.heap.size w2 w1) := fun w w1 hw hg => hw.grown hg hw.size (fun k hk => by cases hk)
                  generalize hgb : (E2 t).gb = gb at *
                  generalize hex : (E2 t).ex = ex at *
                  have hq : IntKind.u8.wrap (1000 + (t : Int)) = (1000 + (t : Int)) % 256 := by simp [IntKind.wrap, IntKind.signed, IntKind.bits]
                  generalize hqq : (1000 + (t : Int)) % 256 = q at *
                  have OLD : Hid (∀ w, Below w2.heap.size w2 w → ∀ j u, (List.replicate (4 * nn) (Value.int .u8 q))[j]? = some u → w.cell? ((⟨gb, 0, none⟩ : Addr).add j) = some u) := fun w hw j u hu => by
                    have := (bb.at.below hw).cells j u
                    rw [List.map_replicate] at this
                    exact this hu
                  have hnb : 4 * nn + 1 ≤ maxLen := by unfold maxLen; omega
                  have hby : (4 * nn + 1) * 1 ≤ 140737488355328 := by omega
                  obtain ⟨i2, hi2, hy0, hy1, hy2⟩ := info_parts Tryd.info5
                  clear bb
                  go_wp2_with fail
                  go_region_held3 (fun w' => w'.cell? ⟨gk, t * 5 + 2, none⟩ = some (.slice (some ⟨gb, 0, none⟩) (4 * nn) (4 * nn)) ∧ w'.cell? ⟨gk, t * 5 + 4, none⟩ = some (.int .i64 (1000 + (t : Int)))) (first | (exact SB.out _ ((Below.refl _ _).alloc (Nat.le_refl _) _).drew) | (exact SB.out _ hw1) | (exact SS.out _ _ hw1) | go_keep)
                    ((refine step_append_full _ (by rfl) _ _ 36 (by rfl) 5 i2 (.int .u8 0) 1 1 Tryd.underlying36 hi2 hy0 hy1 hy2 (by rfl) (by decide) ⟨gb, 0, none⟩ (4 * nn) (4 * nn) (List.replicate (4 * nn) (.int .u8 q)) (by rfl) (by simp) (OLD.out _ ((Below.refl _ _).alloc (Nat.le_refl _) _).drew) ⟨w2.heap.size, 0, none⟩ 1 1 [.int .u8 q] (by rfl) (by rfl) (World.news_of_block (cs := #[.int .u8 q]) (heap_alloc_new _ _)) (by omega) (by decide) hnb hby ?_; intro gx cx w1 hown hgrow; have hw1 := KP.out _ _ ((Below.refl _ _).alloc (Nat.le_refl _) _).drew hgrow; obtain ⟨k1, k2⟩ := SC.out _ hw1))
                  rename_i hHeld
                  clear hHeld
                  rw [replicate_one] at hown
                  have hsW := B2.below.size
                  have o1 := ownsRow_base hown (show W.heap.size ≤ _ by simp; omega)
                  obtain ⟨E3, B3, M3, X3⟩ := B2.extra M2 X2 hlt hw1 _ (by rw [hn2]; exact om2) (by rw [hn2, hnn, hqq]; exact o1)
                  generalize w1.setCell ⟨gk, t * 5 + 3, none⟩ (.slice (some ⟨gx, 0, none⟩) (4 * nn + 1) cx) = w3 at *
                  clear hown hgrow hw1 k1 k2 o1 SB SC SS KP OLD hq hnb hby i2 hi2 hy0 hy1 hy2 B2 M2 X2 hgb hex mk1 mk2 mk3 c2 c3 c4 f3 hgk
                  go_wp2
                  exact ⟨⟨t + 1, by omega, by go_num, E3, B3, M3, X3⟩, by simp [intOf]; omega⟩
                · obtain rfl : m = t := by omega
                  have V := M.over X
                  have hwz := B.below.size
                  have hb1 := below_one wr (.cells #[.int .u32 16909060] 22)
                  have hrow : Row (wr.alloc (.cells #[.int .u32 16909060] 22)) .u32 wr.heap.size 0 [16909060] := by
                    intro i hi
                    obtain rfl : i = 0 := by simp at hi; omega
                    exact cell_of_row _ wr.heap.size 0 _ 22 (0, 0) (heap_alloc_new wr _)
                  go_wp2_with fail
                  refine (bytes_any _ (hT.below (B.below.trans (hb1.mono hwz)) h0) wr.heap.size 0 1 1 [16909060] rfl (by intro j; rcases j with _ | j <;> simp [List.getD_eq_getElem?_getD]) hrow (by decide) (by simp) (by simp)).mono ?_
                  rintro e w1 ⟨rfl, F⟩
                  have bk := F.owned.blk
                  rw [one_bytes] at bk
                  have hbF := F.below
                  have hltF := F.lt
                  clear F hrow
                  have hb2 := hb1.trans (hbF.mono hb1.size)
                  generalize hgo : (wr.alloc (.cells #[.int .u32 16909060] 22)).heap.size = go at *
                  have B2 := B.carry hb2
                  go_wp2_with fail
                  refine (marked_any W w1 bo m bc E B2 hbo hmb (fun i hi => (V i hi).carry hb2) M.1).mono ?_
                  rintro e w2 ⟨rfl, hb3⟩
                  have bk2 := bk.below hb3 bk.lt
                  have o0 := bk2.cell 0 (by decide)
                  have o3 := bk2.cell 3 (by decide)
                  simp at o0 o3
                  have hW := B2.below.trans (hb3.mono B2.below.size)
                  go_wp2
                  go_ret
                  exact ⟨rfl, hW⟩
end Go.Proofs.YtlfnpllojinjdaaDoor
