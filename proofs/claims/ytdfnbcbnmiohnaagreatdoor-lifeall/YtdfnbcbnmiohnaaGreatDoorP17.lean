import Derived.Test.YtdfnbcbnmiohnaaGreatDoorP16
import Derived.Test.YtdfnbcbnmiohnaaGreatDoorP09
namespace Go.Proofs.YtdfnbcbnmiohnaaGreatDoor.H
open Go.RowKit

attribute [-simp] Tryz.isAgg166 Tryz.sizeOf166 Tryz.zeroValue166
set_option maxRecDepth 20000 in
set_option maxHeartbeats 2000000 in
theorem blockAt_any (W : World) (ao : Option Addr) (m c i : Nat) (bs : List Int) (hx : bs.length = m) (hbs : Bts bs) (hat : At W .u8 ao bs) (hi : i + 64 ≤ m) (hm : m ≤ 140737488355328) :
    Calls Tryz.prog 160 #[.slice ao m c, .int .i64 (i : Int)] W fun e W' => e = .returned (Ag (wordsD ((bs.drop i).take 64) 16)) ∧ Below W.heap.size W W' := by
  rcases hat with h0 | ⟨b, off, rfl, hbl, h1⟩
  · rw [h0] at hx; simp at hx; omega
  obtain ⟨Y, hY⟩ : ∃ Y : List Int, Y = List.replicate 16 0 := ⟨_, rfl⟩
  have hYl : Y.length = 16 := by rw [hY]; simp
  have hz' : ∀ w, (zeroValue 166).run Tryz.prog w = .ok (.agg (Y.map (Value.int .u32)).toArray) w := fun w => by rw [Tryz.zeroValue166, hY]; rfl
  have hY0 : ∀ b, partW b 16 0 = Y := fun b => by rw [hY]; exact partW_zero b 16
  clear hY
  obtain ⟨bk, hbk⟩ : ∃ bk, bk = (bs.drop i).take 64 := ⟨_, rfl⟩
  have hbkb : Bts bk := by rw [hbk]; exact bts_take (bts_drop hbs _) _
  have hbkg : ∀ j, j < 64 → bk.getD j 0 = bs.getD (i + j) 0 := fun j hj => by rw [hbk, getD_take hj, getD_drop]
  rw [← hbk]
  clear hbk
  have i1 : (i : Int) + 64 ≤ (m : Int) := by omega
  have i2 : (m : Int) ≤ 140737488355328 := by omega
  have b0 : Blk ((W.alloc (Obj.cells (List.map (Value.int IntKind.u32) Y).toArray 166)).alloc (Obj.cells (List.map (Value.int IntKind.u32) Y).toArray 166)) W.heap.size .u32 166 Y := (Blk.new W .u32 166 Y).alloc _
  have b1 : Blk ((W.alloc (Obj.cells (List.map (Value.int IntKind.u32) Y).toArray 166)).alloc (Obj.cells (List.map (Value.int IntKind.u32) Y).toArray 166)) (W.heap.size + 1) .u32 166 Y := Blk.newAt (by simp) .u32 166 Y
  have hb0 : Below W.heap.size W ((W.alloc (Obj.cells (List.map (Value.int IntKind.u32) Y).toArray 166)).alloc (Obj.cells (List.map (Value.int IntKind.u32) Y).toArray 166)) := (below_one _ _).alloc (by simp) _
  have B0 : Hid (Blk _ W.heap.size .u32 166 Y) := b0
  have B1 : Hid (Blk _ (W.heap.size + 1) .u32 166 Y) := b1
  have HB0 : Hid (Below W.heap.size W _) := hb0
  clear b0 b1 hb0 hm hi
  go_enter Tryz.func160, Tryz.ntmps160
  go_wp2
  go_loopw [6, 7] (fun j _ wr => ∃ t : Nat, t ≤ 16 ∧ j = .int .i64 (t : Int) ∧ Blk wr W.heap.size .u32 166 Y ∧ Blk wr (W.heap.size + 1) .u32 166 (partW bk 16 (4 * t)) ∧ Below W.heap.size W wr) (fun j _ _ => 16 - (intOf j).toNat)
  case atStart => exact ⟨0, by decide, rfl, B0.out, by rw [hY0]; exact B1.out, HB0.out⟩
  case round =>
    clear B0 B1 HB0
    obtain ⟨t, ht, rfl, b0, b1, hb⟩ := hrel
    by_cases hlt : t < 16
    · go_wp2
      go_loopw [7] (fun j wr => ∃ k : Nat, k ≤ 4 ∧ j = .int .i64 (k : Int) ∧ Blk wr W.heap.size .u32 166 Y ∧ Blk wr (W.heap.size + 1) .u32 166 (partW bk 16 (4 * t + k)) ∧ Below W.heap.size W wr) (fun j _ => 4 - (intOf j).toNat)
      case atStart => exact ⟨0, by decide, rfl, b0, b1, hb⟩
      case round =>
        clear b0 b1 hb
        obtain ⟨k, hk, rfl, b0, b1, hb⟩ := hrel
        by_cases hklt : k < 4
        · have hcb := (h1.below hb hbl) (i + (4 * t + k)) (by rw [hx]; omega)
          rw [← hbkg (4 * t + k) (by omega)] at hcb
          obtain ⟨q0, q1⟩ := hbkb (4 * t + k)
          obtain ⟨x0, x1⟩ := wordAt_bound bk hbkb t k hklt
          have hps := partW_step bk 16 t k hlt hklt
          have hcell := b1.cell t (by rw [partW_length]; omega)
          rw [partW_getD bk 16 _ t hlt] at hcell
          have hfree := b1.free t
          have HS : Hid (∀ u, u = wordAt bk (4 * t + k) t * 256 + bk.getD (4 * t + k) 0 → Blk (wr.drew.setCell ⟨W.heap.size + 1, t, none⟩ (.int .u32 u)) W.heap.size .u32 166 Y ∧ Blk (wr.drew.setCell ⟨W.heap.size + 1, t, none⟩ (.int .u32 u)) (W.heap.size + 1) .u32 166 (partW bk 16 (4 * t + k + 1)) ∧ Below W.heap.size W (wr.drew.setCell ⟨W.heap.size + 1, t, none⟩ (.int .u32 u))) := fun u hu => by
            have := b1.drew.set t u
            rw [hps u hu] at this
            exact ⟨b0.drew.other _ (by omega), this, hb.drew.setCell (show W.heap.size ≤ W.heap.size + 1 by omega) _⟩
          have j1 : (i : Int) + 4 * (t : Int) + (k : Int) < (m : Int) := by omega
          have j2 : ((i : Int) + 4 * (t : Int) + (k : Int)).toNat = i + (4 * t + k) := by omega
          have j3 : (0 : Int) ≤ (i : Int) + 4 * (t : Int) + (k : Int) := by omega
          have j4 : IntKind.i64.wrap ((i : Int) + 4 * (t : Int) + (k : Int)) = (i : Int) + 4 * (t : Int) + (k : Int) := by rw [IntKind.wrap_i64]; omega
          have j5 : IntKind.i64.wrap ((i : Int) + 4 * (t : Int)) = (i : Int) + 4 * (t : Int) := by rw [IntKind.wrap_i64]; omega
          clear b0 b1 hb hps
          generalize wordAt bk (4 * t + k) t = x at *
          generalize bk.getD (4 * t + k) 0 = y at *
          go_wp2
          go_region
          go_wp2
          go_roundw
          case rel =>
            exact ⟨k + 1, by omega, by go_num, HS.out _ (by omega)⟩
          case measure => simp [intOf]; omega
        · obtain rfl : k = 4 := by omega
          go_wp2
          go_roundw
          case rel => exact ⟨t + 1, by omega, by go_num, b0, b1, hb⟩
          case measure => simp [intOf]; omega
    · obtain rfl : t = 16 := by omega
      have hl : (wordsD bk 16).length = 16 := wordsD_length _ _
      have B0 : Hid (Blk wr W.heap.size .u32 166 Y) := b0
      have B1 : Hid (Blk wr (W.heap.size + 1) .u32 166 (wordsD bk 16)) := b1
      have HB : Hid (Below W.heap.size W wr) := hb
      clear b0 b1 hb
      go_wp2_with (first | (refine wpList_load_blk rfl 166 _ rfl (W.heap.size + 1) (wordsD bk 16) rfl B1.out Tryz.underlying166 (by rw [hl]; exact size51) ?_) | (refine wpList_store_blk rfl 166 _ _ rfl W.heap.size (wordsD bk 16) rfl rfl B0.out (by rw [hl]; exact size51) (by rw [hl, hYl]) ?_))
      refine ret_cell rfl rfl W.heap.size (wordsD bk 16) rfl (B0.out.setRow _) Tryz.underlying166 (by rw [hl]; exact size51) ⟨rfl, ?_⟩
      exact below_setRow HB.out (Nat.le_refl _) _
end Go.Proofs.YtdfnbcbnmiohnaaGreatDoor.H
