import Derived.Test.YtncnogndopgknaaGreatDoorP03
import Derived.Laws.BitsAllLaws
import Derived.Lib.AppendZeros
import Derived.Test.YtncnogndopgknaaGreatDoorP10
import Derived.Lib.ItoaNum
import Derived.Lib.ItoaMem
import Derived.Test.YtncnogndopgknaaGreatDoorP11
namespace Go.Proofs.YtncnogndopgknaaGreatDoor
open Go.RowKit
namespace T
def hexT8 (w : Nat) (t : Nat) : List UInt8 := (List.range t).map fun i => hexD (w / 16 ^ (7 - i) % 16)
theorem hexT8_succ (w t : Nat) : hexT8 w (t + 1) = hexT8 w t ++ [hexD (w / 16 ^ (7 - t) % 16)] := by simp [hexT8, List.range_succ]
theorem hexT8_length (w t : Nat) : (hexT8 w t).length = t := by simp [hexT8]
def hexed8 (w : Nat) : List UInt8 := [48, 120] ++ hexT8 w 8
end T
theorem HB.made (W : World) (C : Array Value) (l : List UInt8) (hC : C = (Lib.byteCells l).toArray) (hl : l.length ≤ maxLen) : HB W (W.alloc (.cells C 5)) (.slice (some ⟨W.heap.size, 0, none⟩) l.length l.length) l := by
  subst hC
  refine ⟨⟨by simp [Lib.byteCells], .inr ⟨W.heap.size, l.length, _, rfl, Nat.le_refl _, heap_alloc_new W _, Nat.le_refl _, hl, by simp [Lib.byteCells], ?_⟩⟩, (Below.refl _ _).alloc (Nat.le_refl _) _⟩
  rw [Nat.mul_one, List.take_of_length_le (by simp [Lib.byteCells])]
theorem and15w (a : Int) (h0 : 0 ≤ a) (h1 : a < 4294967296) : bits .and .u32 a 15 = a % 16 := by
  rw [u32_and _ _ h0 h1 (by omega) (by omega), show (15 : Int).toNat = 2 ^ 4 - 1 from rfl, Nat.and_two_pow_sub_one_eq_mod]
  omega

theorem conv_mark (W : World) : ∃ W1, (convert 91 91 (.slice (some ⟨W.heap.size, 0, none⟩) 2 2)).run Tryz.prog (W.alloc (.cells #[.int .u8 48, .int .u8 120] 5)) = .ok (.slice (some ⟨W.heap.size, 0, none⟩) 2 2) W1 ∧
    Below W.heap.size W W1 ∧ W1.cell? ⟨W.heap.size, 0, none⟩ = some (.int .u8 48) ∧ W1.cell? ⟨W.heap.size, 1, none⟩ = some (.int .u8 120) ∧ W.heap.size < W1.heap.size := by
  have hsh : (W.alloc (.cells #[.int .u8 48, .int .u8 120] 5)).shape? W.heap.size = some (5, 2) := by
    simp [World.shape?, World.alloc, -World.alloc_eq]
  have hat : ((W.alloc (.cells #[.int .u8 48, .int .u8 120] 5)).freeze ⟨W.heap.size, 2, none⟩ 1).heap[W.heap.size]? = some (.cells #[.int .u8 48, .int .u8 120] 5 (2, 3)) := by
    simp [World.freeze, World.alloc, -World.alloc_eq]
    rw [Array.getElem_modify_self]
    simp
  refine ⟨(W.alloc (.cells #[.int .u8 48, .int .u8 120] 5)).freeze ⟨W.heap.size, 2, none⟩ 1, ?_, ⟨rfl, rfl, rfl, ?_, fun j hj => ?_⟩, ?_, ?_, ?_⟩
  · simp [convert, run_underlying Tryz.underlying91, run_underlying Tryz.underlying5, markStringish, hsh, Result.andThen]
  · simp [World.freeze, World.alloc, -World.alloc_eq]
  · have h1 : W.heap.size ≠ j := by omega
    simp [World.freeze, World.alloc, -World.alloc_eq, Array.getElem?_modify, Array.getElem?_push, h1, Ne.symm h1]
  · simp [World.cell?, hat]
  · simp [World.cell?, hat]
  · simp [World.freeze, World.alloc, -World.alloc_eq]
theorem append_grown {P : Program} (t ty : TypeId) (i : TypeInfo) (ht : P.underlying t = some (.slice 5)) (hi : P.info? 5 = some i) (hz : i.zero = some (.int .u8 0)) (hsize : i.size = 1) (hby : i.bytes = 1)
    (W w : World) (hb : Below W.heap.size W w) (g : Nat) (l : List UInt8) (hl : l.length ≤ 1000000) (hc : ∀ j u, (Lib.byteCells l)[j]? = some u → w.cell? ((⟨g, 0, none⟩ : Addr).add j) = some u) (ad : Addr) (c : Nat) (m : List UInt8) (h0 : 0 < m.length) (hm : m.length ≤ 1000000) (hx : ∀ j u, (Lib.byteCells m)[j]? = some u → w.cell? (ad.add j) = some u) :
    ∃ v' w', (Builtin.append_ #[t, t] ty #[.slice (some ⟨g, 0, none⟩) l.length l.length, .slice (some ad) m.length c]).run P w = .ok v' w' ∧ HB W w' v' (l ++ m) := by
  have hr := run_append_grow (P := P) w t ty 5 i (.int .u8 0) ht hi hz ⟨g, 0, none⟩ l.length l.length (Lib.byteCells l) (by rw [hsize]; simp [Lib.byteCells]) hc ad m.length c (Lib.byteCells m) (by rw [hsize]; simp [Lib.byteCells]) hx (by omega) (by omega) (growslice_fits (by omega) (by rw [hby]; omega))
  refine ⟨_, _, hr, ?_⟩
  have hge := grownCap_ge w (l.length + m.length) l.length 5
  have hle := grownCap_le_maxLen w (l.length + m.length) l.length 5 (by unfold maxLen; omega)
  generalize grownCap w (l.length + m.length) l.length 5 = cap at *
  refine ⟨⟨by simp [Lib.byteCells], .inr ⟨w.heap.size, cap, _, by rw [List.length_append], hb.size, heap_alloc_new w.drew _, by rw [List.length_append]; exact hge, hle, ?_, ?_⟩⟩, hb.drew.alloc hb.size _⟩
  · simp [Lib.byteCells, Builtin.zeroCells, Value.cells]
    omega
  · rw [Array.toList_append, Array.toList_append, ← Lib.byteCells_append, Nat.mul_one]
    exact List.take_left' (by simp [Lib.byteCells])
set_option maxRecDepth 20000 in
set_option maxHeartbeats 4000000 in
theorem hexed_text (W : World) (w : Nat) (hw : w < 4294967296) :
    Calls Tryz.prog 26 #[.int .u32 (w : Int)] W fun e W' => e = .returned (.string ⟨(T.hexed8 w).toArray⟩) ∧ Below W.heap.size W W' := by
  obtain ⟨i0, hi, hz0, hz1, hz2⟩ := info_parts Tryz.info5
  have b1 : (w : Int) < 4294967296 := by omega
  obtain ⟨W1, hcv, hB1, k1, k2, hsz⟩ := conv_mark W
  have HK1 : Hid (Below W.heap.size W W1 ∧ W1.cell? ⟨W.heap.size, 0, none⟩ = some (.int .u8 48) ∧ W1.cell? ⟨W.heap.size, 1, none⟩ = some (.int .u8 120) ∧ W.heap.size < W1.heap.size) := ⟨hB1, k1, k2, hsz⟩
  clear hB1 k1 k2 hsz
  go_enter Tryz.func26, Tryz.ntmps26
  go_wp2_with fail
  clear hcv
  go_loopw [3, 4, 7] (fun v _ i wr => ∃ k : Nat, k ≤ 8 ∧ i = .int .i64 k ∧ Hid ((k = 0 ∧ v = .slice (some ⟨W.heap.size, 0, none⟩) 2 2 ∧ wr = W1) ∨ (0 < k ∧ HB W wr v ([48, 120] ++ T.hexT8 w k)))) (fun _ _ i _ => 8 - (intOf i).toNat)
  case atStart => exact ⟨0, Nat.zero_le _, rfl, hid (.inl ⟨rfl, rfl, rfl⟩)⟩
  case round =>
    obtain ⟨k, hk, rfl, F⟩ := hrel
    by_cases hlt : k < 8
    · obtain rfl | rfl | rfl | rfl | rfl | rfl | rfl | rfl : k = 0 ∨ k = 1 ∨ k = 2 ∨ k = 3 ∨ k = 4 ∨ k = 5 ∨ k = 6 ∨ k = 7 := by omega
      · have HT : Hid (T.hexT8 w 1 = T.hexT8 w 0 ++ [T.hexD (w / 268435456 % 16)]) := hid (by
          have := T.hexT8_succ w 0
          simpa using this)
        have ha : bits .and .u32 ((w : Int) / 268435456) 15 = (w : Int) / 268435456 % 16 := and15w _ (by omega) (by omega)
        have hg : ∀ h, (⟨#[48, 49, 50, 51, 52, 53, 54, 55, 56, 57, 97, 98, 99, 100, 101, 102]⟩ : ByteArray)[((w : Int) / 268435456 % 16).toNat]'h = T.hexD (w / 268435456 % 16) := fun h => hexD_at _ (by omega) h
        have z1 : (0 : Int) ≤ (w : Int) / 268435456 % 16 := by omega
        have z2 : (w : Int) / 268435456 % 16 < 16 := by omega
        generalize T.hexD (w / 268435456 % 16) = x at *
        rw [show ((0 : Nat) : Int) = 0 from rfl]
        obtain ⟨-, rfl, rfl⟩ : True ∧ u3 = .slice (some ⟨W.heap.size, 0, none⟩) 2 2 ∧ W1 = wr := by
          rcases F.out with ⟨_, h1, h2⟩ | ⟨h, _⟩
          · exact ⟨trivial, h1, h2.symm⟩
          · omega
        obtain ⟨hB1, k1, k2, hsz⟩ := HK1.out
        have hB2 : Below W.heap.size W (W1.alloc (.cells #[.int .u8 (x.toNat : Int)] 5)) := hB1.alloc (by omega) _
        obtain ⟨v1, w1, hr, F1⟩ := append_grown (P := Tryz.prog) 91 91 i0 Tryz.underlying91 hi hz0 hz1 hz2 W (W1.alloc (.cells #[.int .u8 (x.toNat : Int)] 5)) hB2 W.heap.size [48, 120] (by decide) (by
          intro j u hu
          rw [Addr.add_mid]
          match j, hu with
          | 0, hu => rw [World.cell?_alloc_past _ _ _ (by show W.heap.size < _; omega), k1]; exact hu
          | 1, hu => rw [World.cell?_alloc_past _ _ _ (by show W.heap.size < _; omega), k2]; exact hu
          | j + 2, hu => simp [Lib.byteCells] at hu) ⟨W1.heap.size, 0, none⟩ 1 [x] (by simp) (by simp) (cells_new W1 5 _ [x] rfl)
        have HR : Hid ((Builtin.append_ #[91, 91] 91 #[.slice (some ⟨W.heap.size, 0, none⟩) 2 2, .slice (some ⟨W1.heap.size, 0, none⟩) 1 1]).run Tryz.prog (W1.alloc (.cells #[.int .u8 (x.toNat : Int)] 5)) = .ok v1 w1) := hr
        have F2 : Hid (HB W w1 v1 ([48, 120] ++ T.hexT8 w 1)) := hid (by rw [HT.out]; exact F1)
        clear hr F1 hB1 hB2 k1 k2 hsz HK1 F HT
        go_wp2_with (first | (at_builtin; refine Lib.wpList_append_run _ rfl _ _ _ _ rfl _ _ rfl rfl _ _ HR.out ?_))
        go_wp2_with fail
        go_roundw
        case rel => exact ⟨1, by omega, by go_num, hid (.inr ⟨by omega, F2.out⟩)⟩
        case measure => simp [intOf]
      · have HT : Hid (T.hexT8 w 2 = T.hexT8 w 1 ++ [T.hexD (w / 16777216 % 16)]) := hid (by
          have := T.hexT8_succ w 1
          simpa using this)
        have ha : bits .and .u32 ((w : Int) / 16777216) 15 = (w : Int) / 16777216 % 16 := and15w _ (by omega) (by omega)
        have hg : ∀ h, (⟨#[48, 49, 50, 51, 52, 53, 54, 55, 56, 57, 97, 98, 99, 100, 101, 102]⟩ : ByteArray)[((w : Int) / 16777216 % 16).toNat]'h = T.hexD (w / 16777216 % 16) := fun h => hexD_at _ (by omega) h
        have z1 : (0 : Int) ≤ (w : Int) / 16777216 % 16 := by omega
        have z2 : (w : Int) / 16777216 % 16 < 16 := by omega
        generalize T.hexD (w / 16777216 % 16) = x at *
        rw [show ((1 : Nat) : Int) = 1 from rfl]
        have F1 : HB W wr u3 ([48, 120] ++ T.hexT8 w 1) := by
          rcases F.out with ⟨h, _⟩ | ⟨_, h⟩
          · omega
          · exact h
        have hl := T.hexT8_length w 1
        generalize T.hexT8 w 1 = q at *
        clear F
        go_wp2_with (first | (at_builtin; refine wpList_append_bytes rfl _ _ _ rfl i0 Tryz.underlying91 hi hz0 hz1 hz2 _ _ rfl (F1.alloc _) _ _ _ [x] rfl rfl (cells_new _ _ _ _ rfl) (by simp; omega) ?_))
        intro v2 w2 F2
        have F3 : Hid (HB W w2 v2 ([48, 120] ++ T.hexT8 w 2)) := hid (by rw [HT.out]; simpa using F2)
        clear F1 F2 HT
        go_wp2_with fail
        go_roundw
        case rel => exact ⟨2, by omega, by go_num, hid (.inr ⟨by omega, F3.out⟩)⟩
        case measure => simp [intOf]
      · have HT : Hid (T.hexT8 w 3 = T.hexT8 w 2 ++ [T.hexD (w / 1048576 % 16)]) := hid (by
          have := T.hexT8_succ w 2
          simpa using this)
        have ha : bits .and .u32 ((w : Int) / 1048576) 15 = (w : Int) / 1048576 % 16 := and15w _ (by omega) (by omega)
        have hg : ∀ h, (⟨#[48, 49, 50, 51, 52, 53, 54, 55, 56, 57, 97, 98, 99, 100, 101, 102]⟩ : ByteArray)[((w : Int) / 1048576 % 16).toNat]'h = T.hexD (w / 1048576 % 16) := fun h => hexD_at _ (by omega) h
        have z1 : (0 : Int) ≤ (w : Int) / 1048576 % 16 := by omega
        have z2 : (w : Int) / 1048576 % 16 < 16 := by omega
        generalize T.hexD (w / 1048576 % 16) = x at *
        rw [show ((2 : Nat) : Int) = 2 from rfl]
        have F1 : HB W wr u3 ([48, 120] ++ T.hexT8 w 2) := by
          rcases F.out with ⟨h, _⟩ | ⟨_, h⟩
          · omega
          · exact h
        have hl := T.hexT8_length w 2
        generalize T.hexT8 w 2 = q at *
        clear F
        go_wp2_with (first | (at_builtin; refine wpList_append_bytes rfl _ _ _ rfl i0 Tryz.underlying91 hi hz0 hz1 hz2 _ _ rfl (F1.alloc _) _ _ _ [x] rfl rfl (cells_new _ _ _ _ rfl) (by simp; omega) ?_))
        intro v2 w2 F2
        have F3 : Hid (HB W w2 v2 ([48, 120] ++ T.hexT8 w 3)) := hid (by rw [HT.out]; simpa using F2)
        clear F1 F2 HT
        go_wp2_with fail
        go_roundw
        case rel => exact ⟨3, by omega, by go_num, hid (.inr ⟨by omega, F3.out⟩)⟩
        case measure => simp [intOf]
      · have HT : Hid (T.hexT8 w 4 = T.hexT8 w 3 ++ [T.hexD (w / 65536 % 16)]) := hid (by
          have := T.hexT8_succ w 3
          simpa using this)
        have ha : bits .and .u32 ((w : Int) / 65536) 15 = (w : Int) / 65536 % 16 := and15w _ (by omega) (by omega)
        have hg : ∀ h, (⟨#[48, 49, 50, 51, 52, 53, 54, 55, 56, 57, 97, 98, 99, 100, 101, 102]⟩ : ByteArray)[((w : Int) / 65536 % 16).toNat]'h = T.hexD (w / 65536 % 16) := fun h => hexD_at _ (by omega) h
        have z1 : (0 : Int) ≤ (w : Int) / 65536 % 16 := by omega
        have z2 : (w : Int) / 65536 % 16 < 16 := by omega
        generalize T.hexD (w / 65536 % 16) = x at *
        rw [show ((3 : Nat) : Int) = 3 from rfl]
        have F1 : HB W wr u3 ([48, 120] ++ T.hexT8 w 3) := by
          rcases F.out with ⟨h, _⟩ | ⟨_, h⟩
          · omega
          · exact h
        have hl := T.hexT8_length w 3
        generalize T.hexT8 w 3 = q at *
        clear F
        go_wp2_with (first | (at_builtin; refine wpList_append_bytes rfl _ _ _ rfl i0 Tryz.underlying91 hi hz0 hz1 hz2 _ _ rfl (F1.alloc _) _ _ _ [x] rfl rfl (cells_new _ _ _ _ rfl) (by simp; omega) ?_))
        intro v2 w2 F2
        have F3 : Hid (HB W w2 v2 ([48, 120] ++ T.hexT8 w 4)) := hid (by rw [HT.out]; simpa using F2)
        clear F1 F2 HT
        go_wp2_with fail
        go_roundw
        case rel => exact ⟨4, by omega, by go_num, hid (.inr ⟨by omega, F3.out⟩)⟩
        case measure => simp [intOf]
      · have HT : Hid (T.hexT8 w 5 = T.hexT8 w 4 ++ [T.hexD (w / 4096 % 16)]) := hid (by
          have := T.hexT8_succ w 4
          simpa using this)
        have ha : bits .and .u32 ((w : Int) / 4096) 15 = (w : Int) / 4096 % 16 := and15w _ (by omega) (by omega)
        have hg : ∀ h, (⟨#[48, 49, 50, 51, 52, 53, 54, 55, 56, 57, 97, 98, 99, 100, 101, 102]⟩ : ByteArray)[((w : Int) / 4096 % 16).toNat]'h = T.hexD (w / 4096 % 16) := fun h => hexD_at _ (by omega) h
        have z1 : (0 : Int) ≤ (w : Int) / 4096 % 16 := by omega
        have z2 : (w : Int) / 4096 % 16 < 16 := by omega
        generalize T.hexD (w / 4096 % 16) = x at *
        rw [show ((4 : Nat) : Int) = 4 from rfl]
        have F1 : HB W wr u3 ([48, 120] ++ T.hexT8 w 4) := by
          rcases F.out with ⟨h, _⟩ | ⟨_, h⟩
          · omega
          · exact h
        have hl := T.hexT8_length w 4
        generalize T.hexT8 w 4 = q at *
        clear F
        go_wp2_with (first | (at_builtin; refine wpList_append_bytes rfl _ _ _ rfl i0 Tryz.underlying91 hi hz0 hz1 hz2 _ _ rfl (F1.alloc _) _ _ _ [x] rfl rfl (cells_new _ _ _ _ rfl) (by simp; omega) ?_))
        intro v2 w2 F2
        have F3 : Hid (HB W w2 v2 ([48, 120] ++ T.hexT8 w 5)) := hid (by rw [HT.out]; simpa using F2)
        clear F1 F2 HT
        go_wp2_with fail
        go_roundw
        case rel => exact ⟨5, by omega, by go_num, hid (.inr ⟨by omega, F3.out⟩)⟩
        case measure => simp [intOf]
      · have HT : Hid (T.hexT8 w 6 = T.hexT8 w 5 ++ [T.hexD (w / 256 % 16)]) := hid (by
          have := T.hexT8_succ w 5
          simpa using this)
        have ha : bits .and .u32 ((w : Int) / 256) 15 = (w : Int) / 256 % 16 := and15w _ (by omega) (by omega)
        have hg : ∀ h, (⟨#[48, 49, 50, 51, 52, 53, 54, 55, 56, 57, 97, 98, 99, 100, 101, 102]⟩ : ByteArray)[((w : Int) / 256 % 16).toNat]'h = T.hexD (w / 256 % 16) := fun h => hexD_at _ (by omega) h
        have z1 : (0 : Int) ≤ (w : Int) / 256 % 16 := by omega
        have z2 : (w : Int) / 256 % 16 < 16 := by omega
        generalize T.hexD (w / 256 % 16) = x at *
        rw [show ((5 : Nat) : Int) = 5 from rfl]
        have F1 : HB W wr u3 ([48, 120] ++ T.hexT8 w 5) := by
          rcases F.out with ⟨h, _⟩ | ⟨_, h⟩
          · omega
          · exact h
        have hl := T.hexT8_length w 5
        generalize T.hexT8 w 5 = q at *
        clear F
        go_wp2_with (first | (at_builtin; refine wpList_append_bytes rfl _ _ _ rfl i0 Tryz.underlying91 hi hz0 hz1 hz2 _ _ rfl (F1.alloc _) _ _ _ [x] rfl rfl (cells_new _ _ _ _ rfl) (by simp; omega) ?_))
        intro v2 w2 F2
        have F3 : Hid (HB W w2 v2 ([48, 120] ++ T.hexT8 w 6)) := hid (by rw [HT.out]; simpa using F2)
        clear F1 F2 HT
        go_wp2_with fail
        go_roundw
        case rel => exact ⟨6, by omega, by go_num, hid (.inr ⟨by omega, F3.out⟩)⟩
        case measure => simp [intOf]
      · have HT : Hid (T.hexT8 w 7 = T.hexT8 w 6 ++ [T.hexD (w / 16 % 16)]) := hid (by
          have := T.hexT8_succ w 6
          simpa using this)
        have ha : bits .and .u32 ((w : Int) / 16) 15 = (w : Int) / 16 % 16 := and15w _ (by omega) (by omega)
        have hg : ∀ h, (⟨#[48, 49, 50, 51, 52, 53, 54, 55, 56, 57, 97, 98, 99, 100, 101, 102]⟩ : ByteArray)[((w : Int) / 16 % 16).toNat]'h = T.hexD (w / 16 % 16) := fun h => hexD_at _ (by omega) h
        have z1 : (0 : Int) ≤ (w : Int) / 16 % 16 := by omega
        have z2 : (w : Int) / 16 % 16 < 16 := by omega
        generalize T.hexD (w / 16 % 16) = x at *
        rw [show ((6 : Nat) : Int) = 6 from rfl]
        have F1 : HB W wr u3 ([48, 120] ++ T.hexT8 w 6) := by
          rcases F.out with ⟨h, _⟩ | ⟨_, h⟩
          · omega
          · exact h
        have hl := T.hexT8_length w 6
        generalize T.hexT8 w 6 = q at *
        clear F
        go_wp2_with (first | (at_builtin; refine wpList_append_bytes rfl _ _ _ rfl i0 Tryz.underlying91 hi hz0 hz1 hz2 _ _ rfl (F1.alloc _) _ _ _ [x] rfl rfl (cells_new _ _ _ _ rfl) (by simp; omega) ?_))
        intro v2 w2 F2
        have F3 : Hid (HB W w2 v2 ([48, 120] ++ T.hexT8 w 7)) := hid (by rw [HT.out]; simpa using F2)
        clear F1 F2 HT
        go_wp2_with fail
        go_roundw
        case rel => exact ⟨7, by omega, by go_num, hid (.inr ⟨by omega, F3.out⟩)⟩
        case measure => simp [intOf]
      · have HT : Hid (T.hexT8 w 8 = T.hexT8 w 7 ++ [T.hexD (w % 16)]) := hid (by
          have := T.hexT8_succ w 7
          simpa using this)
        have ha : bits .and .u32 ((w : Int)) 15 = (w : Int) % 16 := and15w _ (by omega) (by omega)
        have hg : ∀ h, (⟨#[48, 49, 50, 51, 52, 53, 54, 55, 56, 57, 97, 98, 99, 100, 101, 102]⟩ : ByteArray)[((w : Int) % 16).toNat]'h = T.hexD (w % 16) := fun h => hexD_at _ (by omega) h
        have z1 : (0 : Int) ≤ (w : Int) % 16 := by omega
        have z2 : (w : Int) % 16 < 16 := by omega
        generalize T.hexD (w % 16) = x at *
        rw [show ((7 : Nat) : Int) = 7 from rfl]
        have F1 : HB W wr u3 ([48, 120] ++ T.hexT8 w 7) := by
          rcases F.out with ⟨h, _⟩ | ⟨_, h⟩
          · omega
          · exact h
        have hl := T.hexT8_length w 7
        generalize T.hexT8 w 7 = q at *
        clear F
        go_wp2_with (first | (at_builtin; refine wpList_append_bytes rfl _ _ _ rfl i0 Tryz.underlying91 hi hz0 hz1 hz2 _ _ rfl (F1.alloc _) _ _ _ [x] rfl rfl (cells_new _ _ _ _ rfl) (by simp; omega) ?_))
        intro v2 w2 F2
        have F3 : Hid (HB W w2 v2 ([48, 120] ++ T.hexT8 w 8)) := hid (by rw [HT.out]; simpa using F2)
        clear F1 F2 HT
        go_wp2_with fail
        go_roundw
        case rel => exact ⟨8, by omega, by go_num, hid (.inr ⟨by omega, F3.out⟩)⟩
        case measure => simp [intOf]
    · obtain rfl : k = 8 := by omega
      rw [show ((8 : Nat) : Int) = 8 from rfl]
      have F1 : HB W wr u3 (T.hexed8 w) := by
        rcases F.out with ⟨h, _⟩ | ⟨_, h⟩
        · omega
        · exact h
      obtain ⟨g, cap, rfl, hcv⟩ := F1.conv
      clear F
      go_wp2_with fail
      go_ret
      exact ⟨rfl, F1.below⟩
end Go.Proofs.YtncnogndopgknaaGreatDoor
namespace Go.Proofs.YtncnogndopgknaaGreatDoor
namespace T
open Go.Lib

theorem isDig_iff (c : UInt8) : isDig c = true ↔ 48 ≤ c.toNat ∧ c.toNat ≤ 57 := by simp [isDig]
theorem dgt (d : Nat) (h : d < 10) : (UInt8.ofNat (48 + d)).toNat = 48 + d := by rw [UInt8.toNat_ofNat']; omega
theorem decDigits_val (u : Nat) : val (decDigits u) = u := by
  induction u using Nat.strongRecOn with
  | _ u ih =>
    rw [decDigits]
    split
    · rename_i h
      simp [val, step, dv]
      omega
    · rename_i h
      rw [val_snoc, ih (u / 10) (by omega)]
      simp only [dv, dgt (u % 10) (by omega)]
      omega
theorem decDigits_all (u : Nat) : (decDigits u).all isDig = true := by
  induction u using Nat.strongRecOn with
  | _ u ih =>
    rw [decDigits]
    split
    · rename_i h
      simp only [List.all_cons, List.all_nil, Bool.and_true]
      rw [isDig_iff, dgt u h]
      omega
    · rename_i h
      rw [List.all_append, ih (u / 10) (by omega)]
      simp only [List.all_cons, List.all_nil, Bool.and_true, Bool.true_and]
      rw [isDig_iff, dgt (u % 10) (by omega)]
      omega
theorem nDigits_le (k : Nat) : ∀ u, u < 10 ^ (k + 1) → nDigits u ≤ k + 1 := by
  induction k with
  | zero => intro u h; rw [nDigits_small (by simpa using h)]; omega
  | succ k ih =>
    intro u h
    by_cases hs : u < 10
    · rw [nDigits_small hs]; omega
    · rw [nDigits_big hs]
      have := ih (u / 10) (by rw [Nat.pow_succ] at h; omega)
      omega
theorem decDigits_ne (u : Nat) : decDigits u ≠ [] := by
  intro h
  have := decDigits_length u
  rw [h] at this
  have := nDigits_pos u
  simp at *
  omega
theorem headD_append (a b : List UInt8) (h : a ≠ []) : (a ++ b).headD 0 = a.headD 0 := by
  cases a with
  | nil => exact absurd rfl h
  | cons x a => rfl
theorem decDigits_head (u : Nat) (h : ((decDigits u).headD 0).toNat = 48) : u = 0 := by
  induction u using Nat.strongRecOn with
  | _ u ih =>
    rw [decDigits] at h
    split at h
    · rename_i hs
      simp only [List.headD_cons] at h
      rw [dgt u hs] at h
      omega
    · rename_i hs
      rw [headD_append _ _ (decDigits_ne _)] at h
      have := ih (u / 10) (by omega) h
      omega
theorem tens_dec (u m : Nat) (hu : u ≤ m) (hm : m ≤ 4294967295) : tens (decDigits u) m = some u := by
  have hl := decDigits_length u
  have h1 := nDigits_pos u
  have h2 := nDigits_le 9 u (by omega)
  unfold tens
  rw [if_neg, decDigits_all, if_pos rfl, decDigits_val, if_pos hu]
  rw [hl]
  rintro (h | h | ⟨h, h'⟩)
  · omega
  · omega
  · obtain rfl := decDigits_head u h
    rw [nDigits_small (by decide)] at h'
    omega
theorem pref_dec (u : Nat) (l : List UInt8) (c : UInt8) (hc : isDig c = false) (i : Nat) (hi : l[i]? = some c) : l.isPrefixOf (decDigits u) = false := by
  cases h : l.isPrefixOf (decDigits u) with
  | false => rfl
  | true =>
    rw [List.isPrefixOf_iff_prefix] at h
    obtain ⟨t, ht⟩ := h
    have hall := decDigits_all u
    rw [← ht, List.all_append, Bool.and_eq_true] at hall
    have := List.all_eq_true.1 hall.1 c (List.mem_of_getElem? hi)
    rw [hc] at this
    cases this
theorem number_dec (u : Nat) (hu : u ≤ 4294967295) : number (decDigits u) = some u := by
  unfold number
  rw [if_neg (by rw [pref_dec u [48, 120] 120 (by decide) 1 rfl]; simp)]
  exact tens_dec u _ hu (by decide)
theorem signed_itoa (n : Int) (h0 : -2147483648 ≤ n) (h1 : n ≤ 2147483647) : signed (itoa n) = some n := by
  unfold signed
  by_cases h : n < 0
  · rw [show itoa n = 45 :: decDigits n.natAbs from by unfold itoa; rw [if_pos h]]
    rw [if_pos (by rfl)]
    simp only [List.drop_succ_cons, List.drop_zero]
    rw [tens_dec n.natAbs 2147483648 (by omega) (by decide)]
    simp only
    rw [if_neg (by omega)]
    congr 1
    omega
  · rw [show itoa n = decDigits n.toNat from by unfold itoa; rw [if_neg h]]
    rw [if_neg (by rw [pref_dec _ [45] 45 (by decide) 0 rfl]; simp), tens_dec n.toNat 2147483647 (by omega) (by decide)]
    simp only
    congr 1
    omega
def hx (t x : Nat) : List UInt8 := (List.range t).map fun i => hexD (x / 16 ^ (t - 1 - i) % 16)
theorem hx_succ (t x : Nat) : hx (t + 1) x = hx t (x / 16) ++ [hexD (x % 16)] := by
  unfold hx
  rw [List.range_succ, List.map_append]
  congr 1
  · apply List.map_congr_left
    intro i hi
    have hi' : i < t := by simpa using hi
    rw [show t + 1 - 1 - i = (t - 1 - i) + 1 from by omega, Nat.pow_succ, Nat.mul_comm, ← Nat.div_div_eq_div_mul]
  · simp
theorem hx_length (t x : Nat) : (hx t x).length = t := by simp [hx]
theorem hval_hx (t : Nat) : ∀ x, x < 16 ^ t → hval (hx t x) = some x := by
  induction t with
  | zero => intro x h; simp at h; subst h; rfl
  | succ t ih =>
    intro x h
    rw [hx_succ, hval_snoc, ih (x / 16) (by rw [Nat.pow_succ] at h; omega)]
    simp only [hstep, hexD_inv (x % 16) (by omega)]
    congr 1
    omega
theorem hexT8_hx (w : Nat) : hexT8 w 8 = hx 8 w := by unfold hexT8 hx; rfl
theorem hexed8_length (w : Nat) : (hexed8 w).length = 10 := by simp [hexed8, hexT8_length]
theorem number_hex (w : Nat) (hw : w < 4294967296) : number (hexed8 w) = some w := by
  unfold number
  rw [if_pos (by rfl)]
  rw [show (hexed8 w).drop 2 = hx 8 w from by rw [← hexT8_hx]; rfl]
  unfold hexed
  rw [if_neg (by rw [hx_length]; omega)]
  exact hval_hx 8 w (by omega)
end T
end Go.Proofs.YtncnogndopgknaaGreatDoor
namespace Go.Proofs.YtncnogndopgknaaGreatDoor
open Go.RowKit
namespace A
def opnd (i : Ins) (l : Nat) (lab : List UInt8) : List UInt8 :=
  if l = 97 then 114 :: Lib.decDigits i.a.toNat else if l = 98 then 114 :: Lib.decDigits i.b.toNat else if l = 99 then 114 :: Lib.decDigits i.c.toNat
  else if l = 107 then (cndI i.cond).data.toList else if l = 111 ∧ lab ≠ [] then lab else Lib.itoa i.imm
def opnds (i : Ins) (L : List Nat) (lab : List UInt8) : List UInt8 := L.flatMap fun l => 32 :: opnd i l lab
def lineOf (i : Ins) (lab : List UInt8) : List UInt8 := (namI i.op).data.toList ++ opnds i (ltr (shpI i.op)) lab
def lin (w : Int) (lab : List UInt8) : List UInt8 := if decE w = 0 then lineOf (dec w) lab else [119, 111, 114, 100, 32] ++ T.hexed8 w.toNat
def tgt (w : Int) (p n : Nat) : Option Nat :=
  if decE w = 0 ∧ ((dec w).op = 21 ∨ (dec w).op = 22) ∧ 0 ≤ (p : Int) + 1 + (dec w).imm ∧ (p : Int) + 1 + (dec w).imm ≤ n then some ((p : Int) + 1 + (dec w).imm).toNat else none
theorem tgt_le {w : Int} {p n t : Nat} (h : tgt w p n = some t) : t ≤ n := by
  unfold tgt at h
  split at h
  · injection h; omega
  · cases h
def tg (ws : List Nat) (p : Nat) : Option Nat := tgt (ws.getD p 0 : Nat) p ws.length
def met (ws : List Nat) (k j : Nat) : Bool := (List.range k).any fun p => tg ws p == some j
def cnt (ws : List Nat) (j : Nat) : Nat := ((List.range j).filter (met ws ws.length)).length
def nmAt (ws : List Nat) (j : Nat) : List UInt8 := if met ws ws.length j then 108 :: Lib.decDigits (cnt ws j) else []
def lab (ws : List Nat) (p : Nat) : List UInt8 := match tg ws p with | some t => nmAt ws t | none => []
def row (ws : List Nat) (p : Nat) : List UInt8 := (if nmAt ws p = [] then [] else nmAt ws p ++ [58, 10]) ++ (if p < ws.length then lin (ws.getD p 0 : Nat) (lab ws p) ++ [10] else [])
def txt (ws : List Nat) (k : Nat) : List UInt8 := (List.range k).flatMap (row ws)
theorem txt_succ (ws : List Nat) (k : Nat) : txt ws (k + 1) = txt ws k ++ row ws k := by simp [txt, List.range_succ]
theorem cnt_succ (ws : List Nat) (j : Nat) : cnt ws (j + 1) = if met ws ws.length j then cnt ws j + 1 else cnt ws j := by
  unfold cnt
  rw [List.range_succ, List.filter_append, List.length_append]
  by_cases h : met ws ws.length j = true <;> simp [List.filter, h]
theorem cnt_le (ws : List Nat) : ∀ j, cnt ws j ≤ j
  | 0 => by simp [cnt]
  | j + 1 => by
    have := cnt_le ws j
    rw [cnt_succ]
    split <;> omega
theorem tg_le {ws : List Nat} {p t : Nat} (h : tg ws p = some t) : t ≤ ws.length := tgt_le h
def prt (ws : List Nat) : List UInt8 := if ws.length ≤ 2048 then txt ws (ws.length + 1) else []
def prtE (ws : List Nat) : Int := if ws.length ≤ 2048 then 0 else 66
end A
end Go.Proofs.YtncnogndopgknaaGreatDoor
