/- Hexed (14). -/
import Derived.Test.YtncnogndopgknaaDoorQuo
import Derived.Laws.BitsAllLaws
import Derived.Lib.AppendZeros
namespace Go.Proofs.YtncnogndopgknaaDoor
open Go.RowKit
namespace T
/-- The eight digits of a word, the first t of them. -/
def hexT8 (w : Nat) (t : Nat) : List UInt8 := (List.range t).map fun i => hexD (w / 16 ^ (7 - i) % 16)
theorem hexT8_succ (w t : Nat) : hexT8 w (t + 1) = hexT8 w t ++ [hexD (w / 16 ^ (7 - t) % 16)] := by simp [hexT8, List.range_succ]
theorem hexT8_length (w t : Nat) : (hexT8 w t).length = t := by simp [hexT8]
def hexed8 (w : Nat) : List UInt8 := [48, 120] ++ hexT8 w 8
end T
/-- A block that was laid for a slice of the call's own. -/
theorem HB.made (W : World) (C : Array Value) (l : List UInt8) (hC : C = (Lib.byteCells l).toArray) (hl : l.length ≤ maxLen) : HB W (W.alloc (.cells C 5)) (.slice (some ⟨W.heap.size, 0, none⟩) l.length l.length) l := by
  subst hC
  refine ⟨⟨by simp [Lib.byteCells], .inr ⟨W.heap.size, l.length, _, rfl, Nat.le_refl _, heap_alloc_new W _, Nat.le_refl _, hl, by simp [Lib.byteCells], ?_⟩⟩, (Below.refl _ _).alloc (Nat.le_refl _) _⟩
  rw [Nat.mul_one, List.take_of_length_le (by simp [Lib.byteCells])]
theorem and15w (a : Int) (h0 : 0 ≤ a) (h1 : a < 4294967296) : bits .and .u32 a 15 = a % 16 := by
  rw [u32_and _ _ h0 h1 (by omega) (by omega), show (15 : Int).toNat = 2 ^ 4 - 1 from rfl, Nat.and_two_pow_sub_one_eq_mod]
  omega

/-- The bytes of a constant text, converted: the block bears a mark behind its end. -/
theorem conv_mark (W : World) : ∃ W1, (convert 35 35 (.slice (some ⟨W.heap.size, 0, none⟩) 2 2)).run Tryd.prog (W.alloc (.cells #[.int .u8 48, .int .u8 120] 5)) = .ok (.slice (some ⟨W.heap.size, 0, none⟩) 2 2) W1 ∧
    Below W.heap.size W W1 ∧ W1.cell? ⟨W.heap.size, 0, none⟩ = some (.int .u8 48) ∧ W1.cell? ⟨W.heap.size, 1, none⟩ = some (.int .u8 120) ∧ W.heap.size < W1.heap.size := by
  have hsh : (W.alloc (.cells #[.int .u8 48, .int .u8 120] 5)).shape? W.heap.size = some (5, 2) := by
    simp [World.shape?, World.alloc, -World.alloc_eq]
  have hat : ((W.alloc (.cells #[.int .u8 48, .int .u8 120] 5)).freeze ⟨W.heap.size, 2, none⟩ 1).heap[W.heap.size]? = some (.cells #[.int .u8 48, .int .u8 120] 5 (2, 3)) := by
    simp [World.freeze, World.alloc, -World.alloc_eq]
    rw [Array.getElem_modify_self]
    simp
  refine ⟨(W.alloc (.cells #[.int .u8 48, .int .u8 120] 5)).freeze ⟨W.heap.size, 2, none⟩ 1, ?_, ⟨rfl, rfl, rfl, ?_, fun j hj => ?_⟩, ?_, ?_, ?_⟩
  · simp [convert, run_underlying Tryd.underlying35, run_underlying Tryd.underlying5, markStringish, hsh, Result.andThen]
  · simp [World.freeze, World.alloc, -World.alloc_eq]
  · have h1 : W.heap.size ≠ j := by omega
    simp [World.freeze, World.alloc, -World.alloc_eq, Array.getElem?_modify, Array.getElem?_push, h1, Ne.symm h1]
  · simp [World.cell?, hat]
  · simp [World.cell?, hat]
  · simp [World.freeze, World.alloc, -World.alloc_eq]
/-- append(full, x): a new block. -/
theorem append_grown {P : Program} (t ty : TypeId) (i : TypeInfo) (ht : P.underlying t = some (.slice 5)) (hi : P.info? 5 = some i) (hz : i.zero = some (.int .u8 0)) (hsize : i.size = 1) (hby : i.bytes = 1)
    (W w : World) (hb : Below W.heap.size W w) (g : Nat) (l : List UInt8) (hl : l.length ≤ 1000000) (hc : ∀ j u, (Lib.byteCells l)[j]? = some u → w.cell? ((⟨g, 0, none⟩ : Addr).add j) = some u) (ad : Addr) (c : Nat) (m : List UInt8) (h0 : 0 < m.length) (hm : m.length ≤ 1000000) (hx : ∀ j u, (Lib.byteCells m)[j]? = some u → w.cell? (ad.add j) = some u) :
    ∃ v' w', (Builtin.append_ #[t, t] ty #[.slice (some ⟨g, 0, none⟩) l.length l.length, .slice (some ad) m.length c]).run P w = .ok v' w' ∧ HB W w' v' (l ++ m) := by
  have hr := run_append_grow (P := P) w t ty 5 i (.int .u8 0) ht hi hz ⟨g, 0, none⟩ l.length l.length (Lib.byteCells l) (by rw [hsize]; simp [Lib.byteCells]) hc ad m.length c (Lib.byteCells m) (by rw [hsize]; simp [Lib.byteCells]) hx (by omega) (by omega) (growslice_fits (by omega) (by rw [hby]; omega))
  refine ⟨_, _, hr, ?_⟩
  have hge := grownCap_ge w (l.length + m.length) l.length 5
  have hle := grownCap_le_maxLen w (l.length + m.length) l.length 5 (by unfold maxLen; omega)
  generalize grownCap w (l.length + m.length) l.length 5 = cap at *
  refine ⟨⟨by simp [Lib.byteCells], .inr ⟨w.heap.size, cap, _, by rw [List.length_append], hb.size, heap_alloc_new w.drew _, by rw [List.length_append]; exact hge, hle, ?_, ?_⟩⟩, hb.drew.alloc hb.size _⟩
  · simp [Lib.byteCells, Builtin.zeroCells, Value.cells]
    omega
  · rw [Array.toList_append, Array.toList_append, ← Lib.byteCells_append, Nat.mul_one]
    exact List.take_left' (by simp [Lib.byteCells])
set_option maxRecDepth 20000 in
set_option maxHeartbeats 4000000 in
theorem hexed_text (W : World) (w : Nat) (hw : w < 4294967296) :
    Calls Tryd.prog 21 #[.int .u32 (w : Int)] W fun e W' => e = .returned (.string ⟨(T.hexed8 w).toArray⟩) ∧ Below W.heap.size W W' := by
  obtain ⟨i0, hi, hz0, hz1, hz2⟩ := info_parts Tryd.info5
  have b1 : (w : Int) < 4294967296 := by omega
  obtain ⟨W1, hcv, hB1, k1, k2, hsz⟩ := conv_mark W
  have HK1 : Hid (Below W.heap.size W W1 ∧ W1.cell? ⟨W.heap.size, 0, none⟩ = some (.int .u8 48) ∧ W1.cell? ⟨W.heap.size, 1, none⟩ = some (.int .u8 120) ∧ W.heap.size < W1.heap.size) := ⟨hB1, k1, k2, hsz⟩
  clear hB1 k1 k2 hsz
  go_enter Tryd.func21, Tryd.ntmps21
  go_wp2_with fail
  clear hcv
  go_loopw [3, 4, 7] (fun v _ i wr => ∃ k : Nat, k ≤ 8 ∧ i = .int .i64 k ∧ Hid ((k = 0 ∧ v = .slice (some ⟨W.heap.size, 0, none⟩) 2 2 ∧ wr = W1) ∨ (0 < k ∧ HB W wr v ([48, 120] ++ T.hexT8 w k)))) (fun _ _ i _ => 8 - (intOf i).toNat)
  case atStart => exact ⟨0, Nat.zero_le _, rfl, hid (.inl ⟨rfl, rfl, rfl⟩)⟩
  case round =>
    obtain ⟨k, hk, rfl, F⟩ := hrel
    by_cases hlt : k < 8
    · obtain rfl | rfl | rfl | rfl | rfl | rfl | rfl | rfl : k = 0 ∨ k = 1 ∨ k = 2 ∨ k = 3 ∨ k = 4 ∨ k = 5 ∨ k = 6 ∨ k = 7 := by omega
      · have HT : Hid (T.hexT8 w 1 = T.hexT8 w 0 ++ [T.hexD (w / 268435456 % 16)]) := hid (by
          have := T.hexT8_succ w 0
          simpa using this)
        have ha : bits .and .u32 ((w : Int) / 268435456) 15 = (w : Int) / 268435456 % 16 := and15w _ (by omega) (by omega)
        have hg : ∀ h, (⟨#[48, 49, 50, 51, 52, 53, 54, 55, 56, 57, 97, 98, 99, 100, 101, 102]⟩ : ByteArray)[((w : Int) / 268435456 % 16).toNat]'h = T.hexD (w / 268435456 % 16) := fun h => hexD_at _ (by omega) h
        have z1 : (0 : Int) ≤ (w : Int) / 268435456 % 16 := by omega
        have z2 : (w : Int) / 268435456 % 16 < 16 := by omega
        generalize T.hexD (w / 268435456 % 16) = x at *
        rw [show ((0 : Nat) : Int) = 0 from rfl]
        obtain ⟨-, rfl, rfl⟩ : True ∧ u3 = .slice (some ⟨W.heap.size, 0, none⟩) 2 2 ∧ W1 = wr := by
          rcases F.out with ⟨_, h1, h2⟩ | ⟨h, _⟩
          · exact ⟨trivial, h1, h2.symm⟩
          · omega
        obtain ⟨hB1, k1, k2, hsz⟩ := HK1.out
        have hB2 : Below W.heap.size W (W1.alloc (.cells #[.int .u8 (x.toNat : Int)] 5)) := hB1.alloc (by omega) _
        obtain ⟨v1, w1, hr, F1⟩ := append_grown (P := Tryd.prog) 35 35 i0 Tryd.underlying35 hi hz0 hz1 hz2 W (W1.alloc (.cells #[.int .u8 (x.toNat : Int)] 5)) hB2 W.heap.size [48, 120] (by decide) (by
          intro j u hu
          rw [Addr.add_mid]
          match j, hu with
          | 0, hu => rw [World.cell?_alloc_past _ _ _ (by show W.heap.size < _; omega), k1]; exact hu
          | 1, hu => rw [World.cell?_alloc_past _ _ _ (by show W.heap.size < _; omega), k2]; exact hu
          | j + 2, hu => simp [Lib.byteCells] at hu) ⟨W1.heap.size, 0, none⟩ 1 [x] (by simp) (by simp) (cells_new W1 5 _ [x] rfl)
        have HR : Hid ((Builtin.append_ #[35, 35] 35 #[.slice (some ⟨W.heap.size, 0, none⟩) 2 2, .slice (some ⟨W1.heap.size, 0, none⟩) 1 1]).run Tryd.prog (W1.alloc (.cells #[.int .u8 (x.toNat : Int)] 5)) = .ok v1 w1) := hr
        have F2 : Hid (HB W w1 v1 ([48, 120] ++ T.hexT8 w 1)) := hid (by rw [HT.out]; exact F1)
        clear hr F1 hB1 hB2 k1 k2 hsz HK1 F HT
        go_wp2_with (first | (at_builtin; refine Lib.wpList_append_run _ rfl _ _ _ _ rfl _ _ rfl rfl _ _ HR.out ?_))
        go_wp2_with fail
        go_roundw
        case rel => exact ⟨1, by omega, by go_num, hid (.inr ⟨by omega, F2.out⟩)⟩
        case measure => simp [intOf]
      · have HT : Hid (T.hexT8 w 2 = T.hexT8 w 1 ++ [T.hexD (w / 16777216 % 16)]) := hid (by
          have := T.hexT8_succ w 1
          simpa using this)
        have ha : bits .and .u32 ((w : Int) / 16777216) 15 = (w : Int) / 16777216 % 16 := and15w _ (by omega) (by omega)
        have hg : ∀ h, (⟨#[48, 49, 50, 51, 52, 53, 54, 55, 56, 57, 97, 98, 99, 100, 101, 102]⟩ : ByteArray)[((w : Int) / 16777216 % 16).toNat]'h = T.hexD (w / 16777216 % 16) := fun h => hexD_at _ (by omega) h
        have z1 : (0 : Int) ≤ (w : Int) / 16777216 % 16 := by omega
        have z2 : (w : Int) / 16777216 % 16 < 16 := by omega
        generalize T.hexD (w / 16777216 % 16) = x at *
        rw [show ((1 : Nat) : Int) = 1 from rfl]
        have F1 : HB W wr u3 ([48, 120] ++ T.hexT8 w 1) := by
          rcases F.out with ⟨h, _⟩ | ⟨_, h⟩
          · omega
          · exact h
        have hl := T.hexT8_length w 1
        generalize T.hexT8 w 1 = q at *
        clear F
        go_wp2_with (first | (at_builtin; refine wpList_append_bytes rfl _ _ _ rfl i0 Tryd.underlying35 hi hz0 hz1 hz2 _ _ rfl (F1.alloc _) _ _ _ [x] rfl rfl (cells_new _ _ _ _ rfl) (by simp; omega) ?_))
        intro v2 w2 F2
        have F3 : Hid (HB W w2 v2 ([48, 120] ++ T.hexT8 w 2)) := hid (by rw [HT.out]; simpa using F2)
        clear F1 F2 HT
        go_wp2_with fail
        go_roundw
        case rel => exact ⟨2, by omega, by go_num, hid (.inr ⟨by omega, F3.out⟩)⟩
        case measure => simp [intOf]
      · have HT : Hid (T.hexT8 w 3 = T.hexT8 w 2 ++ [T.hexD (w / 1048576 % 16)]) := hid (by
          have := T.hexT8_succ w 2
          simpa using this)
        have ha : bits .and .u32 ((w : Int) / 1048576) 15 = (w : Int) / 1048576 % 16 := and15w _ (by omega) (by omega)
        have hg : ∀ h, (⟨#[48, 49, 50, 51, 52, 53, 54, 55, 56, 57, 97, 98, 99, 100, 101, 102]⟩ : ByteArray)[((w : Int) / 1048576 % 16).toNat]'h = T.hexD (w / 1048576 % 16) := fun h => hexD_at _ (by omega) h
        have z1 : (0 : Int) ≤ (w : Int) / 1048576 % 16 := by omega
        have z2 : (w : Int) / 1048576 % 16 < 16 := by omega
        generalize T.hexD (w / 1048576 % 16) = x at *
        rw [show ((2 : Nat) : Int) = 2 from rfl]
        have F1 : HB W wr u3 ([48, 120] ++ T.hexT8 w 2) := by
          rcases F.out with ⟨h, _⟩ | ⟨_, h⟩
          · omega
          · exact h
        have hl := T.hexT8_length w 2
        generalize T.hexT8 w 2 = q at *
        clear F
        go_wp2_with (first | (at_builtin; refine wpList_append_bytes rfl _ _ _ rfl i0 Tryd.underlying35 hi hz0 hz1 hz2 _ _ rfl (F1.alloc _) _ _ _ [x] rfl rfl (cells_new _ _ _ _ rfl) (by simp; omega) ?_))
        intro v2 w2 F2
        have F3 : Hid (HB W w2 v2 ([48, 120] ++ T.hexT8 w 3)) := hid (by rw [HT.out]; simpa using F2)
        clear F1 F2 HT
        go_wp2_with fail
        go_roundw
        case rel => exact ⟨3, by omega, by go_num, hid (.inr ⟨by omega, F3.out⟩)⟩
        case measure => simp [intOf]
      · have HT : Hid (T.hexT8 w 4 = T.hexT8 w 3 ++ [T.hexD (w / 65536 % 16)]) := hid (by
          have := T.hexT8_succ w 3
          simpa using this)
        have ha : bits .and .u32 ((w : Int) / 65536) 15 = (w : Int) / 65536 % 16 := and15w _ (by omega) (by omega)
        have hg : ∀ h, (⟨#[48, 49, 50, 51, 52, 53, 54, 55, 56, 57, 97, 98, 99, 100, 101, 102]⟩ : ByteArray)[((w : Int) / 65536 % 16).toNat]'h = T.hexD (w / 65536 % 16) := fun h => hexD_at _ (by omega) h
        have z1 : (0 : Int) ≤ (w : Int) / 65536 % 16 := by omega
        have z2 : (w : Int) / 65536 % 16 < 16 := by omega
        generalize T.hexD (w / 65536 % 16) = x at *
        rw [show ((3 : Nat) : Int) = 3 from rfl]
        have F1 : HB W wr u3 ([48, 120] ++ T.hexT8 w 3) := by
          rcases F.out with ⟨h, _⟩ | ⟨_, h⟩
          · omega
          · exact h
        have hl := T.hexT8_length w 3
        generalize T.hexT8 w 3 = q at *
        clear F
        go_wp2_with (first | (at_builtin; refine wpList_append_bytes rfl _ _ _ rfl i0 Tryd.underlying35 hi hz0 hz1 hz2 _ _ rfl (F1.alloc _) _ _ _ [x] rfl rfl (cells_new _ _ _ _ rfl) (by simp; omega) ?_))
        intro v2 w2 F2
        have F3 : Hid (HB W w2 v2 ([48, 120] ++ T.hexT8 w 4)) := hid (by rw [HT.out]; simpa using F2)
        clear F1 F2 HT
        go_wp2_with fail
        go_roundw
        case rel => exact ⟨4, by omega, by go_num, hid (.inr ⟨by omega, F3.out⟩)⟩
        case measure => simp [intOf]
      · have HT : Hid (T.hexT8 w 5 = T.hexT8 w 4 ++ [T.hexD (w / 4096 % 16)]) := hid (by
          have := T.hexT8_succ w 4
          simpa using this)
        have ha : bits .and .u32 ((w : Int) / 4096) 15 = (w : Int) / 4096 % 16 := and15w _ (by omega) (by omega)
        have hg : ∀ h, (⟨#[48, 49, 50, 51, 52, 53, 54, 55, 56, 57, 97, 98, 99, 100, 101, 102]⟩ : ByteArray)[((w : Int) / 4096 % 16).toNat]'h = T.hexD (w / 4096 % 16) := fun h => hexD_at _ (by omega) h
        have z1 : (0 : Int) ≤ (w : Int) / 4096 % 16 := by omega
        have z2 : (w : Int) / 4096 % 16 < 16 := by omega
        generalize T.hexD (w / 4096 % 16) = x at *
        rw [show ((4 : Nat) : Int) = 4 from rfl]
        have F1 : HB W wr u3 ([48, 120] ++ T.hexT8 w 4) := by
          rcases F.out with ⟨h, _⟩ | ⟨_, h⟩
          · omega
          · exact h
        have hl := T.hexT8_length w 4
        generalize T.hexT8 w 4 = q at *
        clear F
        go_wp2_with (first | (at_builtin; refine wpList_append_bytes rfl _ _ _ rfl i0 Tryd.underlying35 hi hz0 hz1 hz2 _ _ rfl (F1.alloc _) _ _ _ [x] rfl rfl (cells_new _ _ _ _ rfl) (by simp; omega) ?_))
        intro v2 w2 F2
        have F3 : Hid (HB W w2 v2 ([48, 120] ++ T.hexT8 w 5)) := hid (by rw [HT.out]; simpa using F2)
        clear F1 F2 HT
        go_wp2_with fail
        go_roundw
        case rel => exact ⟨5, by omega, by go_num, hid (.inr ⟨by omega, F3.out⟩)⟩
        case measure => simp [intOf]
      · have HT : Hid (T.hexT8 w 6 = T.hexT8 w 5 ++ [T.hexD (w / 256 % 16)]) := hid (by
          have := T.hexT8_succ w 5
          simpa using this)
        have ha : bits .and .u32 ((w : Int) / 256) 15 = (w : Int) / 256 % 16 := and15w _ (by omega) (by omega)
        have hg : ∀ h, (⟨#[48, 49, 50, 51, 52, 53, 54, 55, 56, 57, 97, 98, 99, 100, 101, 102]⟩ : ByteArray)[((w : Int) / 256 % 16).toNat]'h = T.hexD (w / 256 % 16) := fun h => hexD_at _ (by omega) h
        have z1 : (0 : Int) ≤ (w : Int) / 256 % 16 := by omega
        have z2 : (w : Int) / 256 % 16 < 16 := by omega
        generalize T.hexD (w / 256 % 16) = x at *
        rw [show ((5 : Nat) : Int) = 5 from rfl]
        have F1 : HB W wr u3 ([48, 120] ++ T.hexT8 w 5) := by
          rcases F.out with ⟨h, _⟩ | ⟨_, h⟩
          · omega
          · exact h
        have hl := T.hexT8_length w 5
        generalize T.hexT8 w 5 = q at *
        clear F
        go_wp2_with (first | (at_builtin; refine wpList_append_bytes rfl _ _ _ rfl i0 Tryd.underlying35 hi hz0 hz1 hz2 _ _ rfl (F1.alloc _) _ _ _ [x] rfl rfl (cells_new _ _ _ _ rfl) (by simp; omega) ?_))
        intro v2 w2 F2
        have F3 : Hid (HB W w2 v2 ([48, 120] ++ T.hexT8 w 6)) := hid (by rw [HT.out]; simpa using F2)
        clear F1 F2 HT
        go_wp2_with fail
        go_roundw
        case rel => exact ⟨6, by omega, by go_num, hid (.inr ⟨by omega, F3.out⟩)⟩
        case measure => simp [intOf]
      · have HT : Hid (T.hexT8 w 7 = T.hexT8 w 6 ++ [T.hexD (w / 16 % 16)]) := hid (by
          have := T.hexT8_succ w 6
          simpa using this)
        have ha : bits .and .u32 ((w : Int) / 16) 15 = (w : Int) / 16 % 16 := and15w _ (by omega) (by omega)
        have hg : ∀ h, (⟨#[48, 49, 50, 51, 52, 53, 54, 55, 56, 57, 97, 98, 99, 100, 101, 102]⟩ : ByteArray)[((w : Int) / 16 % 16).toNat]'h = T.hexD (w / 16 % 16) := fun h => hexD_at _ (by omega) h
        have z1 : (0 : Int) ≤ (w : Int) / 16 % 16 := by omega
        have z2 : (w : Int) / 16 % 16 < 16 := by omega
        generalize T.hexD (w / 16 % 16) = x at *
        rw [show ((6 : Nat) : Int) = 6 from rfl]
        have F1 : HB W wr u3 ([48, 120] ++ T.hexT8 w 6) := by
          rcases F.out with ⟨h, _⟩ | ⟨_, h⟩
          · omega
          · exact h
        have hl := T.hexT8_length w 6
        generalize T.hexT8 w 6 = q at *
        clear F
        go_wp2_with (first | (at_builtin; refine wpList_append_bytes rfl _ _ _ rfl i0 Tryd.underlying35 hi hz0 hz1 hz2 _ _ rfl (F1.alloc _) _ _ _ [x] rfl rfl (cells_new _ _ _ _ rfl) (by simp; omega) ?_))
        intro v2 w2 F2
        have F3 : Hid (HB W w2 v2 ([48, 120] ++ T.hexT8 w 7)) := hid (by rw [HT.out]; simpa using F2)
        clear F1 F2 HT
        go_wp2_with fail
        go_roundw
        case rel => exact ⟨7, by omega, by go_num, hid (.inr ⟨by omega, F3.out⟩)⟩
        case measure => simp [intOf]
      · have HT : Hid (T.hexT8 w 8 = T.hexT8 w 7 ++ [T.hexD (w % 16)]) := hid (by
          have := T.hexT8_succ w 7
          simpa using this)
        have ha : bits .and .u32 ((w : Int)) 15 = (w : Int) % 16 := and15w _ (by omega) (by omega)
        have hg : ∀ h, (⟨#[48, 49, 50, 51, 52, 53, 54, 55, 56, 57, 97, 98, 99, 100, 101, 102]⟩ : ByteArray)[((w : Int) % 16).toNat]'h = T.hexD (w % 16) := fun h => hexD_at _ (by omega) h
        have z1 : (0 : Int) ≤ (w : Int) % 16 := by omega
        have z2 : (w : Int) % 16 < 16 := by omega
        generalize T.hexD (w % 16) = x at *
        rw [show ((7 : Nat) : Int) = 7 from rfl]
        have F1 : HB W wr u3 ([48, 120] ++ T.hexT8 w 7) := by
          rcases F.out with ⟨h, _⟩ | ⟨_, h⟩
          · omega
          · exact h
        have hl := T.hexT8_length w 7
        generalize T.hexT8 w 7 = q at *
        clear F
        go_wp2_with (first | (at_builtin; refine wpList_append_bytes rfl _ _ _ rfl i0 Tryd.underlying35 hi hz0 hz1 hz2 _ _ rfl (F1.alloc _) _ _ _ [x] rfl rfl (cells_new _ _ _ _ rfl) (by simp; omega) ?_))
        intro v2 w2 F2
        have F3 : Hid (HB W w2 v2 ([48, 120] ++ T.hexT8 w 8)) := hid (by rw [HT.out]; simpa using F2)
        clear F1 F2 HT
        go_wp2_with fail
        go_roundw
        case rel => exact ⟨8, by omega, by go_num, hid (.inr ⟨by omega, F3.out⟩)⟩
        case measure => simp [intOf]
    · obtain rfl : k = 8 := by omega
      rw [show ((8 : Nat) : Int) = 8 from rfl]
      have F1 : HB W wr u3 (T.hexed8 w) := by
        rcases F.out with ⟨h, _⟩ | ⟨_, h⟩
        · omega
        · exact h
      obtain ⟨g, cap, rfl, hcv⟩ := F1.conv
      clear F
      go_wp2_with fail
      go_ret
      exact ⟨rfl, F1.below⟩
end Go.Proofs.YtncnogndopgknaaDoor
