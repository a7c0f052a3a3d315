/- Quote (8). -/
import Derived.Test.YtbjinmlelchmgaaGreatDoorUnqUnquote
namespace Go.Proofs.YtbjinmlelchmgaaGreatDoor
open Go.RowKit
/-- A slice's bytes: none, or they lie in a row that was there. -/
def AtB (W : World) (ao : Option Addr) (l : List UInt8) : Prop := l = [] ∨ ∃ b off, ao = some ⟨b, off, none⟩ ∧ b < W.heap.size ∧ ∀ i (h : i < l.length), W.cell? ⟨b, off + i, none⟩ = some (.int .u8 (l[i].toNat : Int))
theorem quoteB_take (l : List UInt8) (k : Nat) (h : k < l.length) : T.quoteB (l.take (k + 1)) = T.quoteB (l.take k) ++ T.one l[k] := by
  unfold T.quoteB
  rw [List.take_succ_eq_append_getElem h, List.map_append, List.flatten_append]
  simp
theorem hexD_at (n : Nat) (h : n < 16) (hp : n < (⟨#[48, 49, 50, 51, 52, 53, 54, 55, 56, 57, 97, 98, 99, 100, 101, 102]⟩ : ByteArray).size) : ((⟨#[48, 49, 50, 51, 52, 53, 54, 55, 56, 57, 97, 98, 99, 100, 101, 102]⟩ : ByteArray)[n]'hp) = T.hexD n := by
  revert n
  decide +kernel

theorem HB.drew {W wr : World} {v : Value} {l : List UInt8} (h : HB W wr v l) : HB W wr.drew v l := ⟨h.own, h.below.drew⟩
/-- At a step of a region that draws its order. -/
theorem step_append_bytes {P : Program} {W w : World} {ops : Array Oper} {o : Oper} {a : Act} {K : Act → World → Prop} {Q : Exit → Act → World → Prop} {E : Prop} (hgd : o.guard = none) (s x : Operand) (t : TypeId)
    (ho : o.op = .call { callee := .builtin .append, args := #[s, x], argTypes := #[t, t] }) (i : TypeInfo) (ht : P.underlying t = some (.slice 5)) (hi : P.info? 5 = some i) (hz : i.zero = some (.int .u8 0)) (hsize : i.size = 1) (hby : i.bytes = 1)
    (v : Value) (l : List UInt8) (hs : a.eval s = v) (H : HB W w v l) (ad : Addr) (n c : Nat) (m : List UInt8) (hx : a.eval x = .slice (some ad) n c) (hl : m.length = n) (hc : ∀ j u, (Lib.byteCells m)[j]? = some u → w.cell? (ad.add j) = some u) (h63 : l.length + n ≤ 140737488355328)
    (h : ∀ v' w', HB W w' v' (l ++ m) → K (a.put o.dst v') w') : if Region.wanted o (yielded ops a.tmps) = true then Oper.wp P o a w K Q else E := by
  subst hl
  obtain ⟨v', w', hr, h1, h2, _⟩ := run_append_own (P := P) w W.heap.size t o.type 5 i (.int .u8 0) 1 1 ht hi hz hsize hby rfl (by decide) v l.length _ H.own ad m.length c (Lib.byteCells m) (by simp [Lib.byteCells]) hc (byteCells_one m) (by unfold maxLen; omega) (by omega) H.below.size
  have hw : Region.wanted o (yielded ops a.tmps) = true := by simp [Region.wanted, hgd]
  rw [if_pos hw]
  unfold Oper.wp execOp
  simp only [ho, resolve, invoke, builtin, Sem.run_bind, Sem.run_pure, Result.andThen_ok, List.map_toArray, List.map_cons, List.map_nil, hs, hx, hr]
  exact h _ _ (H.grow h1 h2)
/-- string(own). -/
theorem HB.conv {W w : World} {v : Value} {l : List UInt8} (h : HB W w v l) : ∃ ao cap, v = .slice ao l.length cap ∧ (convert 26 9 (.slice ao l.length cap)).run Tryz.prog w = .ok (.string ⟨l.toArray⟩) w := by
  rcases h.own.2 with ⟨hv, h0⟩ | ⟨g, cap, cur, hv, _⟩
  · have hl : l = [] := List.eq_nil_of_length_eq_zero h0
    refine ⟨none, 0, by rw [hv, h0], ?_⟩
    rw [hl, List.length_nil, run_convert_bytes_string (P := Tryz.prog) w 26 9 5 none 0 0 Tryz.underlying26 Tryz.underlying5 Tryz.underlying9]
    rfl
  · exact ⟨some ⟨g, 0, none⟩, cap, hv, run_convert_bytes_back (P := Tryz.prog) w 26 9 5 ⟨g, 0, none⟩ cap l Tryz.underlying26 Tryz.underlying5 Tryz.underlying9 (fun j hj => h.own.cells (g := g) (by rw [hv]; rfl) j _ (by simp [Lib.byteCells, hj]))⟩
theorem and15 : ∀ n : Nat, n < 256 → bits .and .u8 (n : Int) 15 = (n : Int) % 16 := by
  have h : ∀ a : Fin 256, bits .and .u8 (a.val : Int) 15 = (a.val : Int) % 16 := by decide +kernel
  exact fun n hn => h ⟨n, hn⟩
set_option maxHeartbeats 1000000 in
theorem quote_any (W : World) (ao : Option Addr) (n c : Nat) (l : List UInt8) (hl : l.length = n) (hn : n ≤ 100000000) (hat : AtB W ao l) :
    Calls Tryz.prog 15 #[.slice ao n c] W fun e W' => e = .returned (.string ⟨(T.quote l).toArray⟩) ∧ Below W.heap.size W W' := by
  obtain ⟨i0, hi, hz0, hz1, hz2⟩ := info_parts Tryz.info5
  have b1 : (n : Int) ≤ 100000000 := by omega
  have hlen := T.quoteB_length l
  have HA : Hid (AtB W ao l) := hat
  clear hat
  go_enter Tryz.func15, Tryz.ntmps15
  go_wp2_with (first | (at_make; refine wpList_make_own _ rfl _ _ 26 rfl W.heap.size 5 i0 (.int .u8 0) 1 Tryz.underlying26 hi hz0 hz1 .i64 .i64 _ (n + 2) rfl rfl (by push_cast; rfl) (by rw [hz2]; omega) (by unfold maxLen; omega) (Nat.le_refl _) ?_))
  intro w0 hown0 hgrow0
  have F0 : HB W w0 (.slice (some ⟨W.heap.size, 0, none⟩) 0 (n + 2)) [] := ⟨hown0, (Below.refl _ W).grown hgrow0 (Nat.le_refl _) (fun _ h => by cases h)⟩
  clear hown0 hgrow0
  go_wp2_with (first | (at_builtin; refine wpList_append_bytes rfl _ _ _ rfl i0 Tryz.underlying26 hi hz0 hz1 hz2 _ _ rfl (F0.alloc _) _ _ _ [34] rfl rfl (cells_new _ _ _ _ rfl) (by simp) ?_))
  intro v1 w1 F1
  clear F0
  go_wp2_with fail
  go_loopw [3, 5, 15] (fun v _ i wr => ∃ k : Nat, k ≤ n ∧ i = .int .i64 k ∧ HB W wr v (34 :: T.quoteB (l.take k))) (fun _ _ i _ => n - (intOf i).toNat)
  case atStart => exact ⟨0, Nat.zero_le _, rfl, by simpa [T.quoteB] using F1⟩
  case round =>
    clear F1
    obtain ⟨k, hk, rfl, F⟩ := hrel
    have hl1 := T.quoteB_length (l.take k)
    have hl2 : (l.take k).length ≤ k := List.length_take_le _ _
    by_cases hlt : k < n
    · have c1 : (k : Int) < (n : Int) := by omega
      rcases HA.out with h0 | ⟨b, off, rfl, hb, hc⟩
      · rw [h0] at hl; simp at hl; omega
      · have hck := hc k (by omega)
        rw [← F.below.cell (p := ⟨b, off + k, none⟩) hb] at hck
        have HT := quoteB_take l k (by omega)
        have HI := itself_any l[k]
        have hlk : (T.quoteB (l.take k)).length ≤ 400000000 := by omega
        generalize hq : T.quoteB (l.take k) = q at *
        have HQ : Hid (T.quoteB (l.take (k + 1)) = q ++ T.one l[k]) := HT
        have hx := l[k].toNat_lt
        generalize hy : l[k] = x at *
        clear HT hy hq hc HA hlen hl1 hl2 hl
        cases hit : T.itself x with
        | true =>
          have HK : Hid (34 :: q ++ [x] = 34 :: T.quoteB (l.take (k + 1))) := hid (by rw [HQ.out, T.one_itself hit]; simp)
          rw [hit] at HI
          clear hit HQ
          go_wp2_with fail
          refine (HI _).mono ?_
          rintro e w' ⟨rfl, rfl⟩
          go_wp2_with (first | (at_builtin; refine wpList_append_bytes rfl _ _ _ rfl i0 Tryz.underlying26 hi hz0 hz1 hz2 _ _ rfl (F.alloc _) _ _ _ [x] rfl rfl (cells_new _ _ _ _ rfl) (by simp; omega) ?_))
          intro v2 w2 F2
          go_wp2_with fail
          go_roundw
          case rel => exact ⟨k + 1, by omega, by go_num, by rw [← HK.out]; exact F2⟩
          case measure => simp [intOf]; omega
        | false =>
          have HK : Hid (34 :: q ++ [92, 120, T.hexD (x.toNat / 16), T.hexD (x.toNat % 16)] = 34 :: T.quoteB (l.take (k + 1))) := hid (by rw [HQ.out]; simp [T.one, hit])
          rw [hit] at HI
          clear hit HQ
          have ha : bits .and .u8 (x.toNat : Int) 15 = (x.toNat : Int) % 16 := and15 x.toNat hx
          have g1 : ∀ h, (⟨#[48, 49, 50, 51, 52, 53, 54, 55, 56, 57, 97, 98, 99, 100, 101, 102]⟩ : ByteArray)[((x.toNat : Int) / 16).toNat]'h = T.hexD (x.toNat / 16) := fun h => hexD_at _ (by omega) h
          have g2 : ∀ h, (⟨#[48, 49, 50, 51, 52, 53, 54, 55, 56, 57, 97, 98, 99, 100, 101, 102]⟩ : ByteArray)[((x.toNat : Int) % 16).toNat]'h = T.hexD (x.toNat % 16) := fun h => hexD_at _ (by omega) h
          have z1 : (x.toNat : Int) < 256 := by omega
          have z2 : (0 : Int) ≤ (x.toNat : Int) / 16 := by omega
          have z3 : (x.toNat : Int) / 16 < 16 := by omega
          have z4 : (0 : Int) ≤ (x.toNat : Int) % 16 := by omega
          have z5 : (x.toNat : Int) % 16 < 16 := by omega
          go_wp2_with fail
          refine (HI _).mono ?_
          rintro e w' ⟨rfl, rfl⟩
          go_wp2_with fail
          generalize T.hexD (x.toNat / 16) = y1 at *
          generalize T.hexD (x.toNat % 16) = y2 at *
          have A1 : Hid (HB W ((wr.alloc (.cells #[.int .u8 92, .int .u8 120, .int .u8 (y1.toNat : Int), .int .u8 (y2.toNat : Int)] 5)).drew) u3 (34 :: q)) := hid (F.alloc _).drew
          have A2 : Hid (∀ j u, (Lib.byteCells [92, 120, y1, y2])[j]? = some u → ((wr.alloc (.cells #[.int .u8 92, .int .u8 120, .int .u8 (y1.toNat : Int), .int .u8 (y2.toNat : Int)] 5)).drew).cell? ((⟨wr.heap.size, 0, none⟩ : Addr).add j) = some u) := hid (cells_new wr 5 _ _ rfl)
          go_region_held3 (fun _ => True) (trivial) ((refine step_append_bytes (by rfl) _ _ 26 (by rfl) i0 Tryz.underlying26 hi hz0 hz1 hz2 _ (34 :: q) (by rfl) A1.out ⟨wr.heap.size, 0, none⟩ 4 4 [92, 120, y1, y2] (by rfl) (by rfl) A2.out (by simp; omega) ?_; intro v2 w2 F2))
          all_goals go_wp2_with fail
          all_goals exact ⟨⟨k + 1, by omega, by go_num, by rw [← HK.out]; exact F2⟩, by simp [intOf]; omega⟩
    · obtain rfl : k = n := by omega
      have HK : Hid (34 :: T.quoteB (l.take k) ++ [34] = T.quote l) := hid (by rw [List.take_of_length_le (by omega)]; rfl)
      have hlk : (T.quoteB (l.take k)).length ≤ 400000000 := by omega
      generalize T.quoteB (l.take k) = q at *
      clear HA hl1 hl2 hlen hl
      go_wp2_with (first | (at_builtin; refine wpList_append_bytes rfl _ _ _ rfl i0 Tryz.underlying26 hi hz0 hz1 hz2 _ _ rfl (F.alloc _) _ _ _ [34] rfl rfl (cells_new _ _ _ _ rfl) (by simp; omega) ?_))
      intro v2 w2 F2
      have F3 : HB W w2 v2 (T.quote l) := by
        rw [← HK.out]
        exact F2
      clear HK F F2
      obtain ⟨g, cap, rfl, hcv⟩ := F3.conv
      go_wp2_with fail
      go_ret
      exact ⟨rfl, F3.below⟩
end Go.Proofs.YtbjinmlelchmgaaGreatDoor
