/- widthsOf (26), withoutBlanks (43). -/
import Derived.Test.YtbjinmlelchmgaaGreatDoorShelf2
import Derived.Test.YtbjinmlelchmgaaGreatDoorLin0RfD
import Derived.Test.YtbjinmlelchmgaaGreatDoorRf1RfE
namespace Go.Proofs.YtbjinmlelchmgaaGreatDoor
open Go.RowKit

theorem Tryz.info3 : (Tryz.prog.info? 3).map (fun i => (i.zero, i.size, i.bytes)) = some (some (.int .i64 0), 1, 8) := by kernel_rfl
theorem without_any (l : List UInt8) (w : World) (hs : l.length ≤ 9223372036854775807) :
    Calls Tryz.prog 75 #[.string ⟨l.toArray⟩] w fun e w' => e = .returned (.string ⟨(T.trim l).toArray⟩) ∧ w' = w := by
  go_enter Tryz.func75, Tryz.ntmps75
  go_wp2_with (first | (go_at_call 88; refine (Tryz.strings_TrimRight_one ⟨l.toArray⟩ 32 (by decide) _ (by rw [arr_size]; exact hs)).mono ?_; rintro e w' ⟨rfl, rfl⟩))
  go_ret
  exact ⟨rfl, rfl⟩
def ints (ws : List Nat) : List Value := ws.map fun (k : Nat) => Value.int .i64 (k : Int)
theorem ints_length (ws : List Nat) : (ints ws).length = ws.length := by simp [ints]
theorem HV.anyN {W wr : World} {e : TypeId} {v : Value} {xs : List Value} (h : HV W wr e v xs) {n : Nat} (hn : xs.length = n) : ∃ ao cap, v = .slice ao n cap := by subst hn; exact h.any
theorem HV.formN {W wr : World} {e : TypeId} {v : Value} {xs : List Value} (h : HV W wr e v xs) {n : Nat} (hl : xs.length = n) (hn : 0 < n) : ∃ g cap, v = .slice (some ⟨g, 0, none⟩) n cap ∧ W.heap.size ≤ g ∧ g < wr.heap.size := by
  subst hl
  obtain ⟨g, cap, cur, h1, h2, h3, _⟩ := h.form hn
  exact ⟨g, cap, h1, h2, h3⟩
theorem ints_last (q : List Nat) (j y : Nat) (h : q.length = j) (u : Value) : (ints q ++ [u]).set j (.int .i64 (y : Int)) = ints (q ++ [y]) := by
  rw [List.set_append_right _ _ (by rw [ints_length]; omega), ints_length, h, Nat.sub_self]
  simp [ints]
theorem ints_set (q : List Nat) (j y : Nat) : (ints q).set j (.int .i64 (y : Int)) = ints (q.set j y) := by simp [ints]
theorem ints_get (q : List Nat) (j : Nat) (h : j < q.length) : (ints q)[j]? = some (.int .i64 (q[j] : Int)) := by simp [ints, h]
set_option maxHeartbeats 1000000 in
set_option maxRecDepth 20000 in
theorem widths_any (W : World) (ao : Option Addr) (n c : Nat) (rows : List (List (List UInt8))) (hl : rows.length = n) (hn : n ≤ 1000000000) (hr : ∀ r ∈ rows, r.length ≤ 1000000000 ∧ ∀ x ∈ r, x.length ≤ 1000000000) (hat : RowsAt W ao rows) :
    Calls Tryz.prog 53 #[.slice ao n c] W fun e w' => ∃ v, e = .returned v ∧ HV W w' 3 v (ints (T.widths rows)) := by
  obtain ⟨i0, hi, hz0, hz1, hz2⟩ := info_parts Tryz.info3
  have b1 : (n : Int) ≤ 1000000000 := by omega
  have HA : Hid (RowsAt W ao rows) := hat
  have HR : Hid (∀ r ∈ rows, r.length ≤ 1000000000 ∧ ∀ x ∈ r, x.length ≤ 1000000000) := hr
  clear hat hr
  go_enter Tryz.func53, Tryz.ntmps53
  go_wp2_with fail
  go_loopw [2, 4, 5, 6, 9] (fun v _ _ _ i wr => ∃ k : Nat, k ≤ n ∧ i = .int .i64 k ∧ HV W wr 3 v (ints (T.widths (rows.take k)))) (fun _ _ _ _ i _ => n - (intOf i).toNat)
  case atStart => exact ⟨0, Nat.zero_le _, rfl, HV.nil 3 (Below.refl _ _)⟩
  case round =>
    obtain ⟨k, hk, rfl, F⟩ := hrel
    by_cases hlt : k < n
    · have c1 : (k : Int) < (n : Int) := by omega
      rcases HA.out with h0 | ⟨b, off, rfl, hb, hc⟩
      · rw [h0] at hl; simp at hl; omega
      · obtain ⟨ai, ci, hck, hs⟩ := hc k (by omega)
        rw [← F.below.cell (p := ⟨b, off + k, none⟩) hb] at hck
        obtain ⟨hm, hx⟩ := HR.out rows[k] (List.getElem_mem _)
        have HX : Hid (T.widths (rows.take (k + 1)) = T.mrg (T.widths (rows.take k)) rows[k]) := hid (by rw [List.take_succ_eq_append_getElem (by omega), T.widths_snoc])
        have HS : Hid (StrsAt W ai rows[k]) := hs
        have HL : Hid (∀ x ∈ rows[k], x.length ≤ 1000000000) := hx
        clear hs hx hc
        generalize rows[k] = row at *
        generalize T.widths (rows.take k) = ws at *
        obtain ⟨m, hml⟩ : ∃ m, row.length = m := ⟨_, rfl⟩
        rw [hml] at hck hm
        have c2 : (m : Int) ≤ 1000000000 := by omega
        go_wp2_with fail
        go_loopw [2, 5, 6, 15] (fun v _ _ i wr => ∃ j : Nat, j ≤ m ∧ i = .int .i64 j ∧ HV W wr 3 v (ints (T.mrg ws (row.take j)))) (fun _ _ _ i _ => m - (intOf i).toNat)
        case atStart => exact ⟨0, Nat.zero_le _, rfl, by rw [List.take_zero, T.mrg_nil]; exact F⟩
        case round =>
          clear F hck
          obtain ⟨j, hj, rfl, F⟩ := hrel
          by_cases hjl : j < m
          · have c3 : (j : Int) < (m : Int) := by omega
            rcases HS.out with h0 | ⟨b2, off2, rfl, hb2, hc2⟩
            · rw [h0] at hml; simp at hml; omega
            · have hcj := hc2 j (by omega)
              rw [← F.below.cell (p := ⟨b2, off2 + j, none⟩) hb2] at hcj
              have hxl := HL.out row[j] (List.getElem_mem _)
              have HT : Hid (row.take (j + 1) = row.take j ++ [row[j]]) := hid (List.take_succ_eq_append_getElem (by omega))
              have htl : (row.take j).length = j := by simp; omega
              clear hc2
              generalize row[j] = x at *
              generalize row.take j = pr at *
              have hlen := T.mrg_length ws pr
              have hsz := arr_size x
              have c5 : (x.length : Int) ≤ 1000000000 := by omega
              have c6 : (j : Int) < 1000000000 := by omega
              by_cases hnew : (T.mrg ws pr).length = j
              · have HN : Hid (T.mrg ws (pr ++ [x]) = T.mrg ws pr ++ [x.length]) := hid (T.mrg_new ws pr x (by omega))
                obtain ⟨ao', cap', rfl⟩ := F.anyN (n := j) (by rw [ints_length]; exact hnew)
                have HQ : Hid ((T.mrg ws pr).length = j) := hnew
                generalize T.mrg ws pr = q at *
                clear hnew htl hlen hml hl hxl
                go_wp2_with (first | (at_builtin; refine wpList_append_one rfl _ _ 88 3 rfl i0 _ 8 Tryz.underlying88 hi hz0 hz1 hz2 rfl _ _ rfl (F.alloc _) _ _ (.int .i64 0) rfl (cell_new _ _ _) rfl (by rw [ints_length, HQ.out]; omega) (by decide) ?_))
                intro v2 w2 F2 _
                have HQ2 : (ints q ++ [Value.int .i64 0]).length = j + 1 := by rw [List.length_append, ints_length, HQ.out]; rfl
                obtain ⟨g, cap2, rfl, hWg, hg1⟩ := F2.formN HQ2 (by omega)
                have c7 := F2.cell j (.int .i64 0) (by rw [List.getElem?_append_right (by rw [ints_length, HQ.out]; exact Nat.le_refl _), ints_length, HQ.out]; simp)
                have c8 := F2.free j
                have F3 : Hid (∀ u, HV W (w2.setCell ⟨g, j, none⟩ u) 3 (.slice (some ⟨g, 0, none⟩) (j + 1) cap2) ((ints q ++ [Value.int .i64 0]).set j u)) := hid (fun u => F2.set j u)
                have c9 : (j : Int) < (j : Int) + 1 := by omega
                clear F F2 HQ2
                go_wp2_with fail
                exact ⟨⟨j + 1, by omega, by go_num, by rw [HT.out, HN.out, ← ints_last q j x.length HQ.out (.int .i64 0)]; exact F3.out _⟩, by simp [intOf]; omega⟩
              · have hq : j < (T.mrg ws pr).length := by omega
                have HN : Hid (T.mrg ws (pr ++ [x]) = (T.mrg ws pr).set j (max ((T.mrg ws pr)[j]'hq) x.length)) := hid (by have := T.mrg_old pr x ws (by omega); rw [this]; simp only [htl])
                obtain ⟨nq, hnq⟩ : ∃ nq, (T.mrg ws pr).length = nq := ⟨_, rfl⟩
                obtain ⟨g, cap2, rfl, hWg, hg1⟩ := F.formN (n := nq) (by rw [ints_length]; exact hnq) (by omega)
                have c7 := F.cell j _ (ints_get _ j hq)
                have c8 := F.free j
                have F3 : Hid (∀ u, HV W (wr.setCell ⟨g, j, none⟩ (.int .i64 ((u : Nat) : Int))) 3 (.slice (some ⟨g, 0, none⟩) nq cap2) (ints ((T.mrg ws pr).set j u))) := hid (fun u => by rw [← ints_set]; exact F.set j _)
                have c9 : (j : Int) < (nq : Int) := by omega
                have c10 : ((j : Int) == (nq : Int)) = false := by simp; omega
                generalize (T.mrg ws pr)[j] = y at *
                generalize T.mrg ws pr = q at *
                clear hnew htl hlen hml hl hxl F hnq hq
                go_wp2_with fail
                rw [show max (y : Int) (x.length : Int) = ((max y x.length : Nat) : Int) from by omega]
                exact ⟨⟨j + 1, by omega, by go_num, by rw [HT.out, HN.out]; exact F3.out _⟩, by simp [intOf]; omega⟩
          · obtain rfl : j = m := by omega
            rw [List.take_of_length_le (by omega)] at F
            have HF : Hid (HV W wr 3 u2 (ints (T.widths (rows.take (k + 1))))) := hid (by rw [HX.out]; exact F)
            clear hml hl F
            go_wp2_with fail
            exact ⟨⟨k + 1, by omega, by go_num, HF.out⟩, by simp [intOf]; omega⟩
    · obtain rfl : k = n := by omega
      rw [List.take_of_length_le (by omega)] at F
      clear hl
      go_wp2_with fail
      go_ret
      exact ⟨_, rfl, F⟩
end Go.Proofs.YtbjinmlelchmgaaGreatDoor
