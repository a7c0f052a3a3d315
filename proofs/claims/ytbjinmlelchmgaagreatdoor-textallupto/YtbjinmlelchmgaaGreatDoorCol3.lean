/- Columns (12). -/
import Derived.Test.YtbjinmlelchmgaaGreatDoorBldCol2
import Derived.Test.YtbjinmlelchmgaaGreatDoorColR
namespace Go.Proofs.YtbjinmlelchmgaaGreatDoor
open Go.RowKit
namespace T
theorem foldl_ge (rows : List (List (List UInt8))) : ∀ (ws : List Nat), ws.length ≤ (rows.foldl mrg ws).length ∧ (∀ i, ws.getD i 0 ≤ (rows.foldl mrg ws).getD i 0) ∧ ∀ r ∈ rows, r.length ≤ (rows.foldl mrg ws).length ∧ ∀ i, (r.getD i []).length ≤ (rows.foldl mrg ws).getD i 0 := by
  induction rows with
  | nil => intro ws; simp
  | cons r rows ih =>
    intro ws
    obtain ⟨h1, h2, h3⟩ := ih (mrg ws r)
    have hl := mrg_length ws r
    simp only [List.foldl_cons]
    refine ⟨by omega, fun i => ?_, ?_⟩
    · have := h2 i
      rw [mrg_getD] at this
      omega
    · intro r' hr'
      rcases List.mem_cons.1 hr' with rfl | hr'
      · refine ⟨by omega, fun i => ?_⟩
        have := h2 i
        rw [mrg_getD] at this
        omega
      · exact h3 r' hr'
theorem widths_ge (rows : List (List (List UInt8))) (r : List (List UInt8)) (hr : r ∈ rows) : r.length ≤ (widths rows).length ∧ ∀ i, (r.getD i []).length ≤ (widths rows).getD i 0 := (foldl_ge rows []).2.2 r hr
theorem foldl_is (rows : List (List (List UInt8))) : ∀ (ws : List Nat) (i : Nat), (rows.foldl mrg ws).getD i 0 = ws.getD i 0 ∨ ∃ r ∈ rows, (r.getD i []).length = (rows.foldl mrg ws).getD i 0 := by
  induction rows with
  | nil => intro ws i; left; rfl
  | cons r rows ih =>
    intro ws i
    simp only [List.foldl_cons]
    rcases ih (mrg ws r) i with h | ⟨r', hr', h⟩
    · rw [mrg_getD] at h
      rcases Nat.le_total (ws.getD i 0) (r.getD i []).length with h1 | h1
      · right; exact ⟨r, by simp, by omega⟩
      · left; omega
    · right; exact ⟨r', by simp [hr'], h⟩
theorem widths_is (rows : List (List (List UInt8))) (i : Nat) : (widths rows).getD i 0 = 0 ∨ ∃ r ∈ rows, (r.getD i []).length = (widths rows).getD i 0 := by
  rcases foldl_is rows [] i with h | h
  · left; simpa [widths] using h
  · right; exact h
theorem widths_length_is (rows : List (List (List UInt8))) : ∀ ws : List Nat, (rows.foldl mrg ws).length = ws.length ∨ ∃ r ∈ rows, r.length = (rows.foldl mrg ws).length := by
  induction rows with
  | nil => intro ws; left; rfl
  | cons r rows ih =>
    intro ws
    simp only [List.foldl_cons]
    have hl := mrg_length ws r
    rcases ih (mrg ws r) with h | ⟨r', hr', h⟩
    · rcases Nat.le_total ws.length r.length with h1 | h1
      · right; exact ⟨r, by simp, by omega⟩
      · left; omega
    · right; exact ⟨r', by simp [hr'], h⟩
theorem getD_len (r : List (List UInt8)) (M : Nat) (h : ∀ x ∈ r, x.length ≤ M) (i : Nat) : (r.getD i []).length ≤ M := by
  rw [List.getD_eq_getElem?_getD]
  cases hi : r[i]? with
  | none => simp
  | some x => exact h x (List.mem_of_getElem? hi)
theorem widths_le (rows : List (List (List UInt8))) (M : Nat) (h : ∀ r ∈ rows, r.length ≤ M ∧ ∀ x ∈ r, x.length ≤ M) : (widths rows).length ≤ M ∧ ∀ x ∈ widths rows, x ≤ M := by
  refine ⟨?_, fun x hx => ?_⟩
  · rcases widths_length_is rows [] with h1 | ⟨r, hr, h1⟩
    · unfold widths; rw [h1]; exact Nat.zero_le _
    · unfold widths; rw [← h1]; exact (h r hr).1
  · obtain ⟨i, hi, rfl⟩ := List.getElem_of_mem hx
    have e : (widths rows)[i] = (widths rows).getD i 0 := by rw [List.getD_eq_getElem?_getD, List.getElem?_eq_getElem hi]; rfl
    rw [e]
    rcases widths_is rows i with h1 | ⟨r, hr, h1⟩
    · omega
    · rw [← h1]; exact getD_len r M (h r hr).2 i
theorem table_take (rows : List (List (List UInt8))) (ws : List Nat) (k : Nat) : (table (rows.take k) ws).length ≤ (table rows ws).length := by
  have : table rows ws = table (rows.take k) ws ++ table (rows.drop k) ws := by
    unfold table
    rw [← List.flatten_append, ← List.map_append, List.take_append_drop]
  rw [this, List.length_append]
  omega
end T
set_option maxRecDepth 40000 in
set_option maxHeartbeats 4000000 in
theorem columns_any (W : World) (ao : Option Addr) (n c : Nat) (rows : List (List (List UInt8))) (hl : rows.length = n) (hn : n ≤ 1000000000) (hr : ∀ r ∈ rows, r.length ≤ 1000000000 ∧ ∀ x ∈ r, x.length ≤ 1000000000) (hat : RowsAt W ao rows) (hT : (T.columns rows).length ≤ 140737488355328) :
    Calls Tryz.prog 22 #[.slice ao n c] W fun e w' => e = .returned (.string ⟨(T.columns rows).toArray⟩) ∧ Below W.heap.size W w' := by
  have b1 : (n : Int) ≤ 1000000000 := by omega
  have HW : Hid (Calls Tryz.prog 53 #[.slice ao n c] W fun e w' => ∃ v, e = .returned v ∧ HV W w' 3 v (ints (T.widths rows))) := widths_any W ao n c rows hl hn hr hat
  have hle := T.widths_le rows 1000000000 hr
  have HGE : Hid (∀ r ∈ rows, r.length ≤ (T.widths rows).length ∧ ∀ i, (r.getD i []).length ≤ (T.widths rows).getD i 0) := hid (fun r h => T.widths_ge rows r h)
  have HTT : Hid ((T.table rows (T.widths rows)).length ≤ 140737488355328) := hT
  have HFin : Hid (T.columns rows = T.table rows (T.widths rows)) := hid rfl
  have HA : Hid (RowsAt W ao rows) := hat
  have HR : Hid (∀ r ∈ rows, r.length ≤ 1000000000 ∧ ∀ x ∈ r, x.length ≤ 1000000000) := hr
  have HLN : Hid (rows.length = n) := hl
  generalize T.widths rows = ws at *
  have HLE : Hid (ws.length ≤ 1000000000 ∧ ∀ x ∈ ws, x ≤ 1000000000) := hle
  obtain ⟨nw, hnw⟩ : ∃ nw, ws.length = nw := ⟨_, rfl⟩
  have HNW : Hid (ws.length = nw) := hnw
  clear hat hr hl hT hle hnw
  go_enter Tryz.func22, Tryz.ntmps22
  go_wp2_with fail
  refine HW.out.mono ?_
  rintro e V ⟨v, rfl, FV⟩
  obtain ⟨aw, cw, rfl, hwat⟩ := FV.ints_at HNW.out
  have hbV := FV.below
  have HWAT : Hid (IntsAt V aw ws) := hwat
  have HAV : Hid (RowsAt V ao rows) := hid (HA.out.on hbV)
  clear hwat FV HA HW
  go_wp2_with fail
  have F0 := BL.fresh V
  go_loopw [6, 11] (fun _ i wr => ∃ k : Nat, k ≤ n ∧ i = .int .i64 k ∧ BL V wr V.heap.size (T.table (rows.take k) ws)) (fun _ i _ => n - (intOf i).toNat)
  case atStart => exact ⟨0, Nat.zero_le _, rfl, F0⟩
  case round =>
    clear F0
    obtain ⟨k, hk, rfl, F⟩ := hrel
    by_cases hlt : k < n
    · have c1 : (k : Int) < (n : Int) := by omega
      have hkl : k < rows.length := by rw [HLN.out]; exact hlt
      rcases HAV.out with h0 | ⟨g, off, rfl, hg, hc⟩
      · rw [h0] at hkl; simp at hkl
      · obtain ⟨ai, ci, hck, hs⟩ := hc k hkl
        rw [← F.below.cell (p := ⟨g, off + k, none⟩) hg] at hck
        have hge := HGE.out rows[k] (List.getElem_mem _)
        have hrb := HR.out rows[k] (List.getElem_mem _)
        have HNX : Hid (T.table (rows.take (k + 1)) ws = T.table (rows.take k) ws ++ T.line ws rows[k] ++ [10]) := hid (by rw [List.take_succ_eq_append_getElem hkl, T.table_snoc])
        have htk := T.table_take rows ws (k + 1)
        rw [HNX.out] at htk
        have hTT := HTT.out
        simp only [List.length_append, List.length_cons, List.length_nil] at htk
        have HL : Hid ((T.table (rows.take k) ws ++ T.line ws rows[k]).length + 1 ≤ 140737488355328) := hid (by rw [List.length_append]; omega)
        have HLY : Hid (∀ w, BL V w V.heap.size (T.table (rows.take k) ws) → Calls Tryz.prog 54 #[.pointer (some ⟨V.heap.size, 0, none⟩), .slice ai rows[k].length ci, .slice aw nw cw] w fun e w' => e = .returned (.tuple #[]) ∧ BL V w' V.heap.size (T.table (rows.take k) ws ++ T.line ws rows[k])) := hid (fun w h => by
          refine lay_any V w V.heap.size _ h ai rows[k].length ci rows[k] rfl hrb.1 hrb.2 hs aw nw cw ws HNW.out (by rw [← HNW.out]; exact hge.1) (fun i hi => .inr ?_) HLE.out.2 HWAT.out (by omega)
          have := hge.2 i
          rw [List.getD_eq_getElem?_getD (l := ws), List.getElem?_eq_getElem hi] at this
          exact this)
        clear hge hrb htk hTT hs hc
        generalize rows[k].length = m at *
        generalize T.line ws rows[k] = ln at *
        generalize T.table (rows.take k) ws = q at *
        clear hkl
        go_wp2_with fail
        refine (HLY.out _ F).mono ?_
        rintro e w2 ⟨rfl, F2⟩
        go_wp2_with fail
        refine (writeByte_any V _ _ _ F2 HL.out).mono ?_
        rintro e w3 ⟨rfl, F3⟩
        go_wp2_with fail
        exact ⟨⟨k + 1, by omega, by go_num, by rw [HNX.out]; exact F3⟩, by simp [intOf]; omega⟩
    · obtain rfl : k = n := by omega
      rw [List.take_of_length_le (by rw [HLN.out]; exact Nat.le_refl _)] at F
      rw [← HFin.out] at F
      obtain ⟨q, hq⟩ : ∃ q, T.columns rows = q := ⟨_, rfl⟩
      rw [hq] at F
      have HQ : Hid (T.columns rows = q) := hq
      clear hq
      go_wp2_with fail
      refine (string_any V _ _ q F).mono ?_
      rintro e w2 ⟨rfl, hb2⟩
      go_wp2_with fail
      go_ret
      exact ⟨by rw [HQ.out]; rfl, hbV.trans (hb2.mono hbV.size)⟩
end Go.Proofs.YtbjinmlelchmgaaGreatDoor
