/- cut (11): lines. -/
import Derived.Test.YtbjinmlelchmgaaDoorCol3
namespace Go.Proofs.YtbjinmlelchmgaaDoor
open Go.RowKit
namespace T
/-- The lines that are whole behind the first k bytes, and where the next one begins. -/
def cutS (l : List UInt8) : Nat → List (List UInt8) × Nat
  | 0 => ([], 0)
  | k + 1 => if l.getD k 0 = 10 then ((cutS l k).1 ++ [(l.drop (cutS l k).2).take (k - (cutS l k).2)], k + 1) else cutS l k
theorem cutS_le (l : List UInt8) : ∀ k, (cutS l k).2 ≤ k ∧ (cutS l k).1.length ≤ k
  | 0 => by simp [cutS]
  | k + 1 => by
    have := cutS_le l k
    rw [cutS]
    split
    · simp; omega
    · omega
theorem cutS_in (l : List UInt8) (p : Nat) (ls : List (List UInt8)) (h : cutS l p = (ls, p)) (ln rest : List UInt8) (hl : l.drop p = ln ++ rest) (hn : ∀ c ∈ ln, c ≠ 10) : ∀ j, j ≤ ln.length → cutS l (p + j) = (ls, p) := by
  intro j
  induction j with
  | zero => intro _; exact h
  | succ j ih =>
    intro hj
    have := ih (by omega)
    rw [← Nat.add_assoc, cutS, if_neg ?_]
    · exact this
    · have e : l.getD (p + j) 0 = ln[j] := by
        have h1 : (l.drop p)[j]? = (ln ++ rest)[j]? := by rw [hl]
        rw [List.getElem?_drop, List.getElem?_append_left (by omega), List.getElem?_eq_getElem (l := ln) (by omega)] at h1
        rw [List.getD_eq_getElem?_getD, h1]
        rfl
      rw [e]
      exact hn _ (List.getElem_mem _)
theorem cutS_line (l : List UInt8) (p : Nat) (ls : List (List UInt8)) (h : cutS l p = (ls, p)) (ln rest : List UInt8) (hl : l.drop p = ln ++ 10 :: rest) (hn : ∀ c ∈ ln, c ≠ 10) : cutS l (p + (ln.length + 1)) = (ls ++ [ln], p + (ln.length + 1)) := by
  have h1 := cutS_in l p ls h ln (10 :: rest) hl hn ln.length (Nat.le_refl _)
  rw [← Nat.add_assoc, cutS, h1, if_pos ?_]
  · simp only [hl]
    rw [show p + ln.length - p = ln.length from by omega, List.take_left' rfl]
  · have h2 : (l.drop p)[ln.length]? = (ln ++ 10 :: rest)[ln.length]? := by rw [hl]
    rw [List.getElem?_drop, List.getElem?_append_right (Nat.le_refl _), Nat.sub_self] at h2
    rw [List.getD_eq_getElem?_getD, h2]
    rfl
theorem cutS_all (l : List UInt8) : ∀ (lines : List (List UInt8)) (p : Nat) (ls : List (List UInt8)), cutS l p = (ls, p) → p ≤ l.length → l.drop p = (lines.map (· ++ [10])).flatten → (∀ ln ∈ lines, ∀ c ∈ ln, c ≠ 10) → cutS l l.length = (ls ++ lines, l.length)
  | [], p, ls, h, hp, hl, _ => by
    have : l.length ≤ p := by
      have := congrArg List.length hl
      simp at this
      omega
    obtain rfl : p = l.length := by omega
    simpa using h
  | ln :: lines, p, ls, h, hp, hl, hn => by
    have hl' : l.drop p = ln ++ 10 :: (lines.map (· ++ [10])).flatten := by rw [hl]; simp
    have h1 := cutS_line l p ls h ln _ hl' (hn ln (by simp))
    have hlen := congrArg List.length hl'
    simp only [List.length_drop, List.length_append, List.length_cons] at hlen
    have h2 := cutS_all l lines (p + (ln.length + 1)) (ls ++ [ln]) h1 (by omega) (by
      rw [← List.drop_drop, hl', show ln ++ 10 :: (lines.map (· ++ [10])).flatten = (ln ++ [10]) ++ (lines.map (· ++ [10])).flatten from by simp]
      exact List.drop_left' (by simp)) (fun x hx => hn x (by simp [hx]))
    rw [h2]
    simp
/-- A table, cut into its lines. -/
theorem cutS_table (rows : List (List (List UInt8))) (ws : List Nat) (hn : ∀ r ∈ rows, ∀ c ∈ line ws r, c ≠ 10) : cutS (table rows ws) (table rows ws).length = (rows.map (line ws), (table rows ws).length) := by
  have := cutS_all (table rows ws) (rows.map (line ws)) 0 [] rfl (Nat.zero_le _) (by simp [table, Function.comp_def]) (by
    intro ln hln
    obtain ⟨r, hr, rfl⟩ := List.mem_map.1 hln
    exact hn r hr)
  simpa using this
end T
def strs (ls : List (List UInt8)) : List Value := ls.map fun (l : List UInt8) => Value.string ⟨l.toArray⟩
theorem strs_length (ls : List (List UInt8)) : (strs ls).length = ls.length := by simp [strs]
theorem strs_append (a : List (List UInt8)) (b : List UInt8) : strs (a ++ [b]) = strs a ++ [.string ⟨b.toArray⟩] := by simp [strs]
theorem Tryd.info9 : (Tryd.prog.info? 9).map (fun i => (i.zero, i.size, i.bytes)) = some (some (.string ⟨#[]⟩), 1, 16) := by kernel_rfl
set_option maxRecDepth 20000 in
set_option maxHeartbeats 1000000 in
theorem cut_any (W : World) (l : List UInt8) (hs : l.length ≤ 1000000000) :
    Calls Tryd.prog 11 #[.string ⟨l.toArray⟩] W fun e w' => ∃ v, e = .returned (.tuple #[v, .bool (((T.cutS l l.length).2 : Int) == (l.length : Int))]) ∧ HV W w' 9 v (strs (T.cutS l l.length).1) := by
  obtain ⟨i0, hi, hz0, hz1, hz2⟩ := info_parts Tryd.info9
  obtain ⟨n, hn⟩ : ∃ n, l.length = n := ⟨_, rfl⟩
  obtain ⟨s, hss⟩ : ∃ s : ByteArray, s = ⟨l.toArray⟩ := ⟨_, rfl⟩
  have hsz : s.size = n := by rw [hss, arr_size, hn]
  have HG : Hid (∀ k (h : k < s.size), s[k] = l.getD k 0) := hid (fun k h => by
    subst hss
    rw [List.getD_eq_getElem?_getD, List.getElem?_eq_getElem (by rw [hn, ← hsz]; exact h)]
    simp [ByteArray.getElem_eq_getElem_data])
  have HE : Hid (∀ f k, s.extract f k = ⟨((l.drop f).take (k - f)).toArray⟩) := hid (fun f k => by rw [hss, extract_eq])
  have b1 : (n : Int) ≤ 1000000000 := by omega
  rw [hn, ← hss]
  clear hn hs hss
  go_enter Tryd.func11, Tryd.ntmps11
  go_wp2_with fail
  go_loopw [4, 5, 6] (fun v f i wr => ∃ k : Nat, k ≤ n ∧ i = .int .i64 k ∧ f = .int .i64 ((T.cutS l k).2 : Int) ∧ HV W wr 9 v (strs (T.cutS l k).1)) (fun _ _ i _ => n - (intOf i).toNat)
  case atStart => exact ⟨0, Nat.zero_le _, rfl, rfl, HV.nil 9 (Below.refl _ _)⟩
  case round =>
    obtain ⟨k, hk, rfl, rfl, F⟩ := hrel
    have hle := T.cutS_le l k
    by_cases hlt : k < n
    · have c1 : (k : Int) < (n : Int) := by omega
      have c2 : (((T.cutS l k).2 : Nat) : Int) ≤ (k : Int) := by omega
      have hg := HG.out k (by omega)
      by_cases h10 : l.getD k 0 = 10
      · have HS : Hid (T.cutS l (k + 1) = ((T.cutS l k).1 ++ [(l.drop (T.cutS l k).2).take (k - (T.cutS l k).2)], k + 1)) := hid (by rw [T.cutS, if_pos h10])
        rw [h10] at hg
        have HL : Hid ((T.cutS l k).1.length ≤ k) := hle.2
        generalize (T.cutS l k).2 = f at *
        generalize (T.cutS l k).1 = ls at *
        have hex := HE.out f k
        clear h10 hle
        go_wp2_with (first | (at_builtin; refine wpList_append_one rfl _ _ 39 9 rfl i0 _ 16 Tryd.underlying39 hi hz0 hz1 hz2 rfl _ _ rfl (F.alloc _) _ _ _ rfl (cell_new _ _ _) rfl (by rw [strs_length]; have := HL.out; omega) (by decide) ?_))
        intro v2 w2 F2 _
        have F3 : Hid (HV W w2 9 v2 (strs (T.cutS l (k + 1)).1) ∧ (T.cutS l (k + 1)).2 = k + 1) := hid (by rw [HS.out]; refine ⟨?_, rfl⟩; simp only [strs_append]; exact F2)
        clear F F2 hex
        go_wp2_with fail
        exact ⟨⟨k + 1, by omega, by go_num, by rw [F3.out.2]; go_num, F3.out.1⟩, by simp [intOf]; omega⟩
      · have HS : Hid (T.cutS l (k + 1) = T.cutS l k) := hid (by rw [T.cutS, if_neg h10])
        have hne : (((l.getD k 0).toNat : Int) == 10) = false := by
          simp only [beq_eq_false_iff_ne, ne_eq]
          intro h
          exact h10 (UInt8.toNat_inj.1 (by show (l.getD k 0).toNat = 10; omega))
        generalize l.getD k 0 = x at *
        rw [← HS.out] at F
        have HF : Hid (T.cutS l k = T.cutS l (k + 1)) := hid HS.out.symm
        generalize hck : T.cutS l k = ck at *
        clear h10 hle hck
        go_wp2_with fail
        exact ⟨⟨k + 1, by omega, by go_num, by rw [← HF.out], F⟩, by simp [intOf]; omega⟩
    · obtain rfl : k = n := by omega
      obtain ⟨ao', cap', rfl⟩ := F.any
      go_wp2_with fail
      go_ret2
      exact ⟨_, rfl, F⟩
end Go.Proofs.YtbjinmlelchmgaaDoor
