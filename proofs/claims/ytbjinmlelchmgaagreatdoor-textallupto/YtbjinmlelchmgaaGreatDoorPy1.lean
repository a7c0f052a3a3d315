/- The law's plays (11): kind 1 (Lines). -/
import Derived.Test.YtbjinmlelchmgaaGreatDoorPy5
import Derived.Test.YtbjinmlelchmgaaGreatDoorLin1
namespace Go.Proofs.YtbjinmlelchmgaaGreatDoor
open Go.RowKit
theorem HV.strs {W w : World} {v : Value} {l : List (List UInt8)} (h : HV W w 9 v (strsV l)) : ∃ ao cap, v = .slice ao l.length cap ∧ StrsAt w ao l := by
  cases hl : l with
  | nil =>
    subst hl
    obtain ⟨ao, cap, rfl⟩ := h.any
    exact ⟨ao, cap, rfl, .inl rfl⟩
  | cons a t =>
    rw [← hl]
    obtain ⟨g, cap, _, h1, _⟩ := h.form (by rw [strsV_length, hl]; simp)
    subst h1
    refine ⟨_, cap, by rw [strsV_length], ?_⟩
    exact strs_at (m := []) (by rw [List.append_nil]; exact h)
set_option maxRecDepth 40000 in
set_option maxHeartbeats 2000000 in
theorem plays1 (W : World) (s : ByteArray) (p u i : Int) (ab ar : Option Addr) (nb cb nr cr : Nat) (hs : s.size ≤ 100000000) (m : Int) (hm : W.cell? ⟨1, 0, none⟩ = some (.int .i64 m)) :
    Calls Tryz.prog 11 #[.agg #[.int .i64 1, .string s, .int .i64 p, .slice ab nb cb, .int .u32 u, .int .i32 i, .slice ar nr cr]] W fun e w' => e = .returned (.bool true) ∧ Below W.heap.size W w' := by
  have H0 : Hid (∀ w, Calls Tryz.prog 30 #[.string s, .int .i64 p] w fun e w' => e = .returned (.string ⟨(s.data.toList ++ List.replicate (min p.toNat 65540) 97).toArray⟩) ∧ Below w.heap.size w w') := hid (fun w => padded_any w s p (by omega))
  have HTS : (⟨(s.data.toList ++ List.replicate (min p.toNat 65540) 97).toArray⟩ : ByteArray).size ≤ 200000000 := by
    rw [arr_size, List.length_append, List.length_replicate, size_list]; omega
  generalize (⟨(s.data.toList ++ List.replicate (min p.toNat 65540) 97).toArray⟩ : ByteArray) = t at *
  have HM : Hid (∀ w, Below W.heap.size W w → w.cell? ⟨1, 0, none⟩ = some (.int .i64 m)) := hid (fun w hw => by
    have hlt : 1 < W.heap.size := by
      rcases Nat.lt_or_ge 1 W.heap.size with h | h
      · exact h
      · exfalso
        simp [World.cell?, Array.getElem?_eq_none h] at hm
    rw [hw.cell (p := ⟨1, 0, none⟩) hlt]; exact hm)
  have H1 : Hid (∀ w, Calls Tryz.prog 17 #[.string t] w fun e w' => LnPost w t e w') := hid (fun w => rlines_any w t (by omega))
  by_cases hb : 65536 < t.size
  · have H2 : Hid (∀ w, Calls Tryz.prog 12 #[.string t] w fun e w' => e = .returned (.tuple #[.slice none 0 0, .int .i64 2]) ∧ w' = w) := hid (fun w => lines_long w t hb (by omega))
    have H3 : Hid (∀ w, Calls Tryz.prog 26 #[.slice none 0 0, .slice none 0 0] w fun e w' => e = .returned (.bool true) ∧ Below w.heap.size w w') := hid (fun w => same_any w none none 0 0 0 [] rfl (by decide) (.inl rfl) (.inl rfl))
    unfold LnPost at H1
    simp only [if_pos hb] at H1
    clear hb HTS HM hs hm
    go_enter Tryz.func11, Tryz.ntmps11
    go_wp2_with fail
    refine (H0.out _).mono ?_
    rintro e w1 ⟨rfl, hb1⟩
    go_wp2_with fail
    refine (H1.out _).mono ?_
    rintro e w2 ⟨rfl, hb2⟩
    go_wp2_with fail
    refine (H2.out _).mono ?_
    rintro e w3 ⟨rfl, rfl⟩
    go_wp2_with fail
    refine (H3.out _).mono ?_
    rintro e w4 ⟨rfl, hb4⟩
    have HBB : Hid (Below W.heap.size W w4) := hid (by
      have x1 := box_up hb1
      have x2 := x1.trans (hb2.mono x1.size)
      exact x2.trans (hb4.mono x2.size))
    clear hb1 hb2 hb4
    go_wp2_with fail
    go_ret
    exact ⟨rfl, HBB.out⟩
  · have H2 : Hid (∀ w, Below W.heap.size W w → Calls Tryz.prog 12 #[.string t] w fun e w' => LiPost w t.data.toList e w') := hid (fun w hw => lines_any w t m (by omega) (HM.out w hw))
    have hll : (T.lines t.data.toList).length ≤ 1000000000 := by
      have h1 := cutL_len t.data.toList
      rw [size_list] at h1
      unfold T.lines
      split
      · rw [List.length_dropLast]; omega
      · omega
    have H3 : Hid (∀ w a1 a2 p1 p2, StrsAt w a1 (T.lines t.data.toList) → StrsAt w a2 (T.lines t.data.toList) → Calls Tryz.prog 26 #[.slice a1 (T.lines t.data.toList).length p1, .slice a2 (T.lines t.data.toList).length p2] w fun e w' => e = .returned (.bool true) ∧ Below w.heap.size w w') := hid (fun w a1 a2 p1 p2 h1 h2 => same_any w a1 a2 _ p1 p2 _ rfl hll h1 h2)
    unfold LnPost at H1
    simp only [if_neg hb] at H1
    unfold LiPost at H2
    generalize T.lines t.data.toList = L at *
    clear hb HTS HM hs hm hll
    go_enter Tryz.func11, Tryz.ntmps11
    go_wp2_with fail
    refine (H0.out _).mono ?_
    rintro e w1 ⟨rfl, hb1⟩
    go_wp2_with fail
    refine (H1.out _).mono ?_
    rintro e w2 ⟨v, rfl, F2⟩
    obtain ⟨a2, c2, rfl, hs2⟩ := F2.strs
    have hb2 := F2.below
    have x2 : Hid (Below W.heap.size W w2) := hid ((box_up hb1).trans (hb2.mono (box_up hb1).size))
    have S2 : Hid (StrsAt w2 a2 L) := hs2
    clear F2 hb2 hb1 hs2
    go_wp2_with fail
    refine (H2.out _ x2.out).mono ?_
    rintro e w3 ⟨g, c3, rfl, hs3, hb3⟩
    have S3 : Hid (StrsAt w3 (some ⟨g, 0, none⟩) L) := hs3
    have S4 : Hid (StrsAt w3 a2 L) := hid (S2.out.on hb3)
    have x3 : Hid (Below W.heap.size W w3) := hid (x2.out.trans (hb3.mono x2.out.size))
    clear hs3 hb3
    go_wp2_with fail
    refine (H3.out _ _ _ _ _ S3.out S4.out).mono ?_
    rintro e w4 ⟨rfl, hb4⟩
    have HBB : Hid (Below W.heap.size W w4) := hid (x3.out.trans (hb4.mono x3.out.size))
    clear hb4
    go_wp2_with fail
    go_ret
    exact ⟨rfl, HBB.out⟩
end Go.Proofs.YtbjinmlelchmgaaGreatDoor
