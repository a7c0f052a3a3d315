/- The document's cut 57, eight 56. -/
import Derived.Test.YtbpdmkohihgnjaaDoorFp
import Derived.Test.YtbpdmkohihgnjaaDoorVR5VR6VR7VR8
namespace Go.Proofs.YtbpdmkohihgnjaaDoor
open Go.RowKit
set_option maxHeartbeats 4000000
set_option maxRecDepth 100000
theorem holdsV_at {W wr : World} {k : IntKind} {e : TypeId} {v : Value} {L : List Int} (h : V.Holds W wr k e v L) : ∃ ao cap, v = .slice ao L.length cap ∧ L.length ≤ cap ∧ At wr k ao L := by
  obtain ⟨ao, cap, h1, h2, h3, _⟩ := Holds.at' (⟨h.own, h.below⟩ : Holds W wr k e v L)
  exact ⟨ao, cap, h1, h2, h3⟩
def cutB (s : ByteArray) (a : Nat) : ByteArray := if s.size < a + 64 then ⟨#[]⟩ else at8 s a
theorem cutB_size (s : ByteArray) (a : Nat) : (cutB s a).size ≤ 64 := by
  unfold cutB at8
  split
  · exact Nat.zero_le _
  · rw [ByteArray.size_extract]; omega
attribute [-simp] Tryd.isAgg23 Tryd.sizeOf23 Tryd.zeroValue23
theorem cut20_any (W : World) (s : ByteArray) (hs : s.size ≤ 140737488355328) :
    Calls Tryd.prog 57 #[.string s, .int .i64 20, .int .i64 64] W fun e W' => e = .returned (.string (cutB s 20)) ∧ W' = W := by
  have h0 : (s.size : Int) ≤ 140737488355328 := by omega
  by_cases h : s.size < 20 + 64
  · have h1 : (s.size : Int) < 84 := by omega
    have HR := hid (show cutB s 20 = ⟨#[]⟩ from if_pos h)
    clear h hs
    go_enter Tryd.func57, Tryd.ntmps57
    go_wp2
    go_ret
    rw [HR.out]
    exact ⟨rfl, rfl⟩
  · have h1 : (84 : Int) ≤ (s.size : Int) := by omega
    have HR := hid (show cutB s 20 = s.extract 20 84 from if_neg h)
    clear h hs
    go_enter Tryd.func57, Tryd.ntmps57
    go_wp2
    go_ret
    rw [HR.out]
    exact ⟨rfl, rfl⟩
theorem cut90_any (W : World) (s : ByteArray) (hs : s.size ≤ 140737488355328) :
    Calls Tryd.prog 57 #[.string s, .int .i64 90, .int .i64 64] W fun e W' => e = .returned (.string (cutB s 90)) ∧ W' = W := by
  have h0 : (s.size : Int) ≤ 140737488355328 := by omega
  by_cases h : s.size < 90 + 64
  · have h1 : (s.size : Int) < 154 := by omega
    have HR := hid (show cutB s 90 = ⟨#[]⟩ from if_pos h)
    clear h hs
    go_enter Tryd.func57, Tryd.ntmps57
    go_wp2
    go_ret
    rw [HR.out]
    exact ⟨rfl, rfl⟩
  · have h1 : (154 : Int) ≤ (s.size : Int) := by omega
    have HR := hid (show cutB s 90 = s.extract 90 154 from if_neg h)
    clear h hs
    go_enter Tryd.func57, Tryd.ntmps57
    go_wp2
    go_ret
    rw [HR.out]
    exact ⟨rfl, rfl⟩
theorem cut159_any (W : World) (s : ByteArray) (hs : s.size ≤ 140737488355328) :
    Calls Tryd.prog 57 #[.string s, .int .i64 159, .int .i64 64] W fun e W' => e = .returned (.string (cutB s 159)) ∧ W' = W := by
  have h0 : (s.size : Int) ≤ 140737488355328 := by omega
  by_cases h : s.size < 159 + 64
  · have h1 : (s.size : Int) < 223 := by omega
    have HR := hid (show cutB s 159 = ⟨#[]⟩ from if_pos h)
    clear h hs
    go_enter Tryd.func57, Tryd.ntmps57
    go_wp2
    go_ret
    rw [HR.out]
    exact ⟨rfl, rfl⟩
  · have h1 : (223 : Int) ≤ (s.size : Int) := by omega
    have HR := hid (show cutB s 159 = s.extract 159 223 from if_neg h)
    clear h hs
    go_enter Tryd.func57, Tryd.ntmps57
    go_wp2
    go_ret
    rw [HR.out]
    exact ⟨rfl, rfl⟩
theorem eight_any (W : World) (s : ByteArray) (hs : s.size ≤ 140737488355328) :
    Calls Tryd.prog 56 #[.string s] W fun e W' => e = .returned (.tuple #[Ag (w8 s), .bool (decide (ok8 s))]) ∧ Below W.heap.size W W' := by
  obtain ⟨Z, hZ⟩ : ∃ Z : List Int, Z = List.replicate 8 0 := ⟨_, rfl⟩
  have hZl : Z.length = 8 := by rw [hZ]; simp
  have hz : ∀ w, (zeroValue 23).run Tryd.prog w = .ok (.agg (Z.map (Value.int .u32)).toArray) w := fun w => by rw [Tryd.zeroValue23, hZ]; rfl
  have hbu : ∀ w, (Instr.build 23 #[]).run Tryd.prog w = .ok (.agg (Z.map (Value.int .u32)).toArray) w := fun w => by rw [hZ]; kernel_rfl
  obtain ⟨X, hX⟩ : ∃ X, X = W.alloc (Obj.cells (List.map (Value.int IntKind.u32) Z).toArray 23) := ⟨_, rfl⟩
  have HB : Hid (Below W.heap.size W X) := hid (by rw [hX]; exact below_one _ _)
  have bz : Hid (Blk X W.heap.size .u32 23 Z) := hid (by rw [hX]; exact Blk.new W .u32 23 Z)
  by_cases h64 : s.size = 64
  · have HP := hid (V.rparseAll_any X s 8 h64 (by decide))
    clear hs
    by_cases hok : ∀ i, i < 8 → V.pv (V.strL s) (8 * i) 8 ≠ none
    · have h8 : ok8 s := ⟨h64, hok⟩
      have HR := hid (show Ag (w8 s) = Ag (V.hexWs (V.strL s) 8) by unfold w8; rw [if_pos h8])
      have HD := hid (show decide (ok8 s) = true from decide_eq_true h8)
      have hMl : (V.hexWs (V.strL s) 8).length = 8 := V.hexWs_length _ _
      have HP' : Hid (Calls Tryd.prog 82 #[.string s] X fun e W' => ∃ g off c, e = .returned (.tuple #[.slice (some ⟨g, off, none⟩) 8 c, .int .i64 0]) ∧ 8 ≤ c ∧ Row W' .u32 g off (V.hexWs (V.strL s) 8) ∧ Below X.heap.size X W') := hid (HP.out.mono (by
        rintro e w' (⟨_, v, rfl, ho⟩ | ⟨⟨i, hi, hn⟩, _⟩)
        · obtain ⟨p, c, rfl, hc, hat⟩ := holdsV_at ho
          rw [hMl] at hc ⊢
          rcases hat with h0 | ⟨g, off, rfl, _, hr⟩
          · rw [h0] at hMl; cases hMl
          · exact ⟨g, off, c, rfl, hc, hr, ho.below⟩
        · exact absurd hn (hok i hi)))
      generalize V.hexWs (V.strL s) 8 = M at *
      clear HP hok h64 h8 hZ hbu
      go_enter Tryd.func56, Tryd.ntmps56
      go_upto_region 1 with fail
      rw [← hX]
      clear hX
      go_upto_region 2 with (first | (go_at_call 82; refine HP'.out.mono ?_; rintro e w1 ⟨g1, o1, c1, rfl, hc1, hr, hb⟩; have Y1 : Hid (Row w1 .u32 g1 o1 M ∧ Below W.heap.size W w1 ∧ Blk w1 W.heap.size .u32 23 Z) := hid ⟨hr, below_on HB.out hb, bz.out.on hb⟩; clear hr hb))
      clear HP' bz HB
      have har : ∀ w, (Instr.arrayAt 23 (.slice (some ⟨g1, o1, none⟩) 8 c1)).run Tryd.prog w = .ok (.pointer (some ⟨g1, o1, none⟩)) w := fun w => run_arrayAt w 23 _ 8 _ 8 c1 Tryd.underlying23 (Nat.le_refl _)
      go_wp2_with (first | (refine wpList_load_mid rfl 23 _ rfl g1 o1 rfl _ _ Y1.out.1.range Tryd.underlying23 rfl (by rw [List.length_map, hMl]; exact size26) ?_) | (refine wpList_store_blk rfl 23 _ _ rfl W.heap.size M rfl rfl Y1.out.2.2 (by rw [hMl]; exact size26) (by rw [hZl, hMl]) ?_))
      refine ret_cell2 rfl rfl W.heap.size M rfl (Y1.out.2.2.setRow _) Tryd.underlying23 (by rw [hMl]; exact size26) ⟨by rw [HR.out, HD.out]; rfl, below_setRow Y1.out.2.1 (Nat.le_refl _) _⟩
    · have h8 : ¬ ok8 s := fun h => hok h.2
      have HR := hid (show Ag (w8 s) = Ag Z by unfold w8; rw [if_neg h8, hZ])
      have HD := hid (show decide (ok8 s) = false from decide_eq_false h8)
      have HP' : Hid (Calls Tryd.prog 82 #[.string s] X fun e W' => e = .returned (.tuple #[.slice none 0 0, .int .i64 10]) ∧ Below X.heap.size X W') := hid (HP.out.mono (by
        rintro e w' (⟨h, v, rfl, ho⟩ | ⟨_, rfl, hb⟩)
        · exact absurd h hok
        · exact ⟨rfl, hb⟩))
      clear HP hok h64 h8 hZ
      go_enter Tryd.func56, Tryd.ntmps56
      go_upto_region 1 with fail
      rw [← hX]
      clear hX
      go_wp2_with (first | (go_at_call 82; refine HP'.out.mono ?_; rintro e w1 ⟨rfl, hb⟩; have Y1 : Hid (Below W.heap.size W w1 ∧ Blk w1 W.heap.size .u32 23 Z) := hid ⟨below_on HB.out hb, bz.out.on hb⟩; clear hb) | (revert Y1; intro Y1; refine wpList_store_blk rfl 23 _ _ rfl W.heap.size Z rfl rfl Y1.out.2 (by rw [hZl]; exact size26) rfl ?_))
      refine ret_cell2 rfl rfl W.heap.size Z rfl (Y1.out.2.setRow _) Tryd.underlying23 (by rw [hZl]; exact size26) ⟨by rw [HR.out, HD.out]; rfl, below_setRow Y1.out.1 (Nat.le_refl _) _⟩
  · have h8 : ¬ ok8 s := fun h => h64 h.1
    have HR := hid (show Ag (w8 s) = Ag Z by unfold w8; rw [if_neg h8, hZ])
    have HD := hid (show decide (ok8 s) = false from decide_eq_false h8)
    obtain ⟨c, er, HP', hne⟩ : ∃ (n : Nat) (er : Int), Hid (Calls Tryd.prog 82 #[.string s] X fun e W' => ∃ p ao, e = .returned (.tuple #[.slice p n ao, .int .i64 er]) ∧ Below X.heap.size X W') ∧ (er = 0 → n ≠ 8) := by
      by_cases hl : 2097152 < s.size
      · exact ⟨0, 2, hid ((V.rparseAll_long X s hl (by omega)).mono (by rintro e w' ⟨rfl, rfl⟩; exact ⟨none, 0, rfl, Below.refl _ _⟩)), fun h => by cases h⟩
      · by_cases hm : s.size % 8 = 0
        · refine ⟨if (∀ i, i < s.size / 8 → V.pv (V.strL s) (8 * i) 8 ≠ none) then s.size / 8 else 0, if (∀ i, i < s.size / 8 → V.pv (V.strL s) (8 * i) 8 ≠ none) then 0 else 10, hid ((V.rparseAll_any X s (s.size / 8) (by omega) (by omega)).mono ?_), fun h => ?_⟩
          · rintro e w' (⟨h, v, rfl, ho⟩ | ⟨⟨i, hi, hn⟩, rfl, hb⟩)
            · rw [if_pos h, if_pos h]
              obtain ⟨p, c, rfl, _, _⟩ := holdsV_at ho
              rw [V.hexWs_length]
              exact ⟨_, _, rfl, ho.below⟩
            · have : ¬ (∀ i, i < s.size / 8 → V.pv (V.strL s) (8 * i) 8 ≠ none) := fun h => h i hi hn
              rw [if_neg this, if_neg this]; exact ⟨none, 0, rfl, hb⟩
          · split at h
            · rename_i hh; rw [if_pos hh]; omega
            · cases h
        · exact ⟨0, 10, hid ((V.rparseAll_part X s (by omega) hm).mono (by rintro e w' ⟨rfl, rfl⟩; exact ⟨none, 0, rfl, Below.refl _ _⟩)), fun h => by cases h⟩
    clear h64 h8 hZ hs
    by_cases he : er = 0
    · subst he
      have hn8 : ((c : Int) != 8) = true := by have := hne rfl; simp; omega
      clear hne
      go_enter Tryd.func56, Tryd.ntmps56
      go_upto_region 1 with fail
      rw [← hX]
      clear hX
      go_wp2_with (first | (go_at_call 82; refine HP'.out.mono ?_; rintro e w1 ⟨p, pc, rfl, hb⟩; have Y1 : Hid (Below W.heap.size W w1 ∧ Blk w1 W.heap.size .u32 23 Z) := hid ⟨below_on HB.out hb, bz.out.on hb⟩; clear hb) | (revert Y1; intro Y1; refine wpList_store_blk rfl 23 _ _ rfl W.heap.size Z rfl rfl Y1.out.2 (by rw [hZl]; exact size26) rfl ?_))
      refine ret_cell2 rfl rfl W.heap.size Z rfl (Y1.out.2.setRow _) Tryd.underlying23 (by rw [hZl]; exact size26) ⟨by rw [HR.out, HD.out]; rfl, below_setRow Y1.out.1 (Nat.le_refl _) _⟩
    · have he' : (er != 0) = true := by simpa using he
      clear hne he
      go_enter Tryd.func56, Tryd.ntmps56
      go_upto_region 1 with fail
      rw [← hX]
      clear hX
      go_wp2_with (first | (go_at_call 82; refine HP'.out.mono ?_; rintro e w1 ⟨p, pc, rfl, hb⟩; have Y1 : Hid (Below W.heap.size W w1 ∧ Blk w1 W.heap.size .u32 23 Z) := hid ⟨below_on HB.out hb, bz.out.on hb⟩; clear hb) | (revert Y1; intro Y1; refine wpList_store_blk rfl 23 _ _ rfl W.heap.size Z rfl rfl Y1.out.2 (by rw [hZl]; exact size26) rfl ?_))
      refine ret_cell2 rfl rfl W.heap.size Z rfl (Y1.out.2.setRow _) Tryd.underlying23 (by rw [hZl]; exact size26) ⟨by rw [HR.out, HD.out]; rfl, below_setRow Y1.out.1 (Nat.le_refl _) _⟩
end Go.Proofs.YtbpdmkohihgnjaaDoor
