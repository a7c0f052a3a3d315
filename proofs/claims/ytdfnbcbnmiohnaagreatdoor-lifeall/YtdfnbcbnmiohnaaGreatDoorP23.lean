import Derived.Test.YtdfnbcbnmiohnaaGreatDoorP14
namespace Go.Proofs.YtdfnbcbnmiohnaaGreatDoor.Q
open Go.RowKit
open Go.Proofs.YtdfnbcbnmiohnaaGreatDoor.H
theorem save_take (L : List Int) : (saveOf L).take 8 = S.run S.First L (L.length / 16) := saveL_head _ _ _ (run_length _ _ rfl _)
theorem save_num (L : List Int) : numL (saveOf L) = L.length := saveL_num _ _ _ (run_length _ _ rfl _)
theorem save_wait (L : List Int) : waitL (saveOf L) = L.drop (16 * (L.length / 16)) := saveL_wait _ _ _ (run_length _ _ rfl _) (by rw [List.length_drop]; omega)
theorem save_ok (L : List Int) (h : L.length ≤ 36028797018963968) : LoadOk (saveOf L) := by
  refine saveL_ok _ _ _ (run_length _ _ rfl _) (by rw [List.length_drop]; omega) h ?_
  by_cases hl : 16 ≤ L.length
  · exact .inl hl
  · refine .inr ?_
    rw [show L.length / 16 = 0 by omega]
    rfl
theorem exS_save (L xs : List Int) (h : L.length + xs.length ≤ 36028797018963968) : exS (saveOf L) xs = saveOf (L ++ xs) := by
  have hq : (L ++ xs).length / 16 = L.length / 16 + (L.length % 16 + xs.length) / 16 := by rw [List.length_append]; omega
  have hle : 16 * (L.length / 16) ≤ L.length := by omega
  unfold exS exQ
  rw [save_num, if_pos h, save_take, save_wait]
  unfold saveOf
  rw [hq, run_more S.First (L ++ xs) (L.length / 16), run_head S.First L xs _ hle, List.drop_append_of_le_length hle, List.length_append]
  congr 1
  rw [Nat.mul_add, ← List.drop_drop, List.drop_append_of_le_length hle]
theorem fiS_save (L : List Int) : fiS (saveOf L) = sumW L := by
  unfold fiS sumW
  rw [save_take, save_wait, save_num]
end Go.Proofs.YtdfnbcbnmiohnaaGreatDoor.Q
