/- The document's Hexed (39). -/
import Derived.Test.YtncnogndopgknaaDoorDg
import Derived.Test.YtncnogndopgknaaDoorHexd
namespace Go.Proofs.YtncnogndopgknaaDoor
open Go.RowKit
theorem bapp1 (x : UInt8) (t : List UInt8) : (⟨#[x]⟩ : ByteArray) ++ ⟨t.toArray⟩ = ⟨(x :: t).toArray⟩ := by
  apply ByteArray.ext
  rw [ByteArray.data_append]
  simp
theorem bapp2 (x y : UInt8) (t : List UInt8) : (⟨#[x, y]⟩ : ByteArray) ++ ⟨t.toArray⟩ = ⟨(x :: y :: t).toArray⟩ := by
  apply ByteArray.ext
  rw [ByteArray.data_append]
  simp
def tailH (w i : Nat) : List UInt8 := (List.range i).map fun j => T.hexD (w / 16 ^ (i - 1 - j) % 16)
theorem tailH_succ (w i : Nat) : tailH w (i + 1) = T.hexD (w / 16 ^ i % 16) :: tailH w i := by
  unfold tailH
  rw [List.range_succ_eq_map, List.map_cons, List.map_map]
  congr 1
  apply List.map_congr_left
  intro j hj
  have := List.mem_range.1 hj
  simp only [Function.comp]
  rw [show i + 1 - 1 - (j + 1) = i - 1 - j by omega]
theorem tailH_length (w i : Nat) : (tailH w i).length = i := by simp [tailH]
theorem ret_txt9 {a b : List UInt8} (h : a = b) : Ending.returned (.string ⟨a.toArray⟩) = .returned (.string ⟨b.toArray⟩) := by rw [h]
theorem rHexed_any (W : World) (w : Nat) (hw : w < 4294967296) :
    Calls Tryd.prog 27 #[.int .u32 (w : Int)] W fun e W' => e = .returned (.string ⟨(T.hexed8 w).toArray⟩) ∧ W = W' := by
  have HR : Hid (48 :: 120 :: tailH w 8 = T.hexed8 w) := hid rfl
  have w1 : (w : Int) < 4294967296 := by omega
  have HW : Hid (w < 4294967296) := hw
  generalize T.hexed8 w = R at *
  clear hw
  go_enter Tryd.func27, Tryd.ntmps27
  go_wp2_with fail
  go_loopw [3, 4, 5] (fun s n i wr => ∃ (k m : Nat), k ≤ 8 ∧ i = .int .i64 (k : Int) ∧ n = .int .i64 (m : Int) ∧ s = .string ⟨(tailH w k).toArray⟩ ∧ (m : Int) < 4294967296 ∧ Hid (m = w / 16 ^ k) ∧ W = wr) (fun _ _ i _ => 8 - (intOf i).toNat)
  case atStart => exact ⟨0, w, Nat.zero_le _, rfl, rfl, rfl, w1, hid (by simp), rfl⟩
  case round =>
    obtain ⟨k, m, hk, rfl, rfl, rfl, m1, HM, rfl⟩ := hrel
    have hz := tailH_length w k
    by_cases hk2 : k < 8
    · have c1 : (k : Int) < 8 := by omega
      obtain ⟨d, hd⟩ : ∃ d, m % 16 = d := ⟨_, rfl⟩
      obtain ⟨n, hn⟩ : ∃ n, m / 16 = n := ⟨_, rfl⟩
      have HN : Hid (n = w / 16 ^ (k + 1)) := hid (by rw [← hn, HM.out, Nat.div_div_eq_div_mul, Nat.pow_succ])
      have HT : Hid (T.hexD d :: tailH w k = tailH w (k + 1)) := hid (by rw [tailH_succ, ← HM.out, hd])
      have e1 : (m : Int) % 16 = (d : Int) := by omega
      have e2 : (m : Int) / 16 = (n : Int) := by omega
      have d1 : (d : Int) < 16 := by omega
      have x1 : (⟨#[48, 49, 50, 51, 52, 53, 54, 55, 56, 57, 97, 98, 99, 100, 101, 102]⟩ : ByteArray).extract d (d + 1) = ⟨#[T.hexD d]⟩ := dig_ext d (by omega)
      have x2 := bapp1 (T.hexD d) (tailH w k)
      have n1 : Hid ((n : Int) < 4294967296) := hid (by omega)
      have hz2 : (tailH w k).length ≤ 8 := by omega
      generalize tailH w k = t at *
      clear hd hn HM hz HR HW w1 hk
      go_wp2_with fail
      go_roundw
      case measure => simp [intOf]; omega
      case rel => exact ⟨k + 1, n, by omega, by go_num, rfl, by rw [← HT.out], n1.out, HN, trivial⟩
    · obtain rfl : k = 8 := by omega
      have x2 := bapp2 48 120 (tailH w 8)
      have hz2 : (tailH w 8).length ≤ 8 := by omega
      generalize tailH w 8 = t at *
      clear hk hk2 HM hz HW
      go_wp2_with fail
      go_ret
      exact ⟨ret_txt9 HR.out, rfl⟩
end Go.Proofs.YtncnogndopgknaaDoor
