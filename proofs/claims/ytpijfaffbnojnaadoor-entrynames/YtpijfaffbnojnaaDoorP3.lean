/- EntryNames 3. -/
import Derived.Test.YtpijfaffbnojnaaDoorNm
namespace Go.Proofs.YtpijfaffbnojnaaDoor
open Go.RowKit
set_option maxHeartbeats 8000000
set_option maxRecDepth 100000
theorem ty_ne0 (b : Int) (hb : ¬ b = 0) : (([102, 114, 101, 101] : List UInt8) == (tyN b).toList) = false := by
  unfold tyN
  split
  · rename_i h
    have hh : b = 0 ∨ b = 1 ∨ b = 2 ∨ b = 3 ∨ b = 4 ∨ b = 5 ∨ b = 6 := by omega
    rcases hh with rfl | rfl | rfl | rfl | rfl | rfl | rfl
    all_goals first | (exact absurd rfl hb) | simp [tyS, tyT]
  · simp
theorem ty_ne1 (b : Int) (hb : ¬ b = 1) : (([115, 112, 97, 99, 101] : List UInt8) == (tyN b).toList) = false := by
  unfold tyN
  split
  · rename_i h
    have hh : b = 0 ∨ b = 1 ∨ b = 2 ∨ b = 3 ∨ b = 4 ∨ b = 5 ∨ b = 6 := by omega
    rcases hh with rfl | rfl | rfl | rfl | rfl | rfl | rfl
    all_goals first | (exact absurd rfl hb) | simp [tyS, tyT]
  · simp
theorem ty_ne2 (b : Int) (hb : ¬ b = 2) : (([116, 104, 114, 101, 97, 100] : List UInt8) == (tyN b).toList) = false := by
  unfold tyN
  split
  · rename_i h
    have hh : b = 0 ∨ b = 1 ∨ b = 2 ∨ b = 3 ∨ b = 4 ∨ b = 5 ∨ b = 6 := by omega
    rcases hh with rfl | rfl | rfl | rfl | rfl | rfl | rfl
    all_goals first | (exact absurd rfl hb) | simp [tyS, tyT]
  · simp
theorem ty_ne3 (b : Int) (hb : ¬ b = 3) : (([102, 105, 114, 115, 116] : List UInt8) == (tyN b).toList) = false := by
  unfold tyN
  split
  · rename_i h
    have hh : b = 0 ∨ b = 1 ∨ b = 2 ∨ b = 3 ∨ b = 4 ∨ b = 5 ∨ b = 6 := by omega
    rcases hh with rfl | rfl | rfl | rfl | rfl | rfl | rfl
    all_goals first | (exact absurd rfl hb) | simp [tyS, tyT]
  · simp
theorem ty_ne4 (b : Int) (hb : ¬ b = 4) : (([115, 101, 99, 111, 110, 100] : List UInt8) == (tyN b).toList) = false := by
  unfold tyN
  split
  · rename_i h
    have hh : b = 0 ∨ b = 1 ∨ b = 2 ∨ b = 3 ∨ b = 4 ∨ b = 5 ∨ b = 6 := by omega
    rcases hh with rfl | rfl | rfl | rfl | rfl | rfl | rfl
    all_goals first | (exact absurd rfl hb) | simp [tyS, tyT]
  · simp
theorem ty_ne5 (b : Int) (hb : ¬ b = 5) : (([100, 97, 116, 97] : List UInt8) == (tyN b).toList) = false := by
  unfold tyN
  split
  · rename_i h
    have hh : b = 0 ∨ b = 1 ∨ b = 2 ∨ b = 3 ∨ b = 4 ∨ b = 5 ∨ b = 6 := by omega
    rcases hh with rfl | rfl | rfl | rfl | rfl | rfl | rfl
    all_goals first | (exact absurd rfl hb) | simp [tyS, tyT]
  · simp
theorem ty_ne6 (b : Int) (hb : ¬ b = 6) : (([115, 112, 97, 114, 101] : List UInt8) == (tyN b).toList) = false := by
  unfold tyN
  split
  · rename_i h
    have hh : b = 0 ∨ b = 1 ∨ b = 2 ∨ b = 3 ∨ b = 4 ∨ b = 5 ∨ b = 6 := by omega
    rcases hh with rfl | rfl | rfl | rfl | rfl | rfl | rfl
    all_goals first | (exact absurd rfl hb) | simp [tyS, tyT]
  · simp
theorem st_ne0 (b : Int) (hb : ¬ b = 0) : (([110, 111, 110, 101] : List UInt8) == (stN b).toList) = false := by
  unfold stN
  split
  · rename_i h
    have hh : b = 0 ∨ b = 1 ∨ b = 2 ∨ b = 3 := by omega
    rcases hh with rfl | rfl | rfl | rfl
    all_goals first | (exact absurd rfl hb) | simp [stS, stT]
  · simp
theorem st_ne1 (b : Int) (hb : ¬ b = 1) : (([105, 110, 105, 116] : List UInt8) == (stN b).toList) = false := by
  unfold stN
  split
  · rename_i h
    have hh : b = 0 ∨ b = 1 ∨ b = 2 ∨ b = 3 := by omega
    rcases hh with rfl | rfl | rfl | rfl
    all_goals first | (exact absurd rfl hb) | simp [stS, stT]
  · simp
theorem st_ne2 (b : Int) (hb : ¬ b = 2) : (([102, 105, 110, 97, 108] : List UInt8) == (stN b).toList) = false := by
  unfold stN
  split
  · rename_i h
    have hh : b = 0 ∨ b = 1 ∨ b = 2 ∨ b = 3 := by omega
    rcases hh with rfl | rfl | rfl | rfl
    all_goals first | (exact absurd rfl hb) | simp [stS, stT]
  · simp
theorem st_ne3 (b : Int) (hb : ¬ b = 3) : (([115, 116, 111, 112, 112, 101, 100] : List UInt8) == (stN b).toList) = false := by
  unfold stN
  split
  · rename_i h
    have hh : b = 0 ∨ b = 1 ∨ b = 2 ∨ b = 3 := by omega
    rcases hh with rfl | rfl | rfl | rfl
    all_goals first | (exact absurd rfl hb) | simp [stS, stT]
  · simp
theorem names_any (W : World) (h : Nt W) (a b : Int) : Calls Tryd.prog 3 #[.int .i64 a, .int .i64 b] W fun e W' => e = .returned (.bool true) ∧ Below W.heap.size W W' := by
  have HT := hid (fun w (hb : Below W.heap.size W w) n => tyname_any w (h.on hb) n)
  have HS := hid (fun w (hb : Below W.heap.size W w) n => stname_any w (h.on hb) n)
  clear h
  go_enter Tryd.func3, Tryd.ntmps3
  go_upto_region 3 with (first | (go_at_call 5; refine (head_any _).mono ?_; rintro e w1 ⟨rfl, hb⟩; have HB := hid hb; clear hb) | (go_at_call 6; refine (HT.out _ HB.out _).mono ?_; rintro e w2 ⟨rfl, rfl⟩; rw [show tyN 6 = ⟨#[115, 112, 97, 114, 101]⟩ from rfl]) | (go_at_call 7; refine (HS.out _ HB.out _).mono ?_; rintro e w2 ⟨rfl, rfl⟩; rw [show stN 3 = ⟨#[115, 116, 111, 112, 112, 101, 100]⟩ from rfl]))
  go_upto_region 7 with (first | (go_at_call 6; refine (HT.out _ HB.out _).mono ?_; rintro e w2 ⟨rfl, rfl⟩) | (go_at_call 7; refine (HS.out _ HB.out _).mono ?_; rintro e w2 ⟨rfl, rfl⟩))
  clear HT HS
  by_cases h0 : a = 0
  · subst h0
    skip
    rw [show tyN 0 = ⟨#[102, 114, 101, 101]⟩ from rfl, show stN 0 = ⟨#[110, 111, 110, 101]⟩ from rfl]
    by_cases hb : b = 0
    · subst hb
      rw [show tyN 0 = ⟨#[102, 114, 101, 101]⟩ from rfl, show stN 0 = ⟨#[110, 111, 110, 101]⟩ from rfl]
      go_wp2_with fail
      go_ret
      exact ⟨rfl, HB.out⟩
    · have q1 := ty_ne0 b hb
      have q2 := st_ne0 b hb
      have hb2 : ((0 : Int) == b) = false := by simp; omega
      clear hb
      generalize tyN b = sb at *
      generalize stN b = ub at *
      go_wp2_with fail
      go_ret
      exact ⟨rfl, HB.out⟩
  by_cases h1 : a = 1
  · subst h1
    clear h0
    rw [show tyN 1 = ⟨#[115, 112, 97, 99, 101]⟩ from rfl, show stN 1 = ⟨#[105, 110, 105, 116]⟩ from rfl]
    by_cases hb : b = 1
    · subst hb
      rw [show tyN 1 = ⟨#[115, 112, 97, 99, 101]⟩ from rfl, show stN 1 = ⟨#[105, 110, 105, 116]⟩ from rfl]
      go_wp2_with fail
      go_ret
      exact ⟨rfl, HB.out⟩
    · have q1 := ty_ne1 b hb
      have q2 := st_ne1 b hb
      have hb2 : ((1 : Int) == b) = false := by simp; omega
      clear hb
      generalize tyN b = sb at *
      generalize stN b = ub at *
      go_wp2_with fail
      go_ret
      exact ⟨rfl, HB.out⟩
  by_cases h2 : a = 2
  · subst h2
    clear h0 h1
    rw [show tyN 2 = ⟨#[116, 104, 114, 101, 97, 100]⟩ from rfl, show stN 2 = ⟨#[102, 105, 110, 97, 108]⟩ from rfl]
    by_cases hb : b = 2
    · subst hb
      rw [show tyN 2 = ⟨#[116, 104, 114, 101, 97, 100]⟩ from rfl, show stN 2 = ⟨#[102, 105, 110, 97, 108]⟩ from rfl]
      go_wp2_with fail
      go_ret
      exact ⟨rfl, HB.out⟩
    · have q1 := ty_ne2 b hb
      have q2 := st_ne2 b hb
      have hb2 : ((2 : Int) == b) = false := by simp; omega
      clear hb
      generalize tyN b = sb at *
      generalize stN b = ub at *
      go_wp2_with fail
      go_ret
      exact ⟨rfl, HB.out⟩
  by_cases h3 : a = 3
  · subst h3
    clear h0 h1 h2
    rw [show tyN 3 = ⟨#[102, 105, 114, 115, 116]⟩ from rfl, show stN 3 = ⟨#[115, 116, 111, 112, 112, 101, 100]⟩ from rfl]
    by_cases hb : b = 3
    · subst hb
      rw [show tyN 3 = ⟨#[102, 105, 114, 115, 116]⟩ from rfl, show stN 3 = ⟨#[115, 116, 111, 112, 112, 101, 100]⟩ from rfl]
      go_wp2_with fail
      go_ret
      exact ⟨rfl, HB.out⟩
    · have q1 := ty_ne3 b hb
      have q2 := st_ne3 b hb
      have hb2 : ((3 : Int) == b) = false := by simp; omega
      clear hb
      generalize tyN b = sb at *
      generalize stN b = ub at *
      go_wp2_with fail
      go_ret
      exact ⟨rfl, HB.out⟩
  by_cases h4 : a = 4
  · subst h4
    clear h0 h1 h2 h3
    rw [show tyN 4 = ⟨#[115, 101, 99, 111, 110, 100]⟩ from rfl, show stN 4 = ⟨#[]⟩ from rfl]
    by_cases hb : b = 4
    · subst hb
      rw [show tyN 4 = ⟨#[115, 101, 99, 111, 110, 100]⟩ from rfl, show stN 4 = ⟨#[]⟩ from rfl]
      go_wp2_with fail
      go_ret
      exact ⟨rfl, HB.out⟩
    · have q1 := ty_ne4 b hb
      have hb2 : ((4 : Int) == b) = false := by simp; omega
      clear hb
      generalize tyN b = sb at *
      generalize stN b = ub at *
      go_wp2_with fail
      go_ret
      exact ⟨rfl, HB.out⟩
  by_cases h5 : a = 5
  · subst h5
    clear h0 h1 h2 h3 h4
    rw [show tyN 5 = ⟨#[100, 97, 116, 97]⟩ from rfl, show stN 5 = ⟨#[]⟩ from rfl]
    by_cases hb : b = 5
    · subst hb
      rw [show tyN 5 = ⟨#[100, 97, 116, 97]⟩ from rfl, show stN 5 = ⟨#[]⟩ from rfl]
      go_wp2_with fail
      go_ret
      exact ⟨rfl, HB.out⟩
    · have q1 := ty_ne5 b hb
      have hb2 : ((5 : Int) == b) = false := by simp; omega
      clear hb
      generalize tyN b = sb at *
      generalize stN b = ub at *
      go_wp2_with fail
      go_ret
      exact ⟨rfl, HB.out⟩
  by_cases h6 : a = 6
  · subst h6
    clear h0 h1 h2 h3 h4 h5
    rw [show tyN 6 = ⟨#[115, 112, 97, 114, 101]⟩ from rfl, show stN 6 = ⟨#[]⟩ from rfl]
    by_cases hb : b = 6
    · subst hb
      rw [show tyN 6 = ⟨#[115, 112, 97, 114, 101]⟩ from rfl, show stN 6 = ⟨#[]⟩ from rfl]
      go_wp2_with fail
      go_ret
      exact ⟨rfl, HB.out⟩
    · have q1 := ty_ne6 b hb
      have hb2 : ((6 : Int) == b) = false := by simp; omega
      clear hb
      generalize tyN b = sb at *
      generalize stN b = ub at *
      go_wp2_with fail
      go_ret
      exact ⟨rfl, HB.out⟩
  rw [show tyN a = ⟨#[]⟩ by unfold tyN; rw [if_neg (by omega)], show stN a = ⟨#[]⟩ by unfold stN; rw [if_neg (by omega)]]
  by_cases h8 : 0 ≤ a
  · have h9 : 6 < a := by omega
    clear h0 h1 h2 h3 h4 h5 h6
    go_wp2_with fail
    go_ret
    exact ⟨rfl, HB.out⟩
  · clear h0 h1 h2 h3 h4 h5 h6
    go_wp2_with fail
    go_ret
    exact ⟨rfl, HB.out⟩
end Go.Proofs.YtpijfaffbnojnaaDoor
