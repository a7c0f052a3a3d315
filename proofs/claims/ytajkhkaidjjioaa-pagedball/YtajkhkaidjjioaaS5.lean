/- The document's Free 80. -/
import Derived.Test.YtajkhkaidjjioaaS1
namespace Go.Proofs.Ytajkhkaidjjioaa
open Go.RowKit
set_option maxHeartbeats 4000000
set_option maxRecDepth 100000
theorem rfree_any (W : World) (p : Rp) (d : DS) (h : RDB W p d) : Calls Try.prog 80 #[ptr p.g] W fun x W' => x = .returned (.int .i64 (d.free : Int)) ∧ W = W' := by
  have c1 := h.c1
  have HR := hid (fun k hk => (h.row k hk).1)
  have HN : Hid (d.m.ns ≤ 64) := hid h.ok.n64
  unfold DS.free
  generalize hF : (fun k => isF (d.at k)) = F
  have HF : Hid (∀ k, F k = ((d.at k).t == 0)) := hid (fun k => by rw [← hF]; rfl)
  clear h hF
  generalize d.m.ns = n at *
  simp only [ptr] at *
  go_enter Try.func80, Try.ntmps80
  go_wp2_with fail
  go_loopw [3, 4] (fun a i wr => ∃ j : Nat, j ≤ n ∧ i = .int .i64 (j : Int) ∧ a = .int .i64 ((cntN F j : Nat) : Int) ∧ wr = W) (fun _ i _ => n - (intOf i).toNat)
  case atStart => exact ⟨0, Nat.zero_le _, rfl, rfl, rfl⟩
  case round =>
    obtain ⟨j, hj, rfl, rfl, rfl⟩ := hrel
    by_cases hlt : j < n
    · have q1 : (j : Int) < (n : Int) := by omega
      have r0 := HR.out j hlt
      have hfj := HF.out j
      have HJ := hid hlt
      have hc := cntN_le F j
      have hn64 := HN.out
      have HS : Hid (cntN F (j + 1) = cntN F j + (if F j = true then 1 else 0)) := hid rfl
      generalize cntN F j = c at *
      have c64 : (c : Int) ≤ 64 := by omega
      have j64 : (j : Int) ≤ 64 := by omega
      generalize d.at j = D at *
      by_cases ht : D.t = 0
      · rw [ht] at r0 hfj
        rw [show F j = true from hfj, if_pos rfl] at HS
        clear hfj hc hn64 hlt hj ht
        go_wp2_with fail
        go_roundw
        case measure => have := HJ.out; simp [intOf] <;> omega
        case rel => exact ⟨j + 1, HJ.out, by simp, by rw [HS.out]; simp, trivial⟩
      · have ht' : (D.t == 0) = false := by simpa using ht
        rw [ht'] at hfj
        rw [hfj, if_neg (by decide), Nat.add_zero] at HS
        clear hfj hc hn64 hlt hj ht
        go_wp2_with fail
        go_roundw
        case measure => have := HJ.out; simp [intOf] <;> omega
        case rel => exact ⟨j + 1, HJ.out, by simp, by rw [HS.out]; rfl, trivial⟩
    · have hjn : j = n := by omega
      subst hjn
      go_wp2_with fail
      go_ret
      exact ⟨rfl, rfl⟩
end Go.Proofs.Ytajkhkaidjjioaa
