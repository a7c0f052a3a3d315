/- The statements' own plain (7). -/
import Derived.Test.YtbjinmlelchmgaaDoorRen
import Derived.Test.YtbjinmlelchmgaaDoorQuo
namespace Go.Proofs.YtbjinmlelchmgaaDoor
open Go.RowKit

theorem all_split (l : List UInt8) (f : UInt8 → Bool) (k : Nat) (h : k < l.length) (hf : f l[k] = false) : l.all f = false := by
  cases ha : l.all f with
  | false => rfl
  | true =>
    have := List.all_eq_true.1 ha l[k] (List.getElem_mem h)
    rw [hf] at this
    cases this
theorem all_take (l : List UInt8) (f : UInt8 → Bool) (k : Nat) (h : k < l.length) : (l.take (k + 1)).all f = ((l.take k).all f && f l[k]) := by
  rw [List.take_succ_eq_append_getElem h, List.all_append]
  simp

set_option maxHeartbeats 1000000 in
theorem plain_any (W : World) (ao : Option Addr) (n c : Nat) (l : List UInt8) (hl : l.length = n) (hn : n ≤ 100000000) (hat : AtB W ao l) :
    Calls Tryd.prog 7 #[.slice ao n c] W fun e W' => e = .returned (.bool (T.plainW l)) ∧ W = W' := by
  generalize hr0 : T.plainW l = r0
  have b1 : (n : Int) ≤ 100000000 := by omega
  by_cases h0 : n = 0
  · have hl0 : l = [] := List.eq_nil_of_length_eq_zero (by omega)
    have HR : Hid (false = r0) := hid (by rw [← hr0, hl0]; rfl)
    have e0 : ((n : Int) == 0) = true := by rw [h0]; rfl
    clear hr0 hat
    go_enter Tryd.func7, Tryd.ntmps7
    go_wp2_with fail
    go_ret
    exact ⟨ret_bool HR.out, rfl⟩
  · rcases hat with h | ⟨b, off, rfl, hb, hc⟩
    · rw [h] at hl; simp at hl; omega
    · have e0 : ((n : Int) == 0) = false := by simp; omega
      have b2 : (0 : Int) < (n : Int) := by omega
      have hc0 := hc 0 (by omega)
      rw [Nat.add_zero] at hc0
      have hhd : T.plainW l = (!(l[0].toNat == 34) && !(l[0].toNat == 35) && l.all fun c => !T.isGap c) := by
        cases l with
        | nil => simp at hl; omega
        | cons x l => rfl
      rw [hhd] at hr0
      clear hhd
      have HC : Hid (∀ i (h : i < l.length), W.cell? ⟨b, off + i, none⟩ = some (.int .u8 (l[i].toNat : Int))) := hc
      clear hc
      by_cases h34 : l[0].toNat = 34
      · have e1 : ((l[0].toNat : Int) == 34) = true := by rw [h34]; rfl
        have HR : Hid (false = r0) := hid (by rw [← hr0]; simp [h34])
        clear hr0 h34
        go_enter Tryd.func7, Tryd.ntmps7
        go_wp2_with fail
        go_ret
        exact ⟨ret_bool HR.out, rfl⟩
      · have e1 : ((l[0].toNat : Int) == 34) = false := by simp; omega
        by_cases h35 : l[0].toNat = 35
        · have e2 : ((l[0].toNat : Int) == 35) = true := by rw [h35]; rfl
          have HR : Hid (false = r0) := hid (by rw [← hr0]; simp [h35])
          clear hr0 h34 h35
          go_enter Tryd.func7, Tryd.ntmps7
          go_wp2_with fail
          go_ret
          exact ⟨ret_bool HR.out, rfl⟩
        · have e2 : ((l[0].toNat : Int) == 35) = false := by simp; omega
          have HR : Hid ((l.all fun c => !T.isGap c) = r0) := hid (by rw [← hr0]; simp [h34, h35])
          clear hr0 h34 h35
          go_enter Tryd.func7, Tryd.ntmps7
          go_wp2_with fail
          clear hc0 e1 e2
          go_loopw [3] (fun i wr => ∃ k : Nat, k ≤ n ∧ i = .int .i64 k ∧ Hid ((l.take k).all (fun c => !T.isGap c) = true) ∧ W = wr) (fun i _ => n - (intOf i).toNat)
          case atStart => exact ⟨0, Nat.zero_le _, rfl, hid (by simp), rfl⟩
          case round =>
            obtain ⟨k, hk, rfl, R, rfl⟩ := hrel
            by_cases hlt : k < n
            · have c1 : (k : Int) < (n : Int) := by omega
              have hck := HC.out k (by omega)
              have HA : Hid ((l.take (k + 1)).all (fun c => !T.isGap c) = !T.isGap l[k]) := hid (by rw [all_take l _ k (by omega), R.out]; simp)
              have HF : Hid (T.isGap l[k] = true → false = r0) := hid (fun h => by rw [← HR.out, all_split l _ k (by omega) (by simp [h])])
              clear R HR HC
              generalize l[k] = x at *
              by_cases h32 : x.toNat = 32
              · have e3 : ((x.toNat : Int) == 32) = true := by rw [h32]; rfl
                have HG : Hid (T.isGap x = true) := hid (by simp [T.isGap, h32])
                clear h32
                go_wp2_with fail
                go_ret
                exact ⟨ret_bool (HF.out HG.out), rfl⟩
              · have e3 : ((x.toNat : Int) == 32) = false := by simp; omega
                by_cases h9 : x.toNat = 9
                · have e4 : ((x.toNat : Int) == 9) = true := by rw [h9]; rfl
                  have HG : Hid (T.isGap x = true) := hid (by simp [T.isGap, h9])
                  clear h32 h9
                  go_wp2_with fail
                  go_ret
                  exact ⟨ret_bool (HF.out HG.out), rfl⟩
                · have e4 : ((x.toNat : Int) == 9) = false := by simp; omega
                  have HG : Hid (T.isGap x = false) := hid (by simp [T.isGap, h32, h9])
                  clear h32 h9
                  go_wp2_with fail
                  exact ⟨⟨k + 1, by omega, by go_num, hid (by rw [HA.out, HG.out]; rfl), trivial⟩, by simp [intOf]; omega⟩
            · obtain rfl : k = n := by omega
              have HF : Hid (true = r0) := hid (by rw [← HR.out, ← R.out, List.take_of_length_le (by omega)])
              clear R HR HC
              go_wp2_with fail
              go_ret
              exact ⟨ret_bool HF.out, rfl⟩
end Go.Proofs.YtbjinmlelchmgaaDoor
