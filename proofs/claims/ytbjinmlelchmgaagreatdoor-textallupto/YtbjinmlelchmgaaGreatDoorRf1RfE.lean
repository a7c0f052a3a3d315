/- The document's leaves: plain (74), parts (51), worth (60). Rows of texts in a world; the document's cell (79), width (58). -/
import Derived.Test.YtbjinmlelchmgaaGreatDoorLeafEsc
import Derived.Test.YtbjinmlelchmgaaGreatDoorTxtBase
import Derived.Test.YtbjinmlelchmgaaGreatDoorCol0ZBnd
import Derived.Test.YtbjinmlelchmgaaGreatDoorColR
namespace Go.Proofs.YtbjinmlelchmgaaGreatDoor
open Go.RowKit

theorem rplain_any (c : UInt8) (w : World) : Calls Tryz.prog 74 #[.int .u8 (c.toNat : Int)] w fun e w' => e = .returned (.bool (T.itself c)) ∧ w = w' := by
  have hc := c.toNat_lt
  go_enter Tryz.func74, Tryz.ntmps74
  go_wp2
  all_goals go_ret
  all_goals exact ⟨ret_bool (by rw [Bool.eq_iff_iff]; simp [T.itself]; omega), rfl⟩
theorem rparts_any (c : UInt8) (w : World) : Calls Tryz.prog 51 #[.int .u8 (c.toNat : Int)] w fun e w' => e = .returned (.bool (T.isGap c)) ∧ w = w' := by
  have hc := c.toNat_lt
  go_enter Tryz.func51, Tryz.ntmps51
  go_wp2
  all_goals go_ret
  all_goals exact ⟨ret_bool (by rw [Bool.eq_iff_iff]; simp [T.isGap]; omega), rfl⟩
def wth (c : UInt8) : Int := match T.hexV c with
  | some d => (d : Int)
  | none => -1
theorem wth_at (c : UInt8) (k : Nat) (hk : k < 16) (h : T.hexD k = c) : wth c = (k : Int) := by
  unfold wth; rw [← h, T.hexD_inv k hk]
theorem wth_no (c : UInt8) (h : ∀ k < 16, T.hexD k ≠ c) : wth c = -1 := by
  unfold wth
  cases hv : T.hexV c with
  | none => rfl
  | some d => exact absurd (T.hexV_lt hv).2 (h d (T.hexV_lt hv).1)
def dig16 : ByteArray := ⟨#[48, 49, 50, 51, 52, 53, 54, 55, 56, 57, 97, 98, 99, 100, 101, 102]⟩
theorem dig16_get : ∀ k (h : k < dig16.size), dig16[k] = T.hexD k := by decide +kernel
theorem worth_any (c : UInt8) (w : World) : Calls Tryz.prog 60 #[.int .u8 (c.toNat : Int)] w fun e w' => e = .returned (.int .i64 (wth c)) ∧ w = w' := by
  have hc := c.toNat_lt
  go_enter Tryz.func60, Tryz.ntmps60
  go_wp2_with fail
  go_loopw [3] (fun i wr => ∃ k : Nat, k ≤ 16 ∧ i = .int .i64 k ∧ Hid (∀ j < k, T.hexD j ≠ c) ∧ w = wr) (fun i _ => 16 - (intOf i).toNat)
  case atStart => exact ⟨0, Nat.zero_le _, rfl, fun j hj => by omega, rfl⟩
  case round =>
    obtain ⟨k, hk, rfl, HN, rfl⟩ := hrel
    by_cases hk2 : k < 16
    · have c1 : (k : Int) < 16 := by omega
      have hz : k < (⟨#[48, 49, 50, 51, 52, 53, 54, 55, 56, 57, 97, 98, 99, 100, 101, 102]⟩ : ByteArray).size := hk2
      have he : (⟨#[48, 49, 50, 51, 52, 53, 54, 55, 56, 57, 97, 98, 99, 100, 101, 102]⟩ : ByteArray)[k].toNat = (T.hexD k).toNat := congrArg UInt8.toNat (dig16_get k hz)
      by_cases hd : T.hexD k = c
      · have HF : Hid ((k : Int) = wth c) := (wth_at c k hk2 hd).symm
        rw [hd] at he
        clear hd HN
        go_wp2_with fail
        go_ret
        exact ⟨ret_int HF.out, rfl⟩
      · have q : (((T.hexD k).toNat : Int) == (c.toNat : Int)) = false := by
          have : (T.hexD k).toNat ≠ c.toNat := fun e => hd (UInt8.toNat_inj.1 e)
          simp; omega
        have HN2 : Hid (∀ j < k + 1, T.hexD j ≠ c) := fun j hj => by
          rcases Nat.lt_or_ge j k with h | h
          · exact HN.out j h
          · obtain rfl : j = k := by omega
            exact hd
        clear hd HN
        go_wp2_with fail
        go_roundw
        case measure => simp [intOf]; omega
        case rel => exact ⟨k + 1, by omega, by go_num, HN2, trivial⟩
    · obtain rfl : k = 16 := by omega
      have HF : Hid ((-1 : Int) = wth c) := (wth_no c (fun j hj => HN.out j hj)).symm
      clear hk hk2 HN
      go_wp2_with fail
      go_ret
      exact ⟨ret_int HF.out, rfl⟩
end Go.Proofs.YtbjinmlelchmgaaGreatDoor
namespace Go.Proofs.YtbjinmlelchmgaaGreatDoor
open Go.RowKit
/-- Texts that stand one behind the other. -/
def StrsAt (w : World) (ao : Option Addr) (l : List (List UInt8)) : Prop := l = [] ∨ ∃ b o, ao = some ⟨b, o, none⟩ ∧ b < w.heap.size ∧ ∀ i (h : i < l.length), w.cell? ⟨b, o + i, none⟩ = some (.string ⟨l[i].toArray⟩)
def RowsAt (w : World) (ao : Option Addr) (l : List (List (List UInt8))) : Prop := l = [] ∨ ∃ b o, ao = some ⟨b, o, none⟩ ∧ b < w.heap.size ∧ ∀ i (h : i < l.length), ∃ ai ci, w.cell? ⟨b, o + i, none⟩ = some (.slice ai l[i].length ci) ∧ StrsAt w ai l[i]
theorem StrsAt.on {W w : World} {ao : Option Addr} {l : List (List UInt8)} (h : StrsAt W ao l) (hb : Below W.heap.size W w) : StrsAt w ao l := by
  rcases h with h0 | ⟨b, o, e, hlt, hc⟩
  · exact .inl h0
  · exact .inr ⟨b, o, e, Nat.lt_of_lt_of_le hlt hb.size, fun i hi => by rw [hb.cell (p := ⟨b, o + i, none⟩) hlt]; exact hc i hi⟩
theorem RowsAt.on {W w : World} {ao : Option Addr} {l : List (List (List UInt8))} (h : RowsAt W ao l) (hb : Below W.heap.size W w) : RowsAt w ao l := by
  rcases h with h0 | ⟨b, o, e, hlt, hc⟩
  · exact .inl h0
  · refine .inr ⟨b, o, e, Nat.lt_of_lt_of_le hlt hb.size, fun i hi => ?_⟩
    obtain ⟨ai, ci, h1, h2⟩ := hc i hi
    exact ⟨ai, ci, by rw [hb.cell (p := ⟨b, o + i, none⟩) hlt]; exact h1, h2.on hb⟩
theorem arr_size (l : List UInt8) : (⟨l.toArray⟩ : ByteArray).size = l.length := by simp [ByteArray.size]

set_option maxRecDepth 20000 in
theorem rcell_any (W : World) (ao : Option Addr) (n c : Nat) (row : List (List UInt8)) (j : Nat) (hl : row.length = n) (hj : j ≤ 1000000000) (hat : StrsAt W ao row) :
    Calls Tryz.prog 79 #[.slice ao n c, .int .i64 j] W fun e w' => e = .returned (.string ⟨(row.getD j []).toArray⟩) ∧ w' = W := by
  by_cases hlt : j < n
  · have c1 : (j : Int) < (n : Int) := by omega
    rcases hat with h0 | ⟨b, o, rfl, hb, hc⟩
    · rw [h0] at hl; simp at hl; omega
    · have hcj := hc j (by omega)
      rw [List.getD_eq_getElem?_getD, List.getElem?_eq_getElem (by omega), Option.getD_some]
      generalize row[j] = x at *
      clear hc hl
      go_enter Tryz.func79, Tryz.ntmps79
      go_wp2_with fail
      go_ret
      exact ⟨rfl, rfl⟩
  · have c1 : ¬ ((j : Int) < (n : Int)) := by omega
    rw [List.getD_eq_getElem?_getD, List.getElem?_eq_none (by omega), Option.getD_none]
    clear hl hat
    go_enter Tryz.func79, Tryz.ntmps79
    go_wp2_with fail
    go_ret
    exact ⟨rfl, rfl⟩
set_option maxRecDepth 20000 in
set_option maxHeartbeats 1000000 in
theorem rwidth_any (W : World) (ao : Option Addr) (n c : Nat) (rows : List (List (List UInt8))) (j : Nat) (hl : rows.length = n) (hn : n ≤ 1000000000) (hj : j ≤ 1000000000) (hr : ∀ r ∈ rows, r.length ≤ 1000000000 ∧ ∀ x ∈ r, x.length ≤ 1000000000) (hat : RowsAt W ao rows) :
    Calls Tryz.prog 58 #[.slice ao n c, .int .i64 j] W fun e w' => e = .returned (.int .i64 (T.widthR j rows : Nat)) ∧ w' = W := by
  have b1 : (n : Int) ≤ 1000000000 := by omega
  have HA : Hid (RowsAt W ao rows) := hat
  have HR : Hid (∀ r ∈ rows, r.length ≤ 1000000000 ∧ ∀ x ∈ r, x.length ≤ 1000000000) := hr
  clear hat hr
  go_enter Tryz.func58, Tryz.ntmps58
  go_wp2_with fail
  go_loopw [5, 6, 7] (fun w i _ wr => wr = W ∧ ∃ k : Nat, k ≤ n ∧ i = .int .i64 k ∧ w = .int .i64 (T.widthR j (rows.take k) : Nat)) (fun _ i _ _ => n - (intOf i).toNat)
  case atStart => exact ⟨rfl, 0, Nat.zero_le _, rfl, rfl⟩
  case round =>
    obtain ⟨rfl, k, hk, rfl, rfl⟩ := hrel
    by_cases hlt : k < n
    · have c1 : (k : Int) < (n : Int) := by omega
      rcases HA.out with h0 | ⟨b, off, rfl, hb, hc⟩
      · rw [h0] at hl; simp at hl; omega
      · obtain ⟨ai, ci, hck, hs⟩ := hc k (by omega)
        obtain ⟨hm, hx⟩ := HR.out rows[k] (List.getElem_mem _)
        have HX : Hid (T.widthR j (rows.take (k + 1)) = max (T.widthR j (rows.take k)) (rows[k].getD j []).length) := hid (by rw [List.take_succ_eq_append_getElem (by omega), T.widthR_snoc])
        have HS : Hid (StrsAt wr ai rows[k]) := hs
        clear hs hx hc
        generalize rows[k] = row at *
        generalize T.widthR j (rows.take k) = ws at *
        obtain ⟨m, hml⟩ : ∃ m, row.length = m := ⟨_, rfl⟩
        rw [hml] at hck hm
        have HM : Hid (row.length = m) := hml
        have hsz := arr_size (row.getD j [])
        generalize hg : row.getD j [] = x at *
        have HG : Hid (row.getD j [] = x) := hg
        clear hml hm hg
        by_cases hw : ws < x.length
        · have c2 : (ws : Int) < (x.length : Int) := by omega
          go_wp2_with (first | (go_at_call 79; refine (rcell_any wr ai m ci row j HM.out hj HS.out).mono ?_; rintro e w' ⟨rfl, rfl⟩; rw [HG.out]))
          go_roundw
          case measure => simp [intOf]; omega
          case rel => exact ⟨trivial, k + 1, by omega, by go_num, by rw [HX.out, Nat.max_eq_right (by omega)]⟩
        · have c2 : (x.length : Int) ≤ (ws : Int) := by omega
          go_wp2_with (first | (go_at_call 79; refine (rcell_any wr ai m ci row j HM.out hj HS.out).mono ?_; rintro e w' ⟨rfl, rfl⟩; rw [HG.out]))
          go_roundw
          case measure => simp [intOf]; omega
          case rel => exact ⟨trivial, k + 1, by omega, by go_num, by rw [HX.out, Nat.max_eq_left (by omega)]⟩
    · obtain rfl : k = n := by omega
      rw [List.take_of_length_le (by omega)]
      clear hl
      go_wp2_with fail
      go_ret
      exact ⟨rfl, rfl⟩
end Go.Proofs.YtbjinmlelchmgaaGreatDoor
