import Derived.Test.YtbpdmkohihgnjaaDoorP31
import Derived.Test.YtbpdmkohihgnjaaDoorP23
import Derived.Test.YtbpdmkohihgnjaaDoorP05
namespace Go.Proofs.YtbpdmkohihgnjaaDoor.L
open Go.RowKit
def AtB (W : World) (ao : Option Addr) (l : List UInt8) : Prop := l = [] ∨ ∃ b off, ao = some ⟨b, off, none⟩ ∧ b < W.heap.size ∧ ∀ i (h : i < l.length), W.cell? ⟨b, off + i, none⟩ = some (.int .u8 (l[i].toNat : Int))
theorem hexD_at (n : Nat) (h : n < 16) (hp : n < (⟨#[48, 49, 50, 51, 52, 53, 54, 55, 56, 57, 97, 98, 99, 100, 101, 102]⟩ : ByteArray).size) : ((⟨#[48, 49, 50, 51, 52, 53, 54, 55, 56, 57, 97, 98, 99, 100, 101, 102]⟩ : ByteArray)[n]'hp) = T.hexD n := by
  revert n
  decide +kernel

theorem HB.drew {W wr : World} {v : Value} {l : List UInt8} (h : HB W wr v l) : HB W wr.drew v l := ⟨h.own, h.below.drew⟩
theorem HB.conv {W w : World} {v : Value} {l : List UInt8} (h : HB W w v l) : ∃ ao cap, v = .slice ao l.length cap ∧ (convert 30 9 (.slice ao l.length cap)).run Tryd.prog w = .ok (.string ⟨l.toArray⟩) w := by
  rcases h.own.2 with ⟨hv, h0⟩ | ⟨g, cap, cur, hv, _⟩
  · have hl : l = [] := List.eq_nil_of_length_eq_zero h0
    refine ⟨none, 0, by rw [hv, h0], ?_⟩
    rw [hl, List.length_nil, run_convert_bytes_string (P := Tryd.prog) w 30 9 5 none 0 0 Tryd.underlying30 Tryd.underlying5 Tryd.underlying9]
    rfl
  · exact ⟨some ⟨g, 0, none⟩, cap, hv, run_convert_bytes_back (P := Tryd.prog) w 30 9 5 ⟨g, 0, none⟩ cap l Tryd.underlying30 Tryd.underlying5 Tryd.underlying9 (fun j hj => h.own.cells (g := g) (by rw [hv]; rfl) j _ (by simp [Lib.byteCells, hj]))⟩
end Go.Proofs.YtbpdmkohihgnjaaDoor.L
namespace Go.Proofs
open Go.RowKit
theorem Tryd.stringslite_Clone (s : ByteArray) (w : World) (hlim : s.size ≤ 281474976710656) :
    Calls Tryd.prog 70 #[.string s] w fun e w' => e = .returned (.string s) ∧ Below w.heap.size w w' := YtbpdmkohihgnjaaDoor.clone70 s w hlim
end Go.Proofs
namespace Go.Proofs.YtbpdmkohihgnjaaDoor.L
open Go.RowKit

theorem parted_at (s : ByteArray) (k : Nat) (h : k < s.size) : T.parted (s.data.toList.drop k) = T.isGap s[k] := by rw [drop_get s k h]; rfl
theorem parted_end (s : ByteArray) (k : Nat) (h : s.size ≤ k) : T.parted (s.data.toList.drop k) = true := by rw [List.drop_eq_nil_of_le (by rw [size_list]; exact h)]; rfl

def QwPost (W : World) (k : Nat) (l : List UInt8) (e : Ending) (W' : World) : Prop :=
  Below W.heap.size W W' ∧ match T.unq (l.drop (k + 1)) with
  | .inl x => e = brk (k + 1 + x)
  | .inr (b, n) => e = if T.parted (l.drop (k + 1 + n)) then .returned (.tuple #[.string ⟨b.toArray⟩, .int .i64 ((k + 1 + n : Nat) : Int)]) else brk (k + 1 + n)

set_option maxHeartbeats 1000000 in
theorem quotedWord_any (W : World) (s : ByteArray) (k : Nat) (hs : s.size ≤ 1000000000) (hk : k < s.size) :
    Calls Tryd.prog 128 #[.string s, .int .i64 (k : Int)] W fun e W' => QwPost W k s.data.toList e W' := by
  have HU := unquoted_any W s k hs hk
  have hle := T.unq_le (s.data.toList.drop (k + 1))
  rw [List.length_drop, size_list] at hle
  have b2 : (s.size : Int) ≤ 1000000000 := by omega
  have HP : Hid (∀ e W', QwPost W k s.data.toList e W' = (Below W.heap.size W W' ∧ match T.unq (s.data.toList.drop (k + 1)) with
    | .inl x => e = brk (k + 1 + x)
    | .inr (b, n) => e = if T.parted (s.data.toList.drop (k + 1 + n)) then .returned (.tuple #[.string ⟨b.toArray⟩, .int .i64 ((k + 1 + n : Nat) : Int)]) else brk (k + 1 + n))) := fun _ _ => rfl
  cases hq : T.unq (s.data.toList.drop (k + 1)) with
  | inl x =>
    rw [hq] at HU hle
    have HP2 : Hid (∀ W', Below W.heap.size W W' → QwPost W k s.data.toList (brk (k + 1 + x)) W') := hid (fun W' h => by rw [HP.out, hq]; exact ⟨h, rfl⟩)
    clear HP hq
    have HU2 : Hid (Calls Tryd.prog 137 #[.string s, .int .i64 (k : Int)] W fun e W' => e = .panicked [{ v := .iface 214 (.int .i64 ((k + 1 + x : Nat) : Int)), recovered := false }] ∧ Below W.heap.size W W') := HU
    clear HU
    go_enter Tryd.func128, Tryd.ntmps128
    go_wp2_with fail
    refine HU2.out.mono ?_
    rintro e w1 ⟨rfl, hb⟩
    go_wp2_with fail
    exact ⟨rfl, HP2.out _ hb⟩
  | inr y =>
    obtain ⟨b, n⟩ := y
    rw [hq] at HU hle
    obtain ⟨hle1, hle2⟩ := hle
    have HU2 : Hid (Calls Tryd.prog 137 #[.string s, .int .i64 (k : Int)] W fun e W' => ∃ v, e = .returned (.tuple #[v, .int .i64 ((k + 1 + n : Nat) : Int)]) ∧ HB W W' v b) := HU
    clear HU
    have HP2 : Hid (∀ e W', Below W.heap.size W W' → (e = if T.parted (s.data.toList.drop (k + 1 + n)) then .returned (.tuple #[.string ⟨b.toArray⟩, .int .i64 ((k + 1 + n : Nat) : Int)]) else brk (k + 1 + n)) → QwPost W k s.data.toList e W') := hid (fun e W' h h2 => by rw [HP.out, hq]; exact ⟨h, h2⟩)
    clear HP hq
    generalize hm : k + 1 + n = m at *
    have hm1 : m ≤ s.size := by omega
    have c1 : (m : Int) ≤ (s.size : Int) := by omega
    clear hm hle1 hle2
    by_cases hlt : m < s.size
    · have c2 : (m : Int) < (s.size : Int) := by omega
      have HG := gap_any s[m]
      have hpt := parted_at s m hlt
      cases hg : T.isGap s[m] with
      | true =>
        rw [hg] at HG hpt
        have HF : Hid (∀ W', Below W.heap.size W W' → QwPost W k s.data.toList (.returned (.tuple #[.string ⟨b.toArray⟩, .int .i64 (m : Int)])) W') := hid (fun W' h => HP2.out _ W' h (by rw [hpt]; rfl))
        clear HP2 hpt hg
        go_enter Tryd.func128, Tryd.ntmps128
        go_wp2_with fail
        refine HU2.out.mono ?_
        rintro e w1 ⟨v, rfl, F⟩
        obtain ⟨ao, cc, rfl, hcv⟩ := F.conv
        go_wp2_with fail
        refine (HG _).mono ?_
        rintro e w' ⟨rfl, rfl⟩
        go_wp2_with fail
        go_ret2
        exact HF.out _ F.below
      | false =>
        rw [hg] at HG hpt
        have HF : Hid (∀ W', Below W.heap.size W W' → QwPost W k s.data.toList (.panicked [{ v := .iface 214 (.int .i64 (m : Int)), recovered := false }]) W') := hid (fun W' h => HP2.out _ W' h (by rw [hpt]; rfl))
        clear HP2 hpt hg
        go_enter Tryd.func128, Tryd.ntmps128
        go_wp2_with fail
        refine HU2.out.mono ?_
        rintro e w1 ⟨v, rfl, F⟩
        go_wp2_with fail
        refine (HG _).mono ?_
        rintro e w' ⟨rfl, rfl⟩
        go_wp2_with fail
        exact ⟨rfl, HF.out _ F.below⟩
    · have c2 : (s.size : Int) ≤ (m : Int) := by omega
      have hpt := parted_end s m (by omega)
      have HF : Hid (∀ W', Below W.heap.size W W' → QwPost W k s.data.toList (.returned (.tuple #[.string ⟨b.toArray⟩, .int .i64 (m : Int)])) W') := hid (fun W' h => HP2.out _ W' h (by rw [hpt]; rfl))
      clear HP2 hpt
      go_enter Tryd.func128, Tryd.ntmps128
      go_wp2_with fail
      refine HU2.out.mono ?_
      rintro e w1 ⟨v, rfl, F⟩
      obtain ⟨ao, cc, rfl, hcv⟩ := F.conv
      go_wp2_with fail
      go_ret2
      exact HF.out _ F.below

theorem extract_eq (s : ByteArray) (k p : Nat) : s.extract k p = ⟨((s.data.toList.drop k).take (p - k)).toArray⟩ := by
  have : (s.extract k p).data = ((s.data.toList.drop k).take (p - k)).toArray := by
    rw [ByteArray.data_extract]
    apply Array.toList_inj.1
    simp
  cases h : s.extract k p with
  | mk d => rw [h] at this; simp at this; rw [this]
theorem clone_any (w : World) (s : ByteArray) (hs : s.size ≤ 1000000000) : Calls Tryd.prog 42 #[.string s] w fun e w' => e = .returned (.string s) ∧ Below w.heap.size w w' := by
  have H : Hid (Calls Tryd.prog 70 #[.string s] w fun e w' => e = .returned (.string s) ∧ Below w.heap.size w w') := Tryd.stringslite_Clone s w (by omega)
  go_enter Tryd.func42, Tryd.ntmps42
  go_wp2_with (first | (go_at_call 70; refine H.out.mono ?_; rintro e w' ⟨rfl, hb⟩))
  go_ret
  exact ⟨rfl, hb⟩
theorem ret_pw {a b : ByteArray} {m n : Int} (h1 : a = b) (h2 : m = n) : Ending.returned (.tuple #[.string a, .int .i64 m]) = .returned (.tuple #[.string b, .int .i64 n]) := by rw [h1, h2]
set_option maxHeartbeats 1000000 in
theorem plainWord_any (W : World) (s : ByteArray) (k : Nat) (hs : s.size ≤ 1000000000) (hk : k < s.size) :
    Calls Tryd.prog 129 #[.string s, .int .i64 (k : Int)] W fun e W' => e = .returned (.tuple #[.string ⟨((s.data.toList.drop k).take (T.plainN (s.data.toList.drop k))).toArray⟩, .int .i64 ((k + T.plainN (s.data.toList.drop k) : Nat) : Int)]) ∧ Below W.heap.size W W' := by
  have b1 : (k : Int) < (s.size : Int) := by omega
  have b2 : (s.size : Int) ≤ 1000000000 := by omega
  have hex : ∀ p, (s.extract k p).size ≤ 1000000000 := fun p => by rw [extract_eq]; show (List.toArray _).size ≤ _; simp; have : s.data.size = s.size := rfl; omega
  go_enter Tryd.func129, Tryd.ntmps129
  go_wp2_with fail
  go_loopw [5] (fun i wr => ∃ p : Nat, k ≤ p ∧ p ≤ s.size ∧ i = .int .i64 p ∧ Hid (T.plainN (s.data.toList.drop k) = p - k + T.plainN (s.data.toList.drop p)) ∧ W = wr) (fun i _ => s.size - (intOf i).toNat)
  case atStart => exact ⟨k, Nat.le_refl _, by omega, rfl, hid (by omega), rfl⟩
  case round =>
    obtain ⟨p, hp1, hp2, rfl, R, rfl⟩ := hrel
    have c1 : (p : Int) ≤ (s.size : Int) := by omega
    have c2 : (k : Int) ≤ (p : Int) := by omega
    by_cases hlt : p < s.size
    · have c3 : (p : Int) < (s.size : Int) := by omega
      have HG := gap_any s[p]
      cases hg : T.isGap s[p] with
      | true =>
        have HF : Hid (T.plainN (s.data.toList.drop k) = p - k) := hid (by
          rw [R.out, drop_get s p hlt]
          simp [T.plainN, hg])
        rw [hg] at HG
        clear R hg
        go_wp2_with fail
        refine (HG _).mono ?_
        rintro e w' ⟨rfl, rfl⟩
        go_wp2_with fail
        refine (clone_any _ _ (hex p)).mono ?_
        rintro e w1 ⟨rfl, hb⟩
        go_wp2_with fail
        go_ret2
        exact ⟨ret_pw (by rw [extract_eq, HF.out]) (by rw [HF.out]; omega), hb⟩
      | false =>
        have HF : Hid (T.plainN (s.data.toList.drop k) = p + 1 - k + T.plainN (s.data.toList.drop (p + 1))) := hid (by
          rw [R.out, drop_get s p hlt, T.plainN_pos _ hg]
          omega)
        rw [hg] at HG
        clear R hg
        go_wp2_with fail
        refine (HG _).mono ?_
        rintro e w' ⟨rfl, rfl⟩
        go_wp2_with fail
        go_roundw
        case rel => exact ⟨p + 1, by omega, by omega, by go_num, HF, trivial⟩
        case measure => simp [intOf]; omega
    · obtain rfl : p = s.size := by omega
      have HF : Hid (T.plainN (s.data.toList.drop k) = s.size - k) := hid (by
        rw [R.out, List.drop_eq_nil_of_le (by rw [size_list]; exact Nat.le_refl _)]
        simp [T.plainN])
      clear R
      go_wp2_with fail
      refine (clone_any _ _ (hex _)).mono ?_
      rintro e w1 ⟨rfl, hb⟩
      go_wp2_with fail
      go_ret2
      exact ⟨ret_pw (by rw [extract_eq, HF.out]) (by rw [HF.out]; omega), hb⟩
end Go.Proofs.YtbpdmkohihgnjaaDoor.L
