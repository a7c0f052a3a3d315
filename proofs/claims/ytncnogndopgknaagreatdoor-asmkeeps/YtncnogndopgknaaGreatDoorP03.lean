import Derived.Test.YtncnogndopgknaaGreatDoorP02
import Derived.WalkMore
import Derived.Test.YtncnogndopgknaaGreatDoorChecked
import Derived.Test.YtncnogndopgknaaGreatDoorP01
import Derived.WalkKit
import Derived.WalkSpells
import Derived.WalkLawsBesides
import Derived.Deep.QuietTactic
import Derived.BigQuiet
import Derived.Handy
namespace Go.Proofs.YtncnogndopgknaaGreatDoor
open Go.RowKit

theorem hid {p : Prop} (h : p) : Hid p := h
def brk (p : Nat) : Ending := .panicked [{ v := .iface 231 (.int .i64 (p : Int)), recovered := false }]
def UnqPost (W : World) (k : Nat) (r : Nat ⊕ (List UInt8 × Nat)) (e : Ending) (W' : World) : Prop :=
  match r with
  | .inl x => e = brk (k + 1 + x) ∧ Below W.heap.size W W'
  | .inr (b, n) => ∃ v, e = .returned (.tuple #[v, .int .i64 ((k + 1 + n : Nat) : Int)]) ∧ HB W W' v b
theorem UnqPost.bad {W W' : World} {k x p : Nat} {r : Nat ⊕ (List UInt8 × Nat)} (hr : r = .inl x) (hp : p = k + 1 + x) (hb : Below W.heap.size W W') : UnqPost W k r (.panicked [{ v := .iface 231 (.int .i64 (p : Int)), recovered := false }]) W' := by
  subst hr hp; exact ⟨rfl, hb⟩
theorem UnqPost.good {W W' : World} {k n : Nat} {p : Int} {r : Nat ⊕ (List UInt8 × Nat)} {b : List UInt8} {v : Value} (hr : r = .inr (b, n)) (hp : p = ((k + 1 + n : Nat) : Int)) (hb : HB W W' v b) : UnqPost W k r (.returned (.tuple #[v, .int .i64 p])) W' := by
  subst hr hp; exact ⟨_, rfl, hb⟩

set_option maxHeartbeats 1000000 in
theorem unquoted_any (W : World) (s : ByteArray) (k : Nat) (hs : s.size ≤ 1000000000) (hk : k < s.size) :
    Calls Tryz.prog 141 #[.string s, .int .i64 (k : Int)] W fun e W' => UnqPost W k (T.unq (s.data.toList.drop (k + 1))) e W' := by
  obtain ⟨i0, hi, hz0, hz1, hz2⟩ := info_parts Tryz.info5
  generalize hr0 : T.unq (s.data.toList.drop (k + 1)) = r0
  have b1 : (k : Int) < (s.size : Int) := by omega
  have b2 : (s.size : Int) ≤ 1000000000 := by omega
  have HR : Hid (T.unq (s.data.toList.drop (k + 1)) = r0) := hr0
  clear hr0
  go_enter Tryz.func141, Tryz.ntmps141
  go_wp2
  go_step3
  go_wp2
  go_step3
  go_wp2
  go_loopw [1, 4, 6] (fun i v _ wr => ∃ (p : Nat) (l : List UInt8), k + 1 ≤ p ∧ p ≤ s.size ∧ i = .int .i64 p ∧ l.length ≤ p ∧ HB W wr v l ∧ Hid (r0 = T.sp (p - (k + 1)) l (T.unq (s.data.toList.drop p)))) (fun i _ _ _ => s.size - (intOf i).toNat)
  case atStart => exact ⟨k + 1, [], Nat.le_refl _, by omega, by go_num, Nat.zero_le _, HB.start W, by rw [Nat.sub_self, T.sp_zero]; exact HR.out.symm⟩
  case round =>
    obtain ⟨p, l, hp1, hp2, rfl, hl, F, R⟩ := hrel
    have c1 : (p : Int) ≤ (s.size : Int) := by omega
    by_cases hlt : p < s.size
    · have c2 : (p : Int) < (s.size : Int) := by omega
      have c3 : ((p : Int) == (s.size : Int)) = false := by simp; omega
      have hd := drop_get s p hlt
      by_cases h34 : s[p].toNat = 34
      · have e34 : ((s[p].toNat : Int) == 34) = true := by rw [h34]; rfl
        have H : Hid (r0 = .inr (l, p - (k + 1) + 1)) := hid <| by
          have := R.out
          rw [hd, T.unq_end _ _ h34] at this
          simpa [T.sp] using this
        clear hd h34 R HR
        go_wp2_with fail
        go_ret2
        exact UnqPost.good H.out (by omega) F
      · have e34 : ((s[p].toNat : Int) == 34) = false := by simp; omega
        by_cases h92 : s[p].toNat = 92
        · have e92 : ((s[p].toNat : Int) == 92) = true := by rw [h92]; rfl
          have HC := escaped_any s p hs hlt
          cases he : T.esc (s.data.toList.drop (p + 1)) with
          | none =>
            have H : Hid (r0 = .inl (p - (k + 1))) := hid <| by
              have := R.out
              rw [hd, T.unq_noesc _ _ h92 he] at this
              exact this
            rw [he] at HC
            clear hd h92 h34 R HR he
            go_wp2_with fail
            refine (HC _).mono ?_
            rintro e w' ⟨rfl, rfl⟩
            go_wp2_with fail
            exact ⟨rfl, UnqPost.bad H.out (by omega) F.below⟩
          | some x =>
            have h3 := T.esc_three he
            rw [List.length_drop, size_list] at h3
            have H : Hid (r0 = T.sp (p + 4 - (k + 1)) (l ++ [x]) (T.unq (s.data.toList.drop (p + 4)))) := hid <| by
              have := R.out
              rw [hd, T.unq_esc _ _ x h92 he, T.sp_sp, List.drop_drop] at this
              rw [this, show p - (k + 1) + 4 = p + 4 - (k + 1) by omega]
            rw [he] at HC
            clear hd h92 h34 R HR he
            have d1 : (p : Int) + 4 ≤ (s.size : Int) := by omega
            go_wp2_with fail
            refine (HC _).mono ?_
            rintro e w' ⟨rfl, rfl⟩
            go_wp2_with (first | (at_builtin; refine wpList_append_bytes rfl _ _ _ rfl i0 Tryz.underlying91 hi hz0 hz1 hz2 _ _ rfl (F.alloc _) _ _ _ [x] rfl rfl (cells_new _ _ _ _ rfl) (by omega) ?_))
            intro v1 w1 F1
            go_wp2_with fail
            go_roundw
            case rel => exact ⟨p + 4, l ++ [x], by omega, by omega, by go_num, by simp; omega, F1, H⟩
            case measure => simp [intOf]; omega
        · have e92 : ((s[p].toNat : Int) == 92) = false := by simp; omega
          have HC := itself_any s[p]
          cases hit : T.itself s[p] with
          | true =>
            have H : Hid (r0 = T.sp (p + 1 - (k + 1)) (l ++ [s[p]]) (T.unq (s.data.toList.drop (p + 1)))) := hid <| by
              have := R.out
              rw [hd, T.unq_self _ _ hit, T.sp_sp] at this
              rw [this, show p - (k + 1) + 1 = p + 1 - (k + 1) by omega]
            rw [hit] at HC
            clear hd h92 h34 R HR hit
            go_wp2_with fail
            refine (HC _).mono ?_
            rintro e w' ⟨rfl, rfl⟩
            go_wp2_with (first | (at_builtin; refine wpList_append_bytes rfl _ _ _ rfl i0 Tryz.underlying91 hi hz0 hz1 hz2 _ _ rfl (F.alloc _) _ _ _ [s[p]] rfl rfl (cells_new _ _ _ _ rfl) (by omega) ?_))
            intro v1 w1 F1
            go_wp2_with fail
            go_roundw
            case rel => exact ⟨p + 1, l ++ [s[p]], by omega, by omega, by go_num, by simp; omega, F1, H⟩
            case measure => simp [intOf]; omega
          | false =>
            have H : Hid (r0 = .inl (p - (k + 1))) := hid <| by
              have := R.out
              rw [hd, T.unq_bad _ _ h34 h92 hit] at this
              exact this
            rw [hit] at HC
            clear hd h92 h34 R HR hit
            go_wp2_with fail
            refine (HC _).mono ?_
            rintro e w' ⟨rfl, rfl⟩
            go_wp2_with fail
            exact ⟨rfl, UnqPost.bad H.out (by omega) F.below⟩
    · obtain rfl : p = s.size := by omega
      have c3 : ((s.size : Int) == (s.size : Int)) = true := by simp
      have H : Hid (r0 = .inl (s.size - (k + 1))) := hid <| by
        have := R.out
        rw [List.drop_eq_nil_of_le (by rw [size_list]; exact Nat.le_refl _), T.unq_nil] at this
        exact this
      go_wp2_with fail
      exact ⟨rfl, UnqPost.bad H.out (by omega) F.below⟩
end Go.Proofs.YtncnogndopgknaaGreatDoor
namespace Go.Proofs.YtncnogndopgknaaGreatDoor
open Go.RowKit

theorem own_mono {w : World} {B B' n : Nat} {e : TypeId} {z : Nat} {v : Value} {xs : List Value} (h : w.ownsRow B e z v n xs) (hB : B' ≤ B) : w.ownsRow B' e z v n xs :=
  ⟨h.1, h.2.imp id fun ⟨g, cap, cur, hv, hb, r⟩ => ⟨g, cap, cur, hv, Nat.le_trans hB hb, r⟩⟩
theorem own_set {w : World} {B n : Nat} {e : TypeId} {z : Nat} {v : Value} {xs : List Value} (h : w.ownsRow B e z v n xs) (a : Addr) (ha : a.block < B) (u : Value) : (w.setCell a u).ownsRow B e z v n xs :=
  ⟨h.1, h.2.imp id fun ⟨g, cap, cur, hv, hb, hg, r⟩ => ⟨g, cap, cur, hv, hb, by rw [Below.heap_setCell _ _ _ _ (by omega)]; exact hg, r⟩⟩
theorem own_below {w w' : World} {B n : Nat} {e : TypeId} {z : Nat} {v : Value} {xs : List Value} (h : w.ownsRow B e z v n xs) (hb : Below w.heap.size w w') : w'.ownsRow B e z v n xs :=
  ⟨h.1, h.2.imp id fun ⟨g, cap, cur, hv, hB, hg, r⟩ => ⟨g, cap, cur, hv, hB, by rw [hb.block g (Array.getElem?_eq_some_iff.1 hg).1]; exact hg, r⟩⟩
theorem own_form {w : World} {B n : Nat} {e : TypeId} {z : Nat} {v : Value} {xs : List Value} (h : w.ownsRow B e z v n xs) : ∃ ao c, v = .slice ao n c := by
  rcases h.2 with ⟨rfl, rfl⟩ | ⟨g, cap, cur, rfl, _⟩
  · exact ⟨none, 0, rfl⟩
  · exact ⟨_, _, rfl⟩
theorem HB.on {W wr w : World} {v : Value} {l : List UInt8} (h : HB W wr v l) (hb : Below wr.heap.size wr w) : HB W w v l := ⟨own_below h.own hb, h.below.trans (hb.mono h.below.size)⟩

theorem hmf (fn : Fn) (first cap : Array Value) (w : World) : (Instr.makeFunc fn first cap).run Tryz.prog w = .ok (.func fn first cap) w := rfl

def UqPost (W : World) (r : Option (List UInt8)) (e : Ending) (W' : World) : Prop :=
  match r with
  | none => e = .returned (.tuple #[.slice none 0 0, .int .i64 40]) ∧ Below W.heap.size W W'
  | some b => ∃ v, e = .returned (.tuple #[v, .int .i64 0]) ∧ HB W W' v b
theorem UqPost.bad {W W' : World} {r : Option (List UInt8)} (hr : r = none) (hb : Below W.heap.size W W') : UqPost W r (.returned (.tuple #[.slice none 0 0, .int .i64 40])) W' := by
  subst hr; exact ⟨rfl, hb⟩
theorem UqPost.good {W W' : World} {r : Option (List UInt8)} {b : List UInt8} {v : Value} (hr : r = some b) (hb : HB W W' v b) : UqPost W r (.returned (.tuple #[v, .int .i64 0])) W' := by
  subst hr; exact ⟨_, rfl, hb⟩
end Go.Proofs.YtncnogndopgknaaGreatDoor
namespace Go.Proofs.YtncnogndopgknaaGreatDoor
open Go.RowKit
def AtB (W : World) (ao : Option Addr) (l : List UInt8) : Prop := l = [] ∨ ∃ b off, ao = some ⟨b, off, none⟩ ∧ b < W.heap.size ∧ ∀ i (h : i < l.length), W.cell? ⟨b, off + i, none⟩ = some (.int .u8 (l[i].toNat : Int))
theorem hexD_at (n : Nat) (h : n < 16) (hp : n < (⟨#[48, 49, 50, 51, 52, 53, 54, 55, 56, 57, 97, 98, 99, 100, 101, 102]⟩ : ByteArray).size) : ((⟨#[48, 49, 50, 51, 52, 53, 54, 55, 56, 57, 97, 98, 99, 100, 101, 102]⟩ : ByteArray)[n]'hp) = T.hexD n := by
  revert n
  decide +kernel

theorem HB.drew {W wr : World} {v : Value} {l : List UInt8} (h : HB W wr v l) : HB W wr.drew v l := ⟨h.own, h.below.drew⟩
theorem HB.conv {W w : World} {v : Value} {l : List UInt8} (h : HB W w v l) : ∃ ao cap, v = .slice ao l.length cap ∧ (convert 91 9 (.slice ao l.length cap)).run Tryz.prog w = .ok (.string ⟨l.toArray⟩) w := by
  rcases h.own.2 with ⟨hv, h0⟩ | ⟨g, cap, cur, hv, _⟩
  · have hl : l = [] := List.eq_nil_of_length_eq_zero h0
    refine ⟨none, 0, by rw [hv, h0], ?_⟩
    rw [hl, List.length_nil, run_convert_bytes_string (P := Tryz.prog) w 91 9 5 none 0 0 Tryz.underlying91 Tryz.underlying5 Tryz.underlying9]
    rfl
  · exact ⟨some ⟨g, 0, none⟩, cap, hv, run_convert_bytes_back (P := Tryz.prog) w 91 9 5 ⟨g, 0, none⟩ cap l Tryz.underlying91 Tryz.underlying5 Tryz.underlying9 (fun j hj => h.own.cells (g := g) (by rw [hv]; rfl) j _ (by simp [Lib.byteCells, hj]))⟩
end Go.Proofs.YtncnogndopgknaaGreatDoor
namespace Go.Proofs.YtncnogndopgknaaGreatDoor
open Go.RowKit

def Tab (W : World) : Prop := ∀ i : Nat, i ≤ 32 → W.cell? ⟨3, i, none⟩ = some (.int .u32 (2 ^ i - 1))
theorem Tab.drewN {W : World} (h : Tab W) (k : Nat) : Tab (W.drewN k) := fun i hi => (World.cell?_drewN W k _).trans (h i hi)
theorem Tab.below {W w : World} {B : Nat} (h : Tab W) (hb : Below B W w) (hB : 5 < B) : Tab w := fun i hi => (hb.cell (p := ⟨3, i, none⟩) (show 3 < B by omega)).trans (h i hi)

theorem cut_any (W : World) (hT : Tab W) (w lo n : Int) (w0 : 0 ≤ w) (w1 : w < 4294967296) (l0 : 0 ≤ lo) (n0 : 0 ≤ n) (hn : n ≤ 32) (l1 : lo ≤ 31) :
    Calls Tryz.prog 71 #[.int .u32 w, .int .i64 lo, .int .i64 n] W fun e W' => e = .returned (.int .u32 (M.Fld w lo.toNat n.toNat)) ∧ ∃ k, W' = W.drewN k := by
  obtain ⟨l, rfl⟩ := Int.eq_ofNat_of_zero_le l0
  obtain ⟨m, rfl⟩ := Int.eq_ofNat_of_zero_le n0
  have h := hT m (by omega)
  have H : Hid (bits .and .u32 (w / 2 ^ l) (2 ^ m - 1) = M.Fld w l m) := M.cut_eq w l m w0 w1 (by omega)
  clear hT
  go_enter Tryz.func71, Tryz.ntmps71
  go_wp2
  go_quiet (fail)
  go_wp2
  go_ret
  exact ⟨ret_int (by rw [Int.toNat_natCast, Int.toNat_natCast]; exact H.out), _, rfl⟩

theorem mayBe_yes (W : World) (lo n : Int) (h0 : 1 ≤ n) (h1 : 0 ≤ lo) (h2 : lo ≤ 32 - n) :
    Calls Tryz.prog 70 #[.int .i64 lo, .int .i64 n] W fun e W' => e = .returned (.bool true) ∧ W = W' := by
  go_enter Tryz.func70, Tryz.ntmps70
  go_wp2
  all_goals go_ret
  all_goals exact ⟨rfl, rfl⟩
theorem field_yes (W : World) (hT : Tab W) (w lo n : Int) (w0 : 0 ≤ w) (w1 : w < 4294967296) (h0 : 1 ≤ n) (h1 : 0 ≤ lo) (h2 : lo ≤ 32 - n) :
    Calls Tryz.prog 46 #[.int .u32 w, .int .i64 lo, .int .i64 n] W fun e W' => e = .returned (.int .u32 (M.Fld w lo.toNat n.toNat)) ∧ ∃ k, W' = W.drewN k := by
  go_enter Tryz.func46, Tryz.ntmps46
  go_wp2_with (first | (go_at_call 70; refine (mayBe_yes _ _ _ h0 h1 h2).mono ?_; rintro e w' ⟨rfl, rfl⟩) | (go_at_call 71; refine (cut_any _ hT _ _ _ w0 w1 h1 (by omega) (by omega) (by omega)).mono ?_; rintro e w' ⟨rfl, k, rfl⟩))
  go_ret
  exact ⟨rfl, _, rfl⟩
theorem setField_yes (W : World) (hT : Tab W) (w lo n v : Int) (w0 : 0 ≤ w) (w1 : w < 4294967296) (v0 : 0 ≤ v) (v1 : v < 4294967296) (h0 : 1 ≤ n) (h1 : 0 ≤ lo) (h2 : lo ≤ 32 - n) :
    Calls Tryz.prog 43 #[.int .u32 w, .int .i64 lo, .int .i64 n, .int .u32 v] W fun e W' => e = .returned (.int .u32 (M.SetF w lo.toNat n.toNat v)) ∧ W = W' := by
  obtain ⟨l, rfl⟩ := Int.eq_ofNat_of_zero_le h1
  obtain ⟨m, rfl⟩ := Int.eq_ofNat_of_zero_le (show 0 ≤ n by omega)
  have hc := hT m (by omega)
  have H : Hid (_ = M.SetF w l m v) := M.setF_eq w l m v w0 w1 v0 v1 (by omega)
  clear hT
  go_enter Tryz.func43, Tryz.ntmps43
  go_wp2_with (first | (go_at_call 70; refine (mayBe_yes _ _ _ h0 h1 h2).mono ?_; rintro e w' ⟨rfl, rfl⟩))
  go_ret
  exact ⟨ret_int (by rw [Int.toNat_natCast, Int.toNat_natCast]; exact H.out), rfl⟩
theorem extend_yes (W : World) (hT : Tab W) (w n : Int) (w0 : 0 ≤ w) (w1 : w < 4294967296) (h0 : 1 ≤ n) (h2 : n ≤ 32) :
    Calls Tryz.prog 72 #[.int .u32 w, .int .i64 n] W fun e W' => e = .returned (.int .i32 (M.Ext w n.toNat)) ∧ ∃ k, W' = W.drewN k := by
  obtain ⟨m, rfl⟩ : ∃ m : Nat, n = (m : Int) + 1 := ⟨(n - 1).toNat, by omega⟩
  have hc := hT (m + 1) (by omega)
  have hd := hT m (by omega)
  have hs := M.ext_sign (m + 1) (by omega) (by omega)
  have ha := M.and_low w (m + 1) w0 w1 (by omega)
  have h := (M.ext_eq w (m + 1) (by omega) (by omega)).1
  rw [Nat.add_sub_cancel] at hs h
  rw [show ((m : Int) + 1).toNat = m + 1 by omega]
  have H : Hid (_ = M.Ext w (m + 1)) := h
  clear hT h
  go_enter Tryz.func72, Tryz.ntmps72
  go_wp2_with (first | (go_at_call 70; refine (mayBe_yes _ _ _ h0 (by decide) (by omega)).mono ?_; rintro e w' ⟨rfl, rfl⟩))
  go_quiet (fail)
  go_wp2
  go_ret
  exact ⟨ret_int H.out, _, rfl⟩
end Go.Proofs.YtncnogndopgknaaGreatDoor
