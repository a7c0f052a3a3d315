/- A quoted form's inside (35). -/
import Derived.Test.YtncnogndopgknaaGreatDoorEsc
import Derived.WalkMore
namespace Go.Proofs.YtncnogndopgknaaGreatDoor
open Go.RowKit

theorem hid {p : Prop} (h : p) : Hid p := h
def brk (p : Nat) : Ending := .panicked [{ v := .iface 231 (.int .i64 (p : Int)), recovered := false }]
/-- What comes of a quoted form that begins at place k. -/
def UnqPost (W : World) (k : Nat) (r : Nat ⊕ (List UInt8 × Nat)) (e : Ending) (W' : World) : Prop :=
  match r with
  | .inl x => e = brk (k + 1 + x) ∧ Below W.heap.size W W'
  | .inr (b, n) => ∃ v, e = .returned (.tuple #[v, .int .i64 ((k + 1 + n : Nat) : Int)]) ∧ HB W W' v b
theorem UnqPost.bad {W W' : World} {k x p : Nat} {r : Nat ⊕ (List UInt8 × Nat)} (hr : r = .inl x) (hp : p = k + 1 + x) (hb : Below W.heap.size W W') : UnqPost W k r (.panicked [{ v := .iface 231 (.int .i64 (p : Int)), recovered := false }]) W' := by
  subst hr hp; exact ⟨rfl, hb⟩
theorem UnqPost.good {W W' : World} {k n : Nat} {p : Int} {r : Nat ⊕ (List UInt8 × Nat)} {b : List UInt8} {v : Value} (hr : r = .inr (b, n)) (hp : p = ((k + 1 + n : Nat) : Int)) (hb : HB W W' v b) : UnqPost W k r (.returned (.tuple #[v, .int .i64 p])) W' := by
  subst hr hp; exact ⟨_, rfl, hb⟩

set_option maxHeartbeats 1000000 in
theorem unquoted_any (W : World) (s : ByteArray) (k : Nat) (hs : s.size ≤ 1000000000) (hk : k < s.size) :
    Calls Tryz.prog 141 #[.string s, .int .i64 (k : Int)] W fun e W' => UnqPost W k (T.unq (s.data.toList.drop (k + 1))) e W' := by
  obtain ⟨i0, hi, hz0, hz1, hz2⟩ := info_parts Tryz.info5
  generalize hr0 : T.unq (s.data.toList.drop (k + 1)) = r0
  have b1 : (k : Int) < (s.size : Int) := by omega
  have b2 : (s.size : Int) ≤ 1000000000 := by omega
  have HR : Hid (T.unq (s.data.toList.drop (k + 1)) = r0) := hr0
  clear hr0
  go_enter Tryz.func141, Tryz.ntmps141
  go_wp2
  go_step3
  go_wp2
  go_step3
  go_wp2
  go_loopw [1, 4, 6] (fun i v _ wr => ∃ (p : Nat) (l : List UInt8), k + 1 ≤ p ∧ p ≤ s.size ∧ i = .int .i64 p ∧ l.length ≤ p ∧ HB W wr v l ∧ Hid (r0 = T.sp (p - (k + 1)) l (T.unq (s.data.toList.drop p)))) (fun i _ _ _ => s.size - (intOf i).toNat)
  case atStart => exact ⟨k + 1, [], Nat.le_refl _, by omega, by go_num, Nat.zero_le _, HB.start W, by rw [Nat.sub_self, T.sp_zero]; exact HR.out.symm⟩
  case round =>
    obtain ⟨p, l, hp1, hp2, rfl, hl, F, R⟩ := hrel
    have c1 : (p : Int) ≤ (s.size : Int) := by omega
    by_cases hlt : p < s.size
    · have c2 : (p : Int) < (s.size : Int) := by omega
      have c3 : ((p : Int) == (s.size : Int)) = false := by simp; omega
      have hd := drop_get s p hlt
      by_cases h34 : s[p].toNat = 34
      · have e34 : ((s[p].toNat : Int) == 34) = true := by rw [h34]; rfl
        have H : Hid (r0 = .inr (l, p - (k + 1) + 1)) := hid <| by
          have := R.out
          rw [hd, T.unq_end _ _ h34] at this
          simpa [T.sp] using this
        clear hd h34 R HR
        go_wp2_with fail
        go_ret2
        exact UnqPost.good H.out (by omega) F
      · have e34 : ((s[p].toNat : Int) == 34) = false := by simp; omega
        by_cases h92 : s[p].toNat = 92
        · have e92 : ((s[p].toNat : Int) == 92) = true := by rw [h92]; rfl
          have HC := escaped_any s p hs hlt
          cases he : T.esc (s.data.toList.drop (p + 1)) with
          | none =>
            have H : Hid (r0 = .inl (p - (k + 1))) := hid <| by
              have := R.out
              rw [hd, T.unq_noesc _ _ h92 he] at this
              exact this
            rw [he] at HC
            clear hd h92 h34 R HR he
            go_wp2_with fail
            refine (HC _).mono ?_
            rintro e w' ⟨rfl, rfl⟩
            go_wp2_with fail
            exact ⟨rfl, UnqPost.bad H.out (by omega) F.below⟩
          | some x =>
            have h3 := T.esc_three he
            rw [List.length_drop, size_list] at h3
            have H : Hid (r0 = T.sp (p + 4 - (k + 1)) (l ++ [x]) (T.unq (s.data.toList.drop (p + 4)))) := hid <| by
              have := R.out
              rw [hd, T.unq_esc _ _ x h92 he, T.sp_sp, List.drop_drop] at this
              rw [this, show p - (k + 1) + 4 = p + 4 - (k + 1) by omega]
            rw [he] at HC
            clear hd h92 h34 R HR he
            have d1 : (p : Int) + 4 ≤ (s.size : Int) := by omega
            go_wp2_with fail
            refine (HC _).mono ?_
            rintro e w' ⟨rfl, rfl⟩
            go_wp2_with (first | (at_builtin; refine wpList_append_bytes rfl _ _ _ rfl i0 Tryz.underlying91 hi hz0 hz1 hz2 _ _ rfl (F.alloc _) _ _ _ [x] rfl rfl (cells_new _ _ _ _ rfl) (by omega) ?_))
            intro v1 w1 F1
            go_wp2_with fail
            go_roundw
            case rel => exact ⟨p + 4, l ++ [x], by omega, by omega, by go_num, by simp; omega, F1, H⟩
            case measure => simp [intOf]; omega
        · have e92 : ((s[p].toNat : Int) == 92) = false := by simp; omega
          have HC := itself_any s[p]
          cases hit : T.itself s[p] with
          | true =>
            have H : Hid (r0 = T.sp (p + 1 - (k + 1)) (l ++ [s[p]]) (T.unq (s.data.toList.drop (p + 1)))) := hid <| by
              have := R.out
              rw [hd, T.unq_self _ _ hit, T.sp_sp] at this
              rw [this, show p - (k + 1) + 1 = p + 1 - (k + 1) by omega]
            rw [hit] at HC
            clear hd h92 h34 R HR hit
            go_wp2_with fail
            refine (HC _).mono ?_
            rintro e w' ⟨rfl, rfl⟩
            go_wp2_with (first | (at_builtin; refine wpList_append_bytes rfl _ _ _ rfl i0 Tryz.underlying91 hi hz0 hz1 hz2 _ _ rfl (F.alloc _) _ _ _ [s[p]] rfl rfl (cells_new _ _ _ _ rfl) (by omega) ?_))
            intro v1 w1 F1
            go_wp2_with fail
            go_roundw
            case rel => exact ⟨p + 1, l ++ [s[p]], by omega, by omega, by go_num, by simp; omega, F1, H⟩
            case measure => simp [intOf]; omega
          | false =>
            have H : Hid (r0 = .inl (p - (k + 1))) := hid <| by
              have := R.out
              rw [hd, T.unq_bad _ _ h34 h92 hit] at this
              exact this
            rw [hit] at HC
            clear hd h92 h34 R HR hit
            go_wp2_with fail
            refine (HC _).mono ?_
            rintro e w' ⟨rfl, rfl⟩
            go_wp2_with fail
            exact ⟨rfl, UnqPost.bad H.out (by omega) F.below⟩
    · obtain rfl : p = s.size := by omega
      have c3 : ((s.size : Int) == (s.size : Int)) = true := by simp
      have H : Hid (r0 = .inl (s.size - (k + 1))) := hid <| by
        have := R.out
        rw [List.drop_eq_nil_of_le (by rw [size_list]; exact Nat.le_refl _), T.unq_nil] at this
        exact this
      go_wp2_with fail
      exact ⟨rfl, UnqPost.bad H.out (by omega) F.below⟩
end Go.Proofs.YtncnogndopgknaaGreatDoor
