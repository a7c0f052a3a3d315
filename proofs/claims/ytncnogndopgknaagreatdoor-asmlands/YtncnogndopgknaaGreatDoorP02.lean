import Derived.Test.YtncnogndopgknaaGreatDoorP01
import Derived.WalkMore
namespace Go.Proofs.YtncnogndopgknaaGreatDoor
open Go.RowKit

theorem drop_get (s : ByteArray) (k : Nat) (h : k < s.size) : s.data.toList.drop k = s[k] :: s.data.toList.drop (k + 1) := by
  rw [List.drop_eq_getElem_cons (by simpa using h)]
  rfl
theorem size_list (s : ByteArray) : s.data.toList.length = s.size := rfl
theorem or_bits : ∀ a : Nat, a < 16 → ∀ b : Nat, b < 16 → bits .or .u8 ((a : Int) * 16) (b : Int) = ((a * 16 + b : Nat) : Int) := by
  have h : ∀ a : Fin 16, ∀ b : Fin 16, bits .or .u8 ((a.val : Int) * 16) (b.val : Int) = ((a.val * 16 + b.val : Nat) : Int) := by decide +kernel
  exact fun a ha b hb => h ⟨a, ha⟩ ⟨b, hb⟩
theorem esc_at (s : ByteArray) (k : Nat) (h4 : k + 4 ≤ s.size) : T.esc (s.data.toList.drop (k + 1)) = if s[k + 1].toNat = 120 then (match T.hexV s[k + 2], T.hexV s[k + 3] with
      | some a, some b => if T.itself (UInt8.ofNat (a * 16 + b)) then none else some (UInt8.ofNat (a * 16 + b))
      | _, _ => none) else none := by
  rw [drop_get s (k + 1) (by omega), drop_get s (k + 2) (by omega), drop_get s (k + 3) (by omega)]
  rfl
theorem esc_short (s : ByteArray) (k : Nat) (h4 : s.size < k + 4) : T.esc (s.data.toList.drop (k + 1)) = none := by
  cases h : T.esc (s.data.toList.drop (k + 1)) with
  | none => rfl
  | some x =>
    have := T.esc_three h
    simp at this
    have : s.data.size = s.size := rfl
    omega

theorem escaped_two (s : ByteArray) (k : Nat) (hs : s.size ≤ 1000000000) (h4 : k + 4 ≤ s.size) (a b : Nat) (h1 : s[k + 1].toNat = 120) (h2 : T.hexV s[k + 2] = some a) (h3 : T.hexV s[k + 3] = some b) (x : UInt8) (hx : x = UInt8.ofNat (a * 16 + b)) (t : Bool) (hi : T.itself x = t) (w : World) :
    Calls Tryz.prog 157 #[.string s, .int .i64 (k : Int)] w fun e w' => e = (if t then .panicked [{ v := .iface 231 (.int .i64 (k : Int)), recovered := false }] else .returned (.int .u8 (x.toNat : Int))) ∧ w = w' := by
  have b2 : (s.size : Int) ≤ 1000000000 := by omega
  have b3 : (k : Int) + 4 ≤ (s.size : Int) := by omega
  have c1 : ((s[k + 1].toNat : Int) != 120) = false := by rw [h1]; rfl
  have ha := (T.hexV_lt h2).1
  have hb := (T.hexV_lt h3).1
  have ho : bits .or .u8 ((a : Int) * 16) (b : Int) = (x.toNat : Int) := by
    rw [or_bits a ha b hb, hx, UInt8.toNat_ofNat']
    omega
  have H2 := hexValue_some _ a h2
  have H3 := hexValue_some _ b h3
  have HI := itself_any x
  rw [hi] at HI
  clear h1 h2 h3 hx hi
  cases t
  all_goals
    go_enter Tryz.func157, Tryz.ntmps157
    go_wp2_with fail
    refine (H2 _).mono ?_
    rintro e w' ⟨rfl, rfl⟩
    go_wp2_with fail
    refine (H3 _).mono ?_
    rintro e w' ⟨rfl, rfl⟩
    go_wp2_with fail
    refine (HI _).mono ?_
    rintro e w' ⟨rfl, rfl⟩
    go_wp2_with fail
  · go_ret
    exact ⟨rfl, rfl⟩
  · exact ⟨rfl, rfl, rfl⟩
theorem escaped_bad (s : ByteArray) (k : Nat) (hs : s.size ≤ 1000000000) (h4 : k + 4 ≤ s.size) (h1 : s[k + 1].toNat = 120) (h2 : T.hexV s[k + 2] = none ∨ T.hexV s[k + 3] = none) (w : World) :
    Calls Tryz.prog 157 #[.string s, .int .i64 (k : Int)] w fun e w' => e = .panicked [{ v := .iface 231 (.int .i64 (k : Int)), recovered := false }] ∧ w = w' := by
  have b2 : (s.size : Int) ≤ 1000000000 := by omega
  have b3 : (k : Int) + 4 ≤ (s.size : Int) := by omega
  have c1 : ((s[k + 1].toNat : Int) != 120) = false := by rw [h1]; rfl
  cases e2 : T.hexV s[k + 2] with
  | none =>
    have H2 := hexValue_none _ e2
    cases e3 : T.hexV s[k + 3] with
    | none =>
      have H3 := hexValue_none _ e3
      clear h1 h2 e2 e3
      go_enter Tryz.func157, Tryz.ntmps157
      go_wp2_with fail
      refine (H2 _).mono ?_
      rintro e w' ⟨rfl, rfl⟩
      go_wp2_with fail
      refine (H3 _).mono ?_
      rintro e w' ⟨rfl, rfl⟩
      go_wp2_with fail
      exact ⟨rfl, rfl, rfl⟩
    | some b =>
      have H3 := hexValue_some _ b e3
      have hb := (T.hexV_lt e3).1
      clear h1 h2 e2 e3
      go_enter Tryz.func157, Tryz.ntmps157
      go_wp2_with fail
      refine (H2 _).mono ?_
      rintro e w' ⟨rfl, rfl⟩
      go_wp2_with fail
      refine (H3 _).mono ?_
      rintro e w' ⟨rfl, rfl⟩
      go_wp2_with fail
      exact ⟨rfl, rfl, rfl⟩
  | some a =>
    have H2 := hexValue_some _ a e2
    have ha := (T.hexV_lt e2).1
    have e3 : T.hexV s[k + 3] = none := by
      rcases h2 with h2 | h2
      · rw [e2] at h2; cases h2
      · exact h2
    have H3 := hexValue_none _ e3
    clear h1 h2 e2 e3
    go_enter Tryz.func157, Tryz.ntmps157
    go_wp2_with fail
    refine (H2 _).mono ?_
    rintro e w' ⟨rfl, rfl⟩
    go_wp2_with fail
    refine (H3 _).mono ?_
    rintro e w' ⟨rfl, rfl⟩
    go_wp2_with fail
    exact ⟨rfl, rfl, rfl⟩
theorem escaped_short (s : ByteArray) (k : Nat) (hs : s.size ≤ 1000000000) (hk : k < s.size) (h4 : s.size < k + 4 ∨ ∃ h : k + 1 < s.size, k + 4 ≤ s.size ∧ s[k + 1].toNat ≠ 120) (w : World) :
    Calls Tryz.prog 157 #[.string s, .int .i64 (k : Int)] w fun e w' => e = .panicked [{ v := .iface 231 (.int .i64 (k : Int)), recovered := false }] ∧ w = w' := by
  have b1 : (k : Int) < (s.size : Int) := by omega
  have b2 : (s.size : Int) ≤ 1000000000 := by omega
  rcases h4 with h4 | ⟨h0, h4, h1⟩
  · have b3 : (s.size : Int) < (k : Int) + 4 := by omega
    go_enter Tryz.func157, Tryz.ntmps157
    go_wp2_with fail
    exact ⟨rfl, rfl, rfl⟩
  · have b3 : (k : Int) + 4 ≤ (s.size : Int) := by omega
    have c1 : ((s[k + 1].toNat : Int) != 120) = true := by rw [bne_iff_ne]; omega
    clear h1
    go_enter Tryz.func157, Tryz.ntmps157
    go_wp2_with fail
    exact ⟨rfl, rfl, rfl⟩
theorem escaped_any (s : ByteArray) (k : Nat) (hs : s.size ≤ 1000000000) (hk : k < s.size) (w : World) :
    Calls Tryz.prog 157 #[.string s, .int .i64 (k : Int)] w fun e w' => e = (match T.esc (s.data.toList.drop (k + 1)) with
      | some x => .returned (.int .u8 (x.toNat : Int))
      | none => .panicked [{ v := .iface 231 (.int .i64 (k : Int)), recovered := false }]) ∧ w = w' := by
  by_cases h4 : k + 4 ≤ s.size
  · rw [esc_at s k h4]
    by_cases h1 : s[k + 1].toNat = 120
    · rw [if_pos h1]
      cases h2 : T.hexV s[k + 2] with
      | none => exact escaped_bad s k hs h4 h1 (.inl h2) w
      | some a =>
        cases h3 : T.hexV s[k + 3] with
        | none => exact escaped_bad s k hs h4 h1 (.inr h3) w
        | some b =>
          have := escaped_two s k hs h4 a b h1 h2 h3 _ rfl _ rfl w
          revert this
          show _ → Calls Tryz.prog 157 _ w fun e w' => e = (match (if T.itself (UInt8.ofNat (a * 16 + b)) then none else some (UInt8.ofNat (a * 16 + b))) with
            | some x => .returned (.int .u8 (x.toNat : Int))
            | none => .panicked [{ v := .iface 231 (.int .i64 (k : Int)), recovered := false }]) ∧ w = w'
          generalize UInt8.ofNat (a * 16 + b) = x
          cases hi : T.itself x with
          | true => exact id
          | false => exact id
    · rw [if_neg h1]
      exact escaped_short s k hs hk (.inr ⟨by omega, h4, h1⟩) w
  · rw [esc_short s k (by omega)]
    exact escaped_short s k hs hk (.inl (by omega)) w
end Go.Proofs.YtncnogndopgknaaGreatDoor
namespace Go.Proofs.YtncnogndopgknaaGreatDoor
open Go.RowKit

theorem hid {p : Prop} (h : p) : Hid p := h
def brk (p : Nat) : Ending := .panicked [{ v := .iface 231 (.int .i64 (p : Int)), recovered := false }]
def UnqPost (W : World) (k : Nat) (r : Nat ⊕ (List UInt8 × Nat)) (e : Ending) (W' : World) : Prop :=
  match r with
  | .inl x => e = brk (k + 1 + x) ∧ Below W.heap.size W W'
  | .inr (b, n) => ∃ v, e = .returned (.tuple #[v, .int .i64 ((k + 1 + n : Nat) : Int)]) ∧ HB W W' v b
theorem UnqPost.bad {W W' : World} {k x p : Nat} {r : Nat ⊕ (List UInt8 × Nat)} (hr : r = .inl x) (hp : p = k + 1 + x) (hb : Below W.heap.size W W') : UnqPost W k r (.panicked [{ v := .iface 231 (.int .i64 (p : Int)), recovered := false }]) W' := by
  subst hr hp; exact ⟨rfl, hb⟩
theorem UnqPost.good {W W' : World} {k n : Nat} {p : Int} {r : Nat ⊕ (List UInt8 × Nat)} {b : List UInt8} {v : Value} (hr : r = .inr (b, n)) (hp : p = ((k + 1 + n : Nat) : Int)) (hb : HB W W' v b) : UnqPost W k r (.returned (.tuple #[v, .int .i64 p])) W' := by
  subst hr hp; exact ⟨_, rfl, hb⟩

set_option maxHeartbeats 1000000 in
theorem unquoted_any (W : World) (s : ByteArray) (k : Nat) (hs : s.size ≤ 1000000000) (hk : k < s.size) :
    Calls Tryz.prog 141 #[.string s, .int .i64 (k : Int)] W fun e W' => UnqPost W k (T.unq (s.data.toList.drop (k + 1))) e W' := by
  obtain ⟨i0, hi, hz0, hz1, hz2⟩ := info_parts Tryz.info5
  generalize hr0 : T.unq (s.data.toList.drop (k + 1)) = r0
  have b1 : (k : Int) < (s.size : Int) := by omega
  have b2 : (s.size : Int) ≤ 1000000000 := by omega
  have HR : Hid (T.unq (s.data.toList.drop (k + 1)) = r0) := hr0
  clear hr0
  go_enter Tryz.func141, Tryz.ntmps141
  go_wp2
  go_step3
  go_wp2
  go_step3
  go_wp2
  go_loopw [1, 4, 6] (fun i v _ wr => ∃ (p : Nat) (l : List UInt8), k + 1 ≤ p ∧ p ≤ s.size ∧ i = .int .i64 p ∧ l.length ≤ p ∧ HB W wr v l ∧ Hid (r0 = T.sp (p - (k + 1)) l (T.unq (s.data.toList.drop p)))) (fun i _ _ _ => s.size - (intOf i).toNat)
  case atStart => exact ⟨k + 1, [], Nat.le_refl _, by omega, by go_num, Nat.zero_le _, HB.start W, by rw [Nat.sub_self, T.sp_zero]; exact HR.out.symm⟩
  case round =>
    obtain ⟨p, l, hp1, hp2, rfl, hl, F, R⟩ := hrel
    have c1 : (p : Int) ≤ (s.size : Int) := by omega
    by_cases hlt : p < s.size
    · have c2 : (p : Int) < (s.size : Int) := by omega
      have c3 : ((p : Int) == (s.size : Int)) = false := by simp; omega
      have hd := drop_get s p hlt
      by_cases h34 : s[p].toNat = 34
      · have e34 : ((s[p].toNat : Int) == 34) = true := by rw [h34]; rfl
        have H : Hid (r0 = .inr (l, p - (k + 1) + 1)) := hid <| by
          have := R.out
          rw [hd, T.unq_end _ _ h34] at this
          simpa [T.sp] using this
        clear hd h34 R HR
        go_wp2_with fail
        go_ret2
        exact UnqPost.good H.out (by omega) F
      · have e34 : ((s[p].toNat : Int) == 34) = false := by simp; omega
        by_cases h92 : s[p].toNat = 92
        · have e92 : ((s[p].toNat : Int) == 92) = true := by rw [h92]; rfl
          have HC := escaped_any s p hs hlt
          cases he : T.esc (s.data.toList.drop (p + 1)) with
          | none =>
            have H : Hid (r0 = .inl (p - (k + 1))) := hid <| by
              have := R.out
              rw [hd, T.unq_noesc _ _ h92 he] at this
              exact this
            rw [he] at HC
            clear hd h92 h34 R HR he
            go_wp2_with fail
            refine (HC _).mono ?_
            rintro e w' ⟨rfl, rfl⟩
            go_wp2_with fail
            exact ⟨rfl, UnqPost.bad H.out (by omega) F.below⟩
          | some x =>
            have h3 := T.esc_three he
            rw [List.length_drop, size_list] at h3
            have H : Hid (r0 = T.sp (p + 4 - (k + 1)) (l ++ [x]) (T.unq (s.data.toList.drop (p + 4)))) := hid <| by
              have := R.out
              rw [hd, T.unq_esc _ _ x h92 he, T.sp_sp, List.drop_drop] at this
              rw [this, show p - (k + 1) + 4 = p + 4 - (k + 1) by omega]
            rw [he] at HC
            clear hd h92 h34 R HR he
            have d1 : (p : Int) + 4 ≤ (s.size : Int) := by omega
            go_wp2_with fail
            refine (HC _).mono ?_
            rintro e w' ⟨rfl, rfl⟩
            go_wp2_with (first | (at_builtin; refine wpList_append_bytes rfl _ _ _ rfl i0 Tryz.underlying91 hi hz0 hz1 hz2 _ _ rfl (F.alloc _) _ _ _ [x] rfl rfl (cells_new _ _ _ _ rfl) (by omega) ?_))
            intro v1 w1 F1
            go_wp2_with fail
            go_roundw
            case rel => exact ⟨p + 4, l ++ [x], by omega, by omega, by go_num, by simp; omega, F1, H⟩
            case measure => simp [intOf]; omega
        · have e92 : ((s[p].toNat : Int) == 92) = false := by simp; omega
          have HC := itself_any s[p]
          cases hit : T.itself s[p] with
          | true =>
            have H : Hid (r0 = T.sp (p + 1 - (k + 1)) (l ++ [s[p]]) (T.unq (s.data.toList.drop (p + 1)))) := hid <| by
              have := R.out
              rw [hd, T.unq_self _ _ hit, T.sp_sp] at this
              rw [this, show p - (k + 1) + 1 = p + 1 - (k + 1) by omega]
            rw [hit] at HC
            clear hd h92 h34 R HR hit
            go_wp2_with fail
            refine (HC _).mono ?_
            rintro e w' ⟨rfl, rfl⟩
            go_wp2_with (first | (at_builtin; refine wpList_append_bytes rfl _ _ _ rfl i0 Tryz.underlying91 hi hz0 hz1 hz2 _ _ rfl (F.alloc _) _ _ _ [s[p]] rfl rfl (cells_new _ _ _ _ rfl) (by omega) ?_))
            intro v1 w1 F1
            go_wp2_with fail
            go_roundw
            case rel => exact ⟨p + 1, l ++ [s[p]], by omega, by omega, by go_num, by simp; omega, F1, H⟩
            case measure => simp [intOf]; omega
          | false =>
            have H : Hid (r0 = .inl (p - (k + 1))) := hid <| by
              have := R.out
              rw [hd, T.unq_bad _ _ h34 h92 hit] at this
              exact this
            rw [hit] at HC
            clear hd h92 h34 R HR hit
            go_wp2_with fail
            refine (HC _).mono ?_
            rintro e w' ⟨rfl, rfl⟩
            go_wp2_with fail
            exact ⟨rfl, UnqPost.bad H.out (by omega) F.below⟩
    · obtain rfl : p = s.size := by omega
      have c3 : ((s.size : Int) == (s.size : Int)) = true := by simp
      have H : Hid (r0 = .inl (s.size - (k + 1))) := hid <| by
        have := R.out
        rw [List.drop_eq_nil_of_le (by rw [size_list]; exact Nat.le_refl _), T.unq_nil] at this
        exact this
      go_wp2_with fail
      exact ⟨rfl, UnqPost.bad H.out (by omega) F.below⟩
end Go.Proofs.YtncnogndopgknaaGreatDoor
namespace Go.Proofs.YtncnogndopgknaaGreatDoor
open Go.RowKit

theorem own_mono {w : World} {B B' n : Nat} {e : TypeId} {z : Nat} {v : Value} {xs : List Value} (h : w.ownsRow B e z v n xs) (hB : B' ≤ B) : w.ownsRow B' e z v n xs :=
  ⟨h.1, h.2.imp id fun ⟨g, cap, cur, hv, hb, r⟩ => ⟨g, cap, cur, hv, Nat.le_trans hB hb, r⟩⟩
theorem own_set {w : World} {B n : Nat} {e : TypeId} {z : Nat} {v : Value} {xs : List Value} (h : w.ownsRow B e z v n xs) (a : Addr) (ha : a.block < B) (u : Value) : (w.setCell a u).ownsRow B e z v n xs :=
  ⟨h.1, h.2.imp id fun ⟨g, cap, cur, hv, hb, hg, r⟩ => ⟨g, cap, cur, hv, hb, by rw [Below.heap_setCell _ _ _ _ (by omega)]; exact hg, r⟩⟩
theorem own_below {w w' : World} {B n : Nat} {e : TypeId} {z : Nat} {v : Value} {xs : List Value} (h : w.ownsRow B e z v n xs) (hb : Below w.heap.size w w') : w'.ownsRow B e z v n xs :=
  ⟨h.1, h.2.imp id fun ⟨g, cap, cur, hv, hB, hg, r⟩ => ⟨g, cap, cur, hv, hB, by rw [hb.block g (Array.getElem?_eq_some_iff.1 hg).1]; exact hg, r⟩⟩
theorem own_form {w : World} {B n : Nat} {e : TypeId} {z : Nat} {v : Value} {xs : List Value} (h : w.ownsRow B e z v n xs) : ∃ ao c, v = .slice ao n c := by
  rcases h.2 with ⟨rfl, rfl⟩ | ⟨g, cap, cur, rfl, _⟩
  · exact ⟨none, 0, rfl⟩
  · exact ⟨_, _, rfl⟩
theorem HB.on {W wr w : World} {v : Value} {l : List UInt8} (h : HB W wr v l) (hb : Below wr.heap.size wr w) : HB W w v l := ⟨own_below h.own hb, h.below.trans (hb.mono h.below.size)⟩

theorem hmf (fn : Fn) (first cap : Array Value) (w : World) : (Instr.makeFunc fn first cap).run Tryz.prog w = .ok (.func fn first cap) w := rfl

def UqPost (W : World) (r : Option (List UInt8)) (e : Ending) (W' : World) : Prop :=
  match r with
  | none => e = .returned (.tuple #[.slice none 0 0, .int .i64 40]) ∧ Below W.heap.size W W'
  | some b => ∃ v, e = .returned (.tuple #[v, .int .i64 0]) ∧ HB W W' v b
theorem UqPost.bad {W W' : World} {r : Option (List UInt8)} (hr : r = none) (hb : Below W.heap.size W W') : UqPost W r (.returned (.tuple #[.slice none 0 0, .int .i64 40])) W' := by
  subst hr; exact ⟨rfl, hb⟩
theorem UqPost.good {W W' : World} {r : Option (List UInt8)} {b : List UInt8} {v : Value} (hr : r = some b) (hb : HB W W' v b) : UqPost W r (.returned (.tuple #[v, .int .i64 0])) W' := by
  subst hr; exact ⟨_, rfl, hb⟩
end Go.Proofs.YtncnogndopgknaaGreatDoor
