import Derived.Test.YtbjinmlelchmgaaGreatDoorP08
import Derived.Test.YtbjinmlelchmgaaGreatDoorP01
import Derived.Test.YtbjinmlelchmgaaGreatDoorP04
import Derived.OwnWalk
namespace Go.Proofs.YtbjinmlelchmgaaGreatDoor
open Go.RowKit
def RqPost (W : World) (k : Nat) (r : Nat ⊕ (List UInt8 × Nat)) (e : Ending) (W' : World) : Prop :=
  match r with
  | .inl x => e = .returned (.tuple #[.slice none 0 0, .int .i64 ((k + 1 + x : Nat) : Int), .bool false]) ∧ Below W.heap.size W W'
  | .inr (b, n) => ∃ v, e = .returned (.tuple #[v, .int .i64 ((k + 1 + n : Nat) : Int), .bool true]) ∧ HB W W' v b
theorem RqPost.bad {W W' : World} {k x : Nat} {p : Int} {r : Nat ⊕ (List UInt8 × Nat)} (hr : r = .inl x) (hp : p = ((k + 1 + x : Nat) : Int)) (hb : Below W.heap.size W W') : RqPost W k r (.returned (.tuple #[.slice none 0 0, .int .i64 p, .bool false])) W' := by
  subst hr hp; exact ⟨rfl, hb⟩
theorem RqPost.good {W W' : World} {k n : Nat} {p : Int} {r : Nat ⊕ (List UInt8 × Nat)} {b : List UInt8} {v : Value} (hr : r = .inr (b, n)) (hp : p = ((k + 1 + n : Nat) : Int)) (hb : HB W W' v b) : RqPost W k r (.returned (.tuple #[v, .int .i64 p, .bool true])) W' := by
  subst hr hp; exact ⟨_, rfl, hb⟩
theorem wth_none {c : UInt8} (h : T.hexV c = none) : wth c = -1 := by unfold wth; rw [h]
theorem wth_some {c : UInt8} {d : Nat} (h : T.hexV c = some d) : wth c = (d : Int) := by unfold wth; rw [h]

set_option maxRecDepth 20000 in
set_option maxHeartbeats 4000000 in
theorem rquoted_any (W : World) (s : ByteArray) (k : Nat) (hs : s.size ≤ 1000000000) (hk : k < s.size) :
    Calls Tryz.prog 52 #[.string s, .int .i64 (k : Int)] W fun e W' => RqPost W k (T.unq (s.data.toList.drop (k + 1))) e W' := by
  obtain ⟨i0, hi, hz0, hz1, hz2⟩ := info_parts Tryz.info5
  generalize hr0 : T.unq (s.data.toList.drop (k + 1)) = r0
  have b1 : (k : Int) < (s.size : Int) := by omega
  have b2 : (s.size : Int) ≤ 1000000000 := by omega
  have HR : Hid (T.unq (s.data.toList.drop (k + 1)) = r0) := hr0
  clear hr0
  go_enter Tryz.func52, Tryz.ntmps52
  go_wp2_with fail
  go_loopw [7, 8] (fun v i wr => ∃ (p : Nat) (l : List UInt8), k + 1 ≤ p ∧ p ≤ s.size ∧ i = .int .i64 p ∧ l.length ≤ p ∧ HB W wr v l ∧ Hid (r0 = T.sp (p - (k + 1)) l (T.unq (s.data.toList.drop p)))) (fun _ i _ => s.size - (intOf i).toNat)
  case atStart => exact ⟨k + 1, [], Nat.le_refl _, by omega, by go_num, Nat.zero_le _, HB.start W, by rw [Nat.sub_self, T.sp_zero]; exact HR.out.symm⟩
  case round =>
    obtain ⟨p, l, hp1, hp2, rfl, hl, F, R⟩ := hrel
    have c1 : (p : Int) ≤ (s.size : Int) := by omega
    by_cases hlt : p < s.size
    · have c2 : (p : Int) < (s.size : Int) := by omega
      have hd := drop_get s p hlt
      have HKP : Hid (k + 1 ≤ p ∧ p ≤ s.size ∧ l.length ≤ p) := ⟨hp1, hp2, hl⟩
      by_cases h34 : s[p].toNat = 34
      · have e34 : ((s[p].toNat : Int) != 34) = false := by rw [h34]; rfl
        have H : Hid (r0 = .inr (l, p - (k + 1) + 1)) := hid <| by
          have := R.out
          rw [hd, T.unq_end _ _ h34] at this
          simpa [T.sp] using this
        clear hd h34 R HR hp1 hp2 hl
        go_wp2_with fail
        go_ret3
        exact RqPost.good H.out (by have := HKP.out; omega) F
      · have e34 : ((s[p].toNat : Int) != 34) = true := by simp; omega
        have HC := hid (rplain_any s[p])
        cases hit : T.itself s[p] with
        | true =>
          have H : Hid (r0 = T.sp (p + 1 - (k + 1)) (l ++ [s[p]]) (T.unq (s.data.toList.drop (p + 1)))) := hid <| by
            have := R.out
            rw [hd, T.unq_self _ _ hit, T.sp_sp] at this
            rw [this, show p - (k + 1) + 1 = p + 1 - (k + 1) by omega]
          rw [hit] at HC
          clear hd h34 R HR hit hp1 hp2 hl
          go_wp2_with (first | (go_at_call 74; refine (HC.out _).mono ?_; rintro e w' ⟨rfl, rfl⟩) | (at_builtin; refine wpList_append_bytes rfl _ _ _ rfl i0 Tryz.underlying26 hi hz0 hz1 hz2 _ _ rfl (F.alloc _) _ _ _ [s[p]] rfl rfl (cells_new _ _ _ _ rfl) (by have := HKP.out; simp; omega) ?_; intro v1 w1 F1))
          go_roundw
          case rel => exact ⟨p + 1, l ++ [s[p]], by have := HKP.out; omega, by omega, by go_num, by have := HKP.out; simp; omega, F1, H⟩
          case measure => simp [intOf]; omega
        | false =>
          rw [hit] at HC
          by_cases h92 : s[p].toNat = 92
          · have e92 : ((s[p].toNat : Int) == 92) = true := by rw [h92]; rfl
            have hno : T.esc (s.data.toList.drop (p + 1)) = none → Hid (r0 = .inl (p - (k + 1))) := fun he => hid <| by
              have := R.out
              rw [hd, T.unq_noesc _ _ h92 he] at this
              exact this
            have hyes : ∀ x, T.esc (s.data.toList.drop (p + 1)) = some x → Hid (r0 = T.sp (p + 4 - (k + 1)) (l ++ [x]) (T.unq (s.data.toList.drop (p + 4)))) := fun x he => hid <| by
              have := R.out
              rw [hd, T.unq_esc _ _ x h92 he, T.sp_sp, List.drop_drop] at this
              rw [this, show p - (k + 1) + 4 = p + 4 - (k + 1) by omega]
            clear hd h34 R HR hit hp1 hp2 hl h92
            by_cases h4 : p + 4 ≤ s.size
            · have d1 : (p : Int) + 3 < (s.size : Int) := by omega
              have he4 := esc_at s p h4
              by_cases hx : s[p + 1].toNat = 120
              · have ex : ((s[p + 1].toNat : Int) == 120) = true := by rw [hx]; rfl
                rw [if_pos hx] at he4
                cases h2 : T.hexV s[p + 2] with
                | none =>
                  have hw := wth_none h2
                  have H := hno (by rw [he4, h2])
                  clear hno hyes he4 h2 hx
                  go_wp2_with (first | (go_at_call 74; refine (HC.out _).mono ?_; rintro e w' ⟨rfl, rfl⟩) | (go_at_call 60; refine (worth_any _ _).mono ?_; rintro e w' ⟨rfl, rfl⟩))
                  go_ret3
                  exact RqPost.bad H.out (by have := HKP.out; omega) F.below
                | some a =>
                  have hw := wth_some h2
                  have a16 := (T.hexV_lt h2).1
                  cases h3 : T.hexV s[p + 3] with
                  | none =>
                    have hw3 := wth_none h3
                    have H := hno (by rw [he4, h2, h3])
                    have a0 : (0 : Int) ≤ (a : Int) := by omega
                    clear hno hyes he4 h2 hx h3 a16
                    go_wp2_with (first | (go_at_call 74; refine (HC.out _).mono ?_; rintro e w' ⟨rfl, rfl⟩) | (go_at_call 60; refine (worth_any _ _).mono ?_; rintro e w' ⟨rfl, rfl⟩))
                    go_ret3
                    exact RqPost.bad H.out (by have := HKP.out; omega) F.below
                  | some b =>
                    have hw3 := wth_some h3
                    have b16 := (T.hexV_lt h3).1
                    obtain ⟨x, hxx⟩ : ∃ x, UInt8.ofNat (a * 16 + b) = x := ⟨_, rfl⟩
                    have hxn : (x.toNat : Int) = 16 * (a : Int) + (b : Int) := by rw [← hxx, UInt8.toNat_ofNat']; omega
                    have HXN : Hid ((x.toNat : Int) = 16 * (a : Int) + (b : Int)) := hxn
                    clear hxn
                    rw [h2, h3] at he4
                    simp only [hxx] at he4
                    have HE4 : Hid (T.esc (s.data.toList.drop (p + 1)) = if T.itself x then none else some x) := he4
                    have a0 : (0 : Int) ≤ (a : Int) := by omega
                    have b0 : (0 : Int) ≤ (b : Int) := by omega
                    have a1 : (a : Int) < 16 := by omega
                    have b3 : (b : Int) < 16 := by omega
                    have HCX := hid (rplain_any x)
                    clear h2 hx h3 hxx he4 a16 b16
                    go_wp2_with (first | (go_at_call 74; refine (HC.out _).mono ?_; rintro e w' ⟨rfl, rfl⟩) | (go_at_call 60; refine (worth_any _ _).mono ?_; rintro e w' ⟨rfl, rfl⟩))
                    have q1 := wrap_sm ((p : Int) + 2) (by omega) (by omega)
                    have q2 := wrap_sm ((p : Int) + 3) (by omega) (by omega)
                    have q3 := wrap_sm (16 * (a : Int)) (by omega) (by omega)
                    have q4 := wrap_sm (16 * (a : Int) + (b : Int)) (by omega) (by omega)
                    have q5 : IntKind.u8.wrap (16 * (a : Int) + (b : Int)) = (x.toNat : Int) := by rw [HXN.out]; simp [IntKind.wrap, IntKind.signed, IntKind.bits]; omega
                    have t1 : ((p : Int) + 2).toNat = p + 2 := by omega
                    have t2 : ((p : Int) + 3).toNat = p + 3 := by omega
                    have z1 : 0 ≤ (p : Int) + 2 := by omega
                    have z2 : (p : Int) + 2 < (s.size : Int) := by omega
                    have z3 : 0 ≤ (p : Int) + 3 := by omega
                    have z4 : p + 2 < s.size := by omega
                    have z5 : p + 3 < s.size := by omega
                    refine wp_region_held_drew (S := fun x => x = wr.drew) (by kernel_rfl) rfl (fun hHeld => ?_)
                    refine tk 0 ⟨some 71, .move (.tmp 0), 9, "ref.go:83", #[], none⟩ (.string s) ?_
                    simp only [Act.put, List.setIfInBounds_toArray, List.set_cons_zero, List.set_cons_succ]
                    refine tk 1 ⟨some 72, .move (.tmp 8), 3, "ref.go:83", #[], none⟩ (.int .i64 (p : Int)) ?_
                    simp only [Act.put, List.setIfInBounds_toArray, List.set_cons_zero, List.set_cons_succ]
                    refine tk 2 ⟨some 73, .binOp .add 3 (.tmp 72) (.const (.int .i64 2)) 3, 3, "ref.go:83", #[⟨1, .data⟩], none⟩ (.int .i64 ((p : Int) + 2)) ?_
                    simp only [Act.put, List.setIfInBounds_toArray, List.set_cons_zero, List.set_cons_succ]
                    refine tk 3 ⟨some 74, .index 9 (.tmp 71) (.tmp 73), 5, "ref.go:83", #[⟨0, .data⟩, ⟨2, .data⟩], none⟩ (.int .u8 (s[p + 2].toNat : Int)) ?_
                    simp only [Act.put, List.setIfInBounds_toArray, List.set_cons_zero, List.set_cons_succ]
                    refine tk 6 ⟨some 77, .move (.tmp 0), 9, "ref.go:83", #[], none⟩ (.string s) ?_
                    simp only [Act.put, List.setIfInBounds_toArray, List.set_cons_zero, List.set_cons_succ]
                    refine tk 7 ⟨some 78, .move (.tmp 8), 3, "ref.go:83", #[], none⟩ (.int .i64 (p : Int)) ?_
                    simp only [Act.put, List.setIfInBounds_toArray, List.set_cons_zero, List.set_cons_succ]
                    refine tk 8 ⟨some 79, .binOp .add 3 (.tmp 78) (.const (.int .i64 3)) 3, 3, "ref.go:83", #[⟨7, .data⟩], none⟩ (.int .i64 ((p : Int) + 3)) ?_
                    simp only [Act.put, List.setIfInBounds_toArray, List.set_cons_zero, List.set_cons_succ]
                    refine tk 9 ⟨some 80, .index 9 (.tmp 77) (.tmp 79), 5, "ref.go:83", #[⟨6, .data⟩, ⟨8, .data⟩], none⟩ (.int .u8 (s[p + 3].toNat : Int)) ?_
                    simp only [Act.put, List.setIfInBounds_toArray, List.set_cons_zero, List.set_cons_succ]
                    refine wpAnyH_ready (rs := [4]) (by kernel_rfl) (by simp) (AllReadyH.cons (o := ⟨some 75, .call { callee := .value (.func 60), args := #[.tmp 74], argTypes := #[5] }, 3, "ref.go:83", #[⟨3, .data⟩], none⟩) rfl (fun KQ hK => ?_) AllReadyH.nil)
                    go_simp
                    refine (worth_any _ _).mono ?_
                    rintro e w9 ⟨rfl, rfl⟩
                    rw [hw]
                    go_wp2_with fail
                    refine hK.out _ _ rfl (fun hHeld => ?_)
                    clear hK KQ
                    try simp only [Act.put, List.setIfInBounds_toArray, List.set_cons_zero, List.set_cons_succ]
                    refine tk 5 ⟨some 76, .binOp .mul 3 (.const (.int .i64 16)) (.tmp 75) 3, 3, "ref.go:83", #[⟨4, .data⟩], none⟩ (.int .i64 (16 * (a : Int))) ?_
                    simp only [Act.put, List.setIfInBounds_toArray, List.set_cons_zero, List.set_cons_succ]
                    refine wpAnyH_ready (rs := [10]) (by kernel_rfl) (by simp) (AllReadyH.cons (o := ⟨some 81, .call { callee := .value (.func 60), args := #[.tmp 80], argTypes := #[5] }, 3, "ref.go:83", #[⟨9, .data⟩, ⟨4, .chain⟩], none⟩) rfl (fun KQ hK => ?_) AllReadyH.nil)
                    go_simp
                    refine (worth_any _ _).mono ?_
                    rintro e w9 ⟨rfl, rfl⟩
                    rw [hw3]
                    go_wp2_with fail
                    refine hK.out _ _ rfl (fun hHeld => ?_)
                    clear hK KQ
                    try simp only [Act.put, List.setIfInBounds_toArray, List.set_cons_zero, List.set_cons_succ]
                    refine tk 11 ⟨some 82, .binOp .add 3 (.tmp 76) (.tmp 81) 3, 3, "ref.go:83", #[⟨5, .data⟩, ⟨10, .data⟩], none⟩ (.int .i64 (16 * (a : Int) + (b : Int))) ?_
                    simp only [Act.put, List.setIfInBounds_toArray, List.set_cons_zero, List.set_cons_succ]
                    refine tk 12 ⟨some 83, .convert 3 5 (.tmp 82), 5, "ref.go:83", #[⟨11, .data⟩], none⟩ (.int .u8 (x.toNat : Int)) ?_
                    simp only [Act.put, List.setIfInBounds_toArray, List.set_cons_zero, List.set_cons_succ]
                    refine wpAnyH_ready (rs := [13]) (by kernel_rfl) (by simp) (AllReadyH.cons (o := ⟨some 9, .assign (.tmp 83), 5, "ref.go:83", #[⟨12, .data⟩, ⟨10, .chain⟩, ⟨0, .phase⟩, ⟨1, .phase⟩, ⟨2, .phase⟩, ⟨3, .phase⟩, ⟨4, .phase⟩, ⟨5, .phase⟩, ⟨6, .phase⟩, ⟨7, .phase⟩, ⟨8, .phase⟩, ⟨9, .phase⟩, ⟨10, .phase⟩, ⟨11, .phase⟩, ⟨12, .phase⟩], none⟩) rfl (fun KQ hK => ?_) AllReadyH.nil)
                    go_simp
                    refine hK.out _ _ rfl (fun hHeld => ?_)
                    clear hK KQ
                    try simp only [Act.put, List.setIfInBounds_toArray, List.set_cons_zero, List.set_cons_succ]
                    refine wpAnyH_done (by kernel_rfl) ?_ _
                    clear hHeld q1 q2 q3 q4 q5 t1 t2 z1 z2 z3
                    have FD : HB W wr.drew u7 l := F.drew
                    clear F
                    generalize wr.drew = wd at *
                    cases hix : T.itself x with
                    | true =>
                      have H := hno (by rw [HE4.out, hix]; rfl)
                      rw [hix] at HCX
                      clear hno hyes HE4 hix
                      go_wp2_with (go_at_call 74; refine (HCX.out _).mono ?_; rintro e w' ⟨rfl, rfl⟩)
                      go_ret3
                      exact RqPost.bad H.out (by have := HKP.out; omega) FD.below
                    | false =>
                      have H := hyes x (by rw [HE4.out, hix]; rfl)
                      rw [hix] at HCX
                      clear hno hyes HE4 hix
                      go_wp2_with (first | (go_at_call 74; refine (HCX.out _).mono ?_; rintro e w' ⟨rfl, rfl⟩) | (at_builtin; refine wpList_append_bytes rfl _ _ _ rfl i0 Tryz.underlying26 hi hz0 hz1 hz2 _ _ rfl (FD.alloc _) _ _ _ [x] rfl rfl (cells_new _ _ _ _ rfl) (by have := HKP.out; simp; omega) ?_; intro v1 w1 F1))
                      go_roundw
                      case rel => exact ⟨p + 4, l ++ [x], by have := HKP.out; omega, by omega, by go_num, by have := HKP.out; simp; omega, F1, H⟩
                      case measure => simp [intOf]; omega
              · have ex : ((s[p + 1].toNat : Int) == 120) = false := by simp; omega
                rw [if_neg hx] at he4
                have H := hno he4
                clear hno hyes he4 hx
                go_wp2_with (go_at_call 74; refine (HC.out _).mono ?_; rintro e w' ⟨rfl, rfl⟩)
                go_ret3
                exact RqPost.bad H.out (by have := HKP.out; omega) F.below
            · have d1 : decide ((p : Int) + 3 < (s.size : Int)) = false := decide_eq_false (by omega)
              have d2 : (s.size : Int) ≤ (p : Int) + 3 := by omega
              have H := hno (esc_short s p (by omega))
              clear hno hyes h4
              go_wp2_with (go_at_call 74; refine (HC.out _).mono ?_; rintro e w' ⟨rfl, rfl⟩)
              go_ret3
              exact RqPost.bad H.out (by have := HKP.out; omega) F.below
          · have e92 : ((s[p].toNat : Int) == 92) = false := by simp; omega
            have H : Hid (r0 = .inl (p - (k + 1))) := hid <| by
              have := R.out
              rw [hd, T.unq_bad _ _ h34 h92 hit] at this
              exact this
            clear hd h34 R HR hit hp1 hp2 hl h92
            go_wp2_with (go_at_call 74; refine (HC.out _).mono ?_; rintro e w' ⟨rfl, rfl⟩)
            go_ret3
            exact RqPost.bad H.out (by have := HKP.out; omega) F.below
    · obtain rfl : p = s.size := by omega
      have H : Hid (r0 = .inl (s.size - (k + 1))) := hid <| by
        have := R.out
        rw [List.drop_eq_nil_of_le (by rw [size_list]; exact Nat.le_refl _), T.unq_nil] at this
        exact this
      have HKP : Hid (k + 1 ≤ s.size) := hp1
      clear R HR hp1 hp2 hl hlt
      go_wp2_with fail
      go_ret3
      exact RqPost.bad H.out (by have := HKP.out; omega) F.below
end Go.Proofs.YtbjinmlelchmgaaGreatDoor
