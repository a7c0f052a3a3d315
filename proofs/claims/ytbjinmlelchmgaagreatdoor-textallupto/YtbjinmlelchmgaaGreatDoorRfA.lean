/- The document's quoted (52). -/
import Derived.Test.YtbjinmlelchmgaaGreatDoorRf6
import Derived.Test.YtbjinmlelchmgaaGreatDoorUnqUnquote
import Derived.OwnWalk
namespace Go.Proofs.YtbjinmlelchmgaaGreatDoor
open Go.RowKit
def RqPost (W : World) (k : Nat) (r : Nat ⊕ (List UInt8 × Nat)) (e : Ending) (W' : World) : Prop :=
  match r with
  | .inl x => e = .returned (.tuple #[.slice none 0 0, .int .i64 ((k + 1 + x : Nat) : Int), .bool false]) ∧ Below W.heap.size W W'
  | .inr (b, n) => ∃ v, e = .returned (.tuple #[v, .int .i64 ((k + 1 + n : Nat) : Int), .bool true]) ∧ HB W W' v b
theorem RqPost.bad {W W' : World} {k x : Nat} {p : Int} {r : Nat ⊕ (List UInt8 × Nat)} (hr : r = .inl x) (hp : p = ((k + 1 + x : Nat) : Int)) (hb : Below W.heap.size W W') : RqPost W k r (.returned (.tuple #[.slice none 0 0, .int .i64 p, .bool false])) W' := by
  subst hr hp; exact ⟨rfl, hb⟩
theorem RqPost.good {W W' : World} {k n : Nat} {p : Int} {r : Nat ⊕ (List UInt8 × Nat)} {b : List UInt8} {v : Value} (hr : r = .inr (b, n)) (hp : p = ((k + 1 + n : Nat) : Int)) (hb : HB W W' v b) : RqPost W k r (.returned (.tuple #[v, .int .i64 p, .bool true])) W' := by
  subst hr hp; exact ⟨_, rfl, hb⟩
theorem wth_none {c : UInt8} (h : T.hexV c = none) : wth c = -1 := by unfold wth; rw [h]
theorem wth_some {c : UInt8} {d : Nat} (h : T.hexV c = some d) : wth c = (d : Int) := by unfold wth; rw [h]

set_option maxRecDepth 20000 in
set_option maxHeartbeats 4000000 in
theorem rquoted_any (W : World) (s : ByteArray) (k : Nat) (hs : s.size ≤ 1000000000) (hk : k < s.size) :
    Calls Tryz.prog 52 #[.string s, .int .i64 (k : Int)] W fun e W' => RqPost W k (T.unq (s.data.toList.drop (k + 1))) e W' := by
  obtain ⟨i0, hi, hz0, hz1, hz2⟩ := info_parts Tryz.info5
  generalize hr0 : T.unq (s.data.toList.drop (k + 1)) = r0
  have b1 : (k : Int) < (s.size : Int) := by omega
  have b2 : (s.size : Int) ≤ 1000000000 := by omega
  have HR : Hid (T.unq (s.data.toList.drop (k + 1)) = r0) := hr0
  clear hr0
  go_enter Tryz.func52, Tryz.ntmps52
  go_wp2_with fail
  go_loopw [7, 8] (fun v i wr => ∃ (p : Nat) (l : List UInt8), k + 1 ≤ p ∧ p ≤ s.size ∧ i = .int .i64 p ∧ l.length ≤ p ∧ HB W wr v l ∧ Hid (r0 = T.sp (p - (k + 1)) l (T.unq (s.data.toList.drop p)))) (fun _ i _ => s.size - (intOf i).toNat)
  case atStart => exact ⟨k + 1, [], Nat.le_refl _, by omega, by go_num, Nat.zero_le _, HB.start W, by rw [Nat.sub_self, T.sp_zero]; exact HR.out.symm⟩
  case round =>
    obtain ⟨p, l, hp1, hp2, rfl, hl, F, R⟩ := hrel
    have c1 : (p : Int) ≤ (s.size : Int) := by omega
    by_cases hlt : p < s.size
    · have c2 : (p : Int) < (s.size : Int) := by omega
      have hd := drop_get s p hlt
      have HKP : Hid (k + 1 ≤ p ∧ p ≤ s.size ∧ l.length ≤ p) := ⟨hp1, hp2, hl⟩
      by_cases h34 : s[p].toNat = 34
      · have e34 : ((s[p].toNat : Int) != 34) = false := by rw [h34]; rfl
        have H : Hid (r0 = .inr (l, p - (k + 1) + 1)) := hid <| by
          have := R.out
          rw [hd, T.unq_end _ _ h34] at this
          simpa [T.sp] using this
        clear hd h34 R HR hp1 hp2 hl
        go_wp2_with fail
        go_ret3
        exact RqPost.good H.out (by have := HKP.out; omega) F
      · have e34 : ((s[p].toNat : Int) != 34) = true := by simp; omega
        have HC := hid (rplain_any s[p])
        cases hit : T.itself s[p] with
        | true =>
          have H : Hid (r0 = T.sp (p + 1 - (k + 1)) (l ++ [s[p]]) (T.unq (s.data.toList.drop (p + 1)))) := hid <| by
            have := R.out
            rw [hd, T.unq_self _ _ hit, T.sp_sp] at this
            rw [this, show p - (k + 1) + 1 = p + 1 - (k + 1) by omega]
          rw [hit] at HC
          clear hd h34 R HR hit hp1 hp2 hl
          go_wp2_with (first | (go_at_call 74; refine (HC.out _).mono ?_; rintro e w' ⟨rfl, rfl⟩) | (at_builtin; refine wpList_append_bytes rfl _ _ _ rfl i0 Tryz.underlying26 hi hz0 hz1 hz2 _ _ rfl (F.alloc _) _ _ _ [s[p]] rfl rfl (cells_new _ _ _ _ rfl) (by have := HKP.out; simp; omega) ?_; intro v1 w1 F1))
          go_roundw
          case rel => exact ⟨p + 1, l ++ [s[p]], by have := HKP.out; omega, by omega, by go_num, by have := HKP.out; simp; omega, F1, H⟩
          case measure => simp [intOf]; omega
        | false =>
          rw [hit] at HC
          by_cases h92 : s[p].toNat = 92
          · have e92 : ((s[p].toNat : Int) == 92) = true := by rw [h92]; rfl
            have hno : T.esc (s.data.toList.drop (p + 1)) = none → Hid (r0 = .inl (p - (k + 1))) := fun he => hid <| by
              have := R.out
              rw [hd, T.unq_noesc _ _ h92 he] at this
              exact this
            have hyes : ∀ x, T.esc (s.data.toList.drop (p + 1)) = some x → Hid (r0 = T.sp (p + 4 - (k + 1)) (l ++ [x]) (T.unq (s.data.toList.drop (p + 4)))) := fun x he => hid <| by
              have := R.out
              rw [hd, T.unq_esc _ _ x h92 he, T.sp_sp, List.drop_drop] at this
              rw [this, show p - (k + 1) + 4 = p + 4 - (k + 1) by omega]
            clear hd h34 R HR hit hp1 hp2 hl h92
            by_cases h4 : p + 4 ≤ s.size
            · have d1 : (p : Int) + 3 < (s.size : Int) := by omega
              have he4 := esc_at s p h4
              by_cases hx : s[p + 1].toNat = 120
              · have ex : ((s[p + 1].toNat : Int) == 120) = true := by rw [hx]; rfl
                rw [if_pos hx] at he4
                cases h2 : T.hexV s[p + 2] with
                | none =>
                  have hw := wth_none h2
                  have H := hno (by rw [he4, h2])
                  clear hno hyes he4 h2 hx
                  go_wp2_with (first | (go_at_call 74; refine (HC.out _).mono ?_; rintro e w' ⟨rfl, rfl⟩) | (go_at_call 60; refine (worth_any _ _).mono ?_; rintro e w' ⟨rfl, rfl⟩))
                  go_ret3
                  exact RqPost.bad H.out (by have := HKP.out; omega) F.below
                | some a =>
                  have hw := wth_some h2
                  have a16 := (T.hexV_lt h2).1
                  cases h3 : T.hexV s[p + 3] with
                  | none =>
                    have hw3 := wth_none h3
                    have H := hno (by rw [he4, h2, h3])
                    have a0 : (0 : Int) ≤ (a : Int) := by omega
                    clear hno hyes he4 h2 hx h3 a16
                    go_wp2_with (first | (go_at_call 74; refine (HC.out _).mono ?_; rintro e w' ⟨rfl, rfl⟩) | (go_at_call 60; refine (worth_any _ _).mono ?_; rintro e w' ⟨rfl, rfl⟩))
                    go_ret3
                    exact RqPost.bad H.out (by have := HKP.out; omega) F.below
                  | some b =>
                    have hw3 := wth_some h3
                    have b16 := (T.hexV_lt h3).1
                    obtain ⟨x, hxx⟩ : ∃ x, UInt8.ofNat (a * 16 + b) = x := ⟨_, rfl⟩
                    have hxn : (x.toNat : Int) = 16 * (a : Int) + (b : Int) := by rw [← hxx, UInt8.toNat_ofNat']; omega
                    have HXN : Hid ((x.toNat : Int) = 16 * (a : Int) + (b : Int)) := hxn
                    clear hxn
                    rw [h2, h3] at he4
                    simp only [hxx] at he4
                    have HE4 : Hid (T.esc (s.data.toList.drop (p + 1)) = if T.itself x then none else some x) := he4
                    have a0 : (0 : Int) ≤ (a : Int) := by omega
                    have b0 : (0 : Int) ≤ (b : Int) := by omega
                    have a1 : (a : Int) < 16 := by omega
                    have b3 : (b : Int) < 16 := by omega
                    have HCX := hid (rplain_any x)
                    clear h2 hx h3 hxx he4 a16 b16
                    go_wp2_with (first | (go_at_call 74; refine (HC.out _).mono ?_; rintro e w' ⟨rfl, rfl⟩) | (go_at_call 60; refine (worth_any _ _).mono ?_; rintro e w' ⟨rfl, rfl⟩))
                    have q1 := wrap_sm ((p : Int) + 2) (by omega) (by omega)
                    have q2 := wrap_sm ((p : Int) + 3) (by omega) (by omega)
                    have q3 := wrap_sm (16 * (a : Int)) (by omega) (by omega)
                    have q4 := wrap_sm (16 * (a : Int) + (b : Int)) (by omega) (by omega)
                    have q5 : IntKind.u8.wrap (16 * (a : Int) + (b : Int)) = (x.toNat : Int) := by rw [HXN.out]; simp [IntKind.wrap, IntKind.signed, IntKind.bits]; omega
                    have t1 : ((p : Int) + 2).toNat = p + 2 := by omega
                    have t2 : ((p : Int) + 3).toNat = p + 3 := by omega
                    have z1 : 0 ≤ (p : Int) + 2 := by omega
                    have z2 : (p : Int) + 2 < (s.size : Int) := by omega
                    have z3 : 0 ≤ (p : Int) + 3 := by omega
                    have z4 : p + 2 < s.size := by omega
                    have z5 : p + 3 < s.size := by omega
                    refine wp_region_held_drew (S := fun x => x = wr.drew) (by kernel_rfl) rfl (fun hHeld => ?_)
                    refine wpAnyH_take (i := 0) (oi := { dst := some 71, op := Op.move (Operand.tmp 0), type := 9, pos := "ref.go:83", after := #[], guard := none }) (v := .string s) rfl (by kernel_rfl) (by kernel_rfl) (by kernel_rfl) (fun _ _ _ h => h) (Or.inl ⟨by rfl, by intro w hSw; go_simp⟩) (by assumption) ?_
                    simp only [Act.put, List.setIfInBounds_toArray, List.set_cons_zero, List.set_cons_succ]
                    refine wpAnyH_take (i := 1) (oi := { dst := some 72, op := Op.move (Operand.tmp 8), type := 3, pos := "ref.go:83", after := #[], guard := none }) (v := .int .i64 (p : Int)) rfl (by kernel_rfl) (by kernel_rfl) (by kernel_rfl) (fun _ _ _ h => h) (Or.inl ⟨by rfl, by intro w hSw; go_simp⟩) (by assumption) ?_
                    simp only [Act.put, List.setIfInBounds_toArray, List.set_cons_zero, List.set_cons_succ]
                    refine wpAnyH_take (i := 2) (oi := { dst := some 73, op := Op.binOp BinOp.add 3 (Operand.tmp 72) (Operand.const (Value.int IntKind.i64 2)) 3, type := 3, pos := "ref.go:83", after := #[{ on := 1, ground := Ground.data }], guard := none }) (v := .int .i64 ((p : Int) + 2)) rfl (by kernel_rfl) (by kernel_rfl) (by kernel_rfl) (fun _ _ _ h => h) (Or.inl ⟨by rfl, by intro w hSw; go_simp⟩) (by assumption) ?_
                    simp only [Act.put, List.setIfInBounds_toArray, List.set_cons_zero, List.set_cons_succ]
                    refine wpAnyH_take (i := 3) (oi := { dst := some 74, op := Op.index 9 (Operand.tmp 71) (Operand.tmp 73), type := 5, pos := "ref.go:83", after := #[{ on := 0, ground := Ground.data }, { on := 2, ground := Ground.data }], guard := none }) (v := .int .u8 (s[p + 2].toNat : Int)) rfl (by kernel_rfl) (by kernel_rfl) (by kernel_rfl) (fun _ _ _ h => h) (Or.inl ⟨by rfl, by intro w hSw; go_simp⟩) (by assumption) ?_
                    simp only [Act.put, List.setIfInBounds_toArray, List.set_cons_zero, List.set_cons_succ]
                    refine wpAnyH_take (i := 6) (oi := { dst := some 77, op := Op.move (Operand.tmp 0), type := 9, pos := "ref.go:83", after := #[], guard := none }) (v := .string s) rfl (by kernel_rfl) (by kernel_rfl) (by kernel_rfl) (fun _ _ _ h => h) (Or.inl ⟨by rfl, by intro w hSw; go_simp⟩) (by assumption) ?_
                    simp only [Act.put, List.setIfInBounds_toArray, List.set_cons_zero, List.set_cons_succ]
                    refine wpAnyH_take (i := 7) (oi := { dst := some 78, op := Op.move (Operand.tmp 8), type := 3, pos := "ref.go:83", after := #[], guard := none }) (v := .int .i64 (p : Int)) rfl (by kernel_rfl) (by kernel_rfl) (by kernel_rfl) (fun _ _ _ h => h) (Or.inl ⟨by rfl, by intro w hSw; go_simp⟩) (by assumption) ?_
                    simp only [Act.put, List.setIfInBounds_toArray, List.set_cons_zero, List.set_cons_succ]
                    refine wpAnyH_take (i := 8) (oi := { dst := some 79, op := Op.binOp BinOp.add 3 (Operand.tmp 78) (Operand.const (Value.int IntKind.i64 3)) 3, type := 3, pos := "ref.go:83", after := #[{ on := 7, ground := Ground.data }], guard := none }) (v := .int .i64 ((p : Int) + 3)) rfl (by kernel_rfl) (by kernel_rfl) (by kernel_rfl) (fun _ _ _ h => h) (Or.inl ⟨by rfl, by intro w hSw; go_simp⟩) (by assumption) ?_
                    simp only [Act.put, List.setIfInBounds_toArray, List.set_cons_zero, List.set_cons_succ]
                    refine wpAnyH_take (i := 9) (oi := { dst := some 80, op := Op.index 9 (Operand.tmp 77) (Operand.tmp 79), type := 5, pos := "ref.go:83", after := #[{ on := 6, ground := Ground.data }, { on := 8, ground := Ground.data }], guard := none }) (v := .int .u8 (s[p + 3].toNat : Int)) rfl (by kernel_rfl) (by kernel_rfl) (by kernel_rfl) (fun _ _ _ h => h) (Or.inl ⟨by rfl, by intro w hSw; go_simp⟩) (by assumption) ?_
                    simp only [Act.put, List.setIfInBounds_toArray, List.set_cons_zero, List.set_cons_succ]
                    refine wpAnyH_ready (rs := [4]) (by kernel_rfl) (by simp) (AllReadyH.cons (o := { dst := some 75, op := Op.call { callee := Callee.value (Operand.func 60), args := #[Operand.tmp 74], argTypes := #[5] }, type := 3, pos := "ref.go:83", after := #[{ on := 3, ground := Ground.data }], guard := none }) rfl (fun KQ hK => ?_) AllReadyH.nil)
                    go_simp
                    refine (worth_any _ _).mono ?_
                    rintro e w9 ⟨rfl, rfl⟩
                    rw [hw]
                    go_wp2_with fail
                    refine hK.out _ _ rfl (fun hHeld => ?_)
                    clear hK KQ
                    try simp only [Act.put, List.setIfInBounds_toArray, List.set_cons_zero, List.set_cons_succ]
                    refine wpAnyH_take (i := 5) (oi := { dst := some 76, op := Op.binOp BinOp.mul 3 (Operand.const (Value.int IntKind.i64 16)) (Operand.tmp 75) 3, type := 3, pos := "ref.go:83", after := #[{ on := 4, ground := Ground.data }], guard := none }) (v := .int .i64 (16 * (a : Int))) rfl (by kernel_rfl) (by kernel_rfl) (by kernel_rfl) (fun _ _ _ h => h) (Or.inl ⟨by rfl, by intro w hSw; go_simp⟩) (by assumption) ?_
                    simp only [Act.put, List.setIfInBounds_toArray, List.set_cons_zero, List.set_cons_succ]
                    refine wpAnyH_ready (rs := [10]) (by kernel_rfl) (by simp) (AllReadyH.cons (o := { dst := some 81, op := Op.call { callee := Callee.value (Operand.func 60), args := #[Operand.tmp 80], argTypes := #[5] }, type := 3, pos := "ref.go:83", after := #[{ on := 9, ground := Ground.data }, { on := 4, ground := Ground.chain }], guard := none }) rfl (fun KQ hK => ?_) AllReadyH.nil)
                    go_simp
                    refine (worth_any _ _).mono ?_
                    rintro e w9 ⟨rfl, rfl⟩
                    rw [hw3]
                    go_wp2_with fail
                    refine hK.out _ _ rfl (fun hHeld => ?_)
                    clear hK KQ
                    try simp only [Act.put, List.setIfInBounds_toArray, List.set_cons_zero, List.set_cons_succ]
                    refine wpAnyH_take (i := 11) (oi := { dst := some 82, op := Op.binOp BinOp.add 3 (Operand.tmp 76) (Operand.tmp 81) 3, type := 3, pos := "ref.go:83", after := #[{ on := 5, ground := Ground.data }, { on := 10, ground := Ground.data }], guard := none }) (v := .int .i64 (16 * (a : Int) + (b : Int))) rfl (by kernel_rfl) (by kernel_rfl) (by kernel_rfl) (fun _ _ _ h => h) (Or.inl ⟨by rfl, by intro w hSw; go_simp⟩) (by assumption) ?_
                    simp only [Act.put, List.setIfInBounds_toArray, List.set_cons_zero, List.set_cons_succ]
                    refine wpAnyH_take (i := 12) (oi := { dst := some 83, op := Op.convert 3 5 (Operand.tmp 82), type := 5, pos := "ref.go:83", after := #[{ on := 11, ground := Ground.data }], guard := none }) (v := .int .u8 (x.toNat : Int)) rfl (by kernel_rfl) (by kernel_rfl) (by kernel_rfl) (fun _ _ _ h => h) (Or.inl ⟨by rfl, by intro w hSw; go_simp⟩) (by assumption) ?_
                    simp only [Act.put, List.setIfInBounds_toArray, List.set_cons_zero, List.set_cons_succ]
                    refine wpAnyH_ready (rs := [13]) (by kernel_rfl) (by simp) (AllReadyH.cons (o := { dst := some 9, op := Op.assign (Operand.tmp 83), type := 5, pos := "ref.go:83", after := #[{ on := 12, ground := Ground.data }, { on := 10, ground := Ground.chain }, { on := 0, ground := Ground.phase }, { on := 1, ground := Ground.phase }, { on := 2, ground := Ground.phase }, { on := 3, ground := Ground.phase }, { on := 4, ground := Ground.phase }, { on := 5, ground := Ground.phase }, { on := 6, ground := Ground.phase }, { on := 7, ground := Ground.phase }, { on := 8, ground := Ground.phase }, { on := 9, ground := Ground.phase }, { on := 10, ground := Ground.phase }, { on := 11, ground := Ground.phase }, { on := 12, ground := Ground.phase }], guard := none }) rfl (fun KQ hK => ?_) AllReadyH.nil)
                    go_simp
                    refine hK.out _ _ rfl (fun hHeld => ?_)
                    clear hK KQ
                    try simp only [Act.put, List.setIfInBounds_toArray, List.set_cons_zero, List.set_cons_succ]
                    refine wpAnyH_done (by kernel_rfl) ?_ _
                    clear hHeld q1 q2 q3 q4 q5 t1 t2 z1 z2 z3
                    have FD : HB W wr.drew u7 l := F.drew
                    clear F
                    generalize wr.drew = wd at *
                    cases hix : T.itself x with
                    | true =>
                      have H := hno (by rw [HE4.out, hix]; rfl)
                      rw [hix] at HCX
                      clear hno hyes HE4 hix
                      go_wp2_with (go_at_call 74; refine (HCX.out _).mono ?_; rintro e w' ⟨rfl, rfl⟩)
                      go_ret3
                      exact RqPost.bad H.out (by have := HKP.out; omega) FD.below
                    | false =>
                      have H := hyes x (by rw [HE4.out, hix]; rfl)
                      rw [hix] at HCX
                      clear hno hyes HE4 hix
                      go_wp2_with (first | (go_at_call 74; refine (HCX.out _).mono ?_; rintro e w' ⟨rfl, rfl⟩) | (at_builtin; refine wpList_append_bytes rfl _ _ _ rfl i0 Tryz.underlying26 hi hz0 hz1 hz2 _ _ rfl (FD.alloc _) _ _ _ [x] rfl rfl (cells_new _ _ _ _ rfl) (by have := HKP.out; simp; omega) ?_; intro v1 w1 F1))
                      go_roundw
                      case rel => exact ⟨p + 4, l ++ [x], by have := HKP.out; omega, by omega, by go_num, by have := HKP.out; simp; omega, F1, H⟩
                      case measure => simp [intOf]; omega
              · have ex : ((s[p + 1].toNat : Int) == 120) = false := by simp; omega
                rw [if_neg hx] at he4
                have H := hno he4
                clear hno hyes he4 hx
                go_wp2_with (go_at_call 74; refine (HC.out _).mono ?_; rintro e w' ⟨rfl, rfl⟩)
                go_ret3
                exact RqPost.bad H.out (by have := HKP.out; omega) F.below
            · have d1 : decide ((p : Int) + 3 < (s.size : Int)) = false := decide_eq_false (by omega)
              have d2 : (s.size : Int) ≤ (p : Int) + 3 := by omega
              have H := hno (esc_short s p (by omega))
              clear hno hyes h4
              go_wp2_with (go_at_call 74; refine (HC.out _).mono ?_; rintro e w' ⟨rfl, rfl⟩)
              go_ret3
              exact RqPost.bad H.out (by have := HKP.out; omega) F.below
          · have e92 : ((s[p].toNat : Int) == 92) = false := by simp; omega
            have H : Hid (r0 = .inl (p - (k + 1))) := hid <| by
              have := R.out
              rw [hd, T.unq_bad _ _ h34 h92 hit] at this
              exact this
            clear hd h34 R HR hit hp1 hp2 hl h92
            go_wp2_with (go_at_call 74; refine (HC.out _).mono ?_; rintro e w' ⟨rfl, rfl⟩)
            go_ret3
            exact RqPost.bad H.out (by have := HKP.out; omega) F.below
    · obtain rfl : p = s.size := by omega
      have H : Hid (r0 = .inl (s.size - (k + 1))) := hid <| by
        have := R.out
        rw [List.drop_eq_nil_of_le (by rw [size_list]; exact Nat.le_refl _), T.unq_nil] at this
        exact this
      have HKP : Hid (k + 1 ≤ s.size) := hp1
      clear R HR hp1 hp2 hl hlt
      go_wp2_with fail
      go_ret3
      exact RqPost.bad H.out (by have := HKP.out; omega) F.below
end Go.Proofs.YtbjinmlelchmgaaGreatDoor
