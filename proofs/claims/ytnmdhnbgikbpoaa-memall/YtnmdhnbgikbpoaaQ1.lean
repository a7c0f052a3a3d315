/- The law's same 57, lent 65, words 64. -/
import Derived.Test.YtnmdhnbgikbpoaaQ0
import Derived.Laws.AppendOwnNone
import Derived.Deep.DeepCutAuto
namespace Go.Proofs.Ytnmdhnbgikbpoaa
open Go.RowKit
/-- A list of words to be read. -/
def SrcL (w : World) (ao : Option Addr) (L : List Int) : Prop := L = [] ∨ ∃ g o, ao = some ⟨g, o, none⟩ ∧ g < w.heap.size ∧ ∀ j u, (u32s L)[j]? = some u → w.cell? ⟨g, o + j, none⟩ = some u
theorem SrcL.on {w w' : World} {ao : Option Addr} {L : List Int} (h : SrcL w ao L) (hb : Below w.heap.size w w') : SrcL w' ao L := by
  rcases h with h | ⟨g, o, h1, h2, h3⟩
  · exact .inl h
  · exact .inr ⟨g, o, h1, Nat.lt_of_lt_of_le h2 hb.size, fun j u hu => by rw [hb.cell (p := ⟨g, o + j, none⟩) h2]; exact h3 j u hu⟩
theorem SrcL.wd {w : World} {g o : Nat} {L : List Int} (h : ∀ j u, (u32s L)[j]? = some u → w.cell? ⟨g, o + j, none⟩ = some u) (j : Nat) (hj : j < L.length) : w.cell? ⟨g, o + j, none⟩ = some (.int .u32 (wd L j)) := by
  refine h j _ ?_
  rw [u32s, List.getElem?_map, List.getElem?_eq_getElem hj]
  simp [Go.Proofs.Ytnmdhnbgikbpoaa.wd, List.getD_eq_getElem?_getD, List.getElem?_eq_getElem hj]
theorem Hl.src {W w : World} {ao : Option Addr} {n c : Nat} {L : List Int} (h : Hl W w (.slice ao n c) L) : SrcL w ao L := by
  rcases Nat.eq_zero_or_pos L.length with h0 | hp
  · exact .inl (List.eq_nil_of_length_eq_zero h0)
  · obtain ⟨ao', c', e, hh⟩ := h.form
    obtain ⟨g, e2, h1, h2, _, h3⟩ := hh hp
    injection e with e3 _ _
    exact .inr ⟨g, 0, by rw [e3, e2], h2, fun j u hu => by rw [Nat.zero_add]; exact h3 j u hu⟩
set_option maxRecDepth 40000 in
set_option maxHeartbeats 4000000 in
theorem lsame_any (w : World) (ao bo : Option Addr) (A B : List Int) (ha : SrcL w ao A) (hb : SrcL w bo B) (c c' : Nat) (na : A.length ≤ 140737488355328) (nb : B.length ≤ 140737488355328) :
    Calls Try.prog 57 #[.slice ao A.length c, .slice bo B.length c'] w fun x w' => x = .returned (.bool (decide (A = B))) ∧ Below w.heap.size w w' := by
  have n1 : (A.length : Int) ≤ 140737488355328 := by omega
  have n2 : (B.length : Int) ≤ 140737488355328 := by omega
  have HA := hid ha
  have HB := hid hb
  clear ha hb
  go_enter Try.func57, Try.ntmps57
  by_cases hl : A.length = B.length
  · have E := hid hl
    rw [← hl]
    clear hl
    go_wp2_with fail
    go_loopw [5] (fun i wr => ∃ j : Nat, j ≤ A.length ∧ i = .int .i64 (j : Int) ∧ Hid (∀ k, k < j → wd A k = wd B k) ∧ Hid (Below w.heap.size w wr)) (fun i _ => A.length - (intOf i).toNat)
    case atStart => exact ⟨0, Nat.zero_le _, rfl, hid (fun k hk => by omega), hid (Below.refl _ _)⟩
    case round =>
      obtain ⟨j, hj, rfl, HT, HQ⟩ := hrel
      by_cases hlt : j < A.length
      · have c1 : (j : Int) < (A.length : Int) := by omega
        rcases HA.out.on HQ.out with h | ⟨ga, oa, rfl, hga, hca⟩
        · rw [h] at hlt; simp at hlt
        rcases HB.out.on HQ.out with h | ⟨gb, ob, rfl, hgb, hcb⟩
        · have := E.out; rw [h, List.length_nil] at this; omega
        have y1 := SrcL.wd hca j hlt
        have y2 := SrcL.wd hcb j (by have := E.out; omega)
        have HZ : Hid (∀ x, Below wr.heap.size wr x → x.cell? ⟨ga, oa + j, none⟩ = some (.int .u32 (wd A j)) ∧ x.cell? ⟨gb, ob + j, none⟩ = some (.int .u32 (wd B j))) := hid (fun x hx => ⟨by rw [hx.cell (p := ⟨ga, oa + j, none⟩) hga]; exact y1, by rw [hx.cell (p := ⟨gb, ob + j, none⟩) hgb]; exact y2⟩)
        have HE : Hid (wd A j = wd B j → ∀ k, k < j + 1 → wd A k = wd B k) := hid (fun he k hk => by
          by_cases e : k = j
          · rw [e]; exact he
          · exact HT.out k (by omega))
        have HN : Hid (wd A j ≠ wd B j → decide (A = B) = false) := hid (fun he => by rw [decide_eq_false_iff_not]; intro e; exact he (by rw [e]))
        clear hca hcb y1 y2
        generalize wd A j = u1 at *
        generalize wd B j = u2 at *
        by_cases he : u1 = u2
        · have HE2 := hid (HE.out he)
          subst he
          clear HE HN
          go_wp2_with fail
          refine wp_region_held_drew (S := fun x => Below wr.heap.size wr x) (by kernel_rfl) ((Below.refl _ _).drew) (fun hHeld => ?_)
          refine wpAnyH_take (i := 0) (oi := { dst := some 17, op := Op.move (Operand.tmp 0), type := 24, pos := "law.go:34", after := #[], guard := none }) (v := .slice (some ⟨ga, oa, none⟩) A.length c) rfl (by kernel_rfl) (by kernel_rfl) (by kernel_rfl) (fun _ _ _ h => h) (Or.inl ⟨by rfl, by intro w hSw; go_simp⟩) (by assumption) ?_
          simp only [Act.put, List.setIfInBounds_toArray, List.set_cons_zero, List.set_cons_succ]
          refine wpAnyH_take (i := 1) (oi := { dst := some 18, op := Op.move (Operand.tmp 5), type := 3, pos := "law.go:34", after := #[], guard := none }) (v := .int .i64 (j : Int)) rfl (by kernel_rfl) (by kernel_rfl) (by kernel_rfl) (fun _ _ _ h => h) (Or.inl ⟨by rfl, by intro w hSw; go_simp⟩) (by assumption) ?_
          simp only [Act.put, List.setIfInBounds_toArray, List.set_cons_zero, List.set_cons_succ]
          refine wpAnyH_take (i := 2) (oi := { dst := some 19, op := Op.indexAddr 24 (Operand.tmp 17) (Operand.tmp 18), type := 0, pos := "law.go:34", after := #[{ on := 0, ground := Ground.data }, { on := 1, ground := Ground.data }], guard := none }) (v := .pointer (some ⟨ga, oa + j, none⟩)) rfl (by kernel_rfl) (by kernel_rfl) (by kernel_rfl) (fun _ _ _ h => h) (Or.inl ⟨by rfl, by intro w hSw; go_simp⟩) (by assumption) ?_
          simp only [Act.put, List.setIfInBounds_toArray, List.set_cons_zero, List.set_cons_succ]
          refine wpAnyH_take (i := 3) (oi := { dst := some 20, op := Op.load 32 (Operand.tmp 19), type := 32, pos := "law.go:34", after := #[{ on := 2, ground := Ground.data }], guard := none }) (v := .int .u32 u1) rfl (by kernel_rfl) (by kernel_rfl) (by kernel_rfl) (fun _ _ _ h => h) (Or.inl ⟨by rfl, by intro w hSw; have hcc := (HZ.out w hSw).1; go_simp⟩) (by assumption) ?_
          simp only [Act.put, List.setIfInBounds_toArray, List.set_cons_zero, List.set_cons_succ]
          refine wpAnyH_take (i := 4) (oi := { dst := some 21, op := Op.move (Operand.tmp 1), type := 24, pos := "law.go:34", after := #[], guard := none }) (v := (.slice (some ⟨gb, ob, none⟩) A.length c')) rfl (by kernel_rfl) (by kernel_rfl) (by kernel_rfl) (fun _ _ _ h => h) (Or.inl ⟨by rfl, by intro w hSw; go_simp⟩) (by assumption) ?_
          simp only [Act.put, List.setIfInBounds_toArray, List.set_cons_zero, List.set_cons_succ]
          refine wpAnyH_take (i := 5) (oi := { dst := some 22, op := Op.move (Operand.tmp 5), type := 3, pos := "law.go:34", after := #[], guard := none }) (v := .int .i64 (j : Int)) rfl (by kernel_rfl) (by kernel_rfl) (by kernel_rfl) (fun _ _ _ h => h) (Or.inl ⟨by rfl, by intro w hSw; go_simp⟩) (by assumption) ?_
          simp only [Act.put, List.setIfInBounds_toArray, List.set_cons_zero, List.set_cons_succ]
          refine wpAnyH_take (i := 6) (oi := { dst := some 23, op := Op.indexAddr 24 (Operand.tmp 21) (Operand.tmp 22), type := 0, pos := "law.go:34", after := #[{ on := 4, ground := Ground.data }, { on := 5, ground := Ground.data }], guard := none }) (v := .pointer (some ⟨gb, ob + j, none⟩)) rfl (by kernel_rfl) (by kernel_rfl) (by kernel_rfl) (fun _ _ _ h => h) (Or.inl ⟨by rfl, by intro w hSw; go_simp⟩) (by assumption) ?_
          simp only [Act.put, List.setIfInBounds_toArray, List.set_cons_zero, List.set_cons_succ]
          refine wpAnyH_take (i := 7) (oi := { dst := some 24, op := Op.load 32 (Operand.tmp 23), type := 32, pos := "law.go:34", after := #[{ on := 6, ground := Ground.data }], guard := none }) (v := .int .u32 u1) rfl (by kernel_rfl) (by kernel_rfl) (by kernel_rfl) (fun _ _ _ h => h) (Or.inl ⟨by rfl, by intro w hSw; have hcc := (HZ.out w hSw).2; go_simp⟩) (by assumption) ?_
          simp only [Act.put, List.setIfInBounds_toArray, List.set_cons_zero, List.set_cons_succ]
          refine wpAnyH_take (i := 8) (oi := { dst := some 25, op := Op.binOp BinOp.neq 32 (Operand.tmp 20) (Operand.tmp 24) 32, type := 4, pos := "law.go:34", after := #[{ on := 3, ground := Ground.data }, { on := 7, ground := Ground.data }], guard := none }) (v := .bool false) rfl (by kernel_rfl) (by kernel_rfl) (by kernel_rfl) (fun _ _ _ h => h) (Or.inl ⟨by rfl, by intro w hSw; go_simp⟩) (by assumption) ?_
          simp only [Act.put, List.setIfInBounds_toArray, List.set_cons_zero, List.set_cons_succ]
          refine wpAnyH_done (by kernel_rfl) ?_ _
          clear hHeld
          have HB5 : Hid (Below w.heap.size w wr.drew) := hid (below_on HQ.out (Below.refl _ _).drew)
          clear HZ
          generalize wr.drew = w6 at *
          go_wp2_with fail
          go_roundw
          case measure => simp [intOf] <;> omega
          case rel => exact ⟨j + 1, by omega, by go_num, HE2, HB5⟩
        · have HN2 := hid (HN.out he)
          clear HE HN
          go_wp2_with fail
          refine wp_region_held_drew (S := fun x => Below wr.heap.size wr x) (by kernel_rfl) ((Below.refl _ _).drew) (fun hHeld => ?_)
          refine wpAnyH_take (i := 0) (oi := { dst := some 17, op := Op.move (Operand.tmp 0), type := 24, pos := "law.go:34", after := #[], guard := none }) (v := .slice (some ⟨ga, oa, none⟩) A.length c) rfl (by kernel_rfl) (by kernel_rfl) (by kernel_rfl) (fun _ _ _ h => h) (Or.inl ⟨by rfl, by intro w hSw; go_simp⟩) (by assumption) ?_
          simp only [Act.put, List.setIfInBounds_toArray, List.set_cons_zero, List.set_cons_succ]
          refine wpAnyH_take (i := 1) (oi := { dst := some 18, op := Op.move (Operand.tmp 5), type := 3, pos := "law.go:34", after := #[], guard := none }) (v := .int .i64 (j : Int)) rfl (by kernel_rfl) (by kernel_rfl) (by kernel_rfl) (fun _ _ _ h => h) (Or.inl ⟨by rfl, by intro w hSw; go_simp⟩) (by assumption) ?_
          simp only [Act.put, List.setIfInBounds_toArray, List.set_cons_zero, List.set_cons_succ]
          refine wpAnyH_take (i := 2) (oi := { dst := some 19, op := Op.indexAddr 24 (Operand.tmp 17) (Operand.tmp 18), type := 0, pos := "law.go:34", after := #[{ on := 0, ground := Ground.data }, { on := 1, ground := Ground.data }], guard := none }) (v := .pointer (some ⟨ga, oa + j, none⟩)) rfl (by kernel_rfl) (by kernel_rfl) (by kernel_rfl) (fun _ _ _ h => h) (Or.inl ⟨by rfl, by intro w hSw; go_simp⟩) (by assumption) ?_
          simp only [Act.put, List.setIfInBounds_toArray, List.set_cons_zero, List.set_cons_succ]
          refine wpAnyH_take (i := 3) (oi := { dst := some 20, op := Op.load 32 (Operand.tmp 19), type := 32, pos := "law.go:34", after := #[{ on := 2, ground := Ground.data }], guard := none }) (v := .int .u32 u1) rfl (by kernel_rfl) (by kernel_rfl) (by kernel_rfl) (fun _ _ _ h => h) (Or.inl ⟨by rfl, by intro w hSw; have hcc := (HZ.out w hSw).1; go_simp⟩) (by assumption) ?_
          simp only [Act.put, List.setIfInBounds_toArray, List.set_cons_zero, List.set_cons_succ]
          refine wpAnyH_take (i := 4) (oi := { dst := some 21, op := Op.move (Operand.tmp 1), type := 24, pos := "law.go:34", after := #[], guard := none }) (v := (.slice (some ⟨gb, ob, none⟩) A.length c')) rfl (by kernel_rfl) (by kernel_rfl) (by kernel_rfl) (fun _ _ _ h => h) (Or.inl ⟨by rfl, by intro w hSw; go_simp⟩) (by assumption) ?_
          simp only [Act.put, List.setIfInBounds_toArray, List.set_cons_zero, List.set_cons_succ]
          refine wpAnyH_take (i := 5) (oi := { dst := some 22, op := Op.move (Operand.tmp 5), type := 3, pos := "law.go:34", after := #[], guard := none }) (v := .int .i64 (j : Int)) rfl (by kernel_rfl) (by kernel_rfl) (by kernel_rfl) (fun _ _ _ h => h) (Or.inl ⟨by rfl, by intro w hSw; go_simp⟩) (by assumption) ?_
          simp only [Act.put, List.setIfInBounds_toArray, List.set_cons_zero, List.set_cons_succ]
          refine wpAnyH_take (i := 6) (oi := { dst := some 23, op := Op.indexAddr 24 (Operand.tmp 21) (Operand.tmp 22), type := 0, pos := "law.go:34", after := #[{ on := 4, ground := Ground.data }, { on := 5, ground := Ground.data }], guard := none }) (v := .pointer (some ⟨gb, ob + j, none⟩)) rfl (by kernel_rfl) (by kernel_rfl) (by kernel_rfl) (fun _ _ _ h => h) (Or.inl ⟨by rfl, by intro w hSw; go_simp⟩) (by assumption) ?_
          simp only [Act.put, List.setIfInBounds_toArray, List.set_cons_zero, List.set_cons_succ]
          refine wpAnyH_take (i := 7) (oi := { dst := some 24, op := Op.load 32 (Operand.tmp 23), type := 32, pos := "law.go:34", after := #[{ on := 6, ground := Ground.data }], guard := none }) (v := .int .u32 u2) rfl (by kernel_rfl) (by kernel_rfl) (by kernel_rfl) (fun _ _ _ h => h) (Or.inl ⟨by rfl, by intro w hSw; have hcc := (HZ.out w hSw).2; go_simp⟩) (by assumption) ?_
          simp only [Act.put, List.setIfInBounds_toArray, List.set_cons_zero, List.set_cons_succ]
          refine wpAnyH_take (i := 8) (oi := { dst := some 25, op := Op.binOp BinOp.neq 32 (Operand.tmp 20) (Operand.tmp 24) 32, type := 4, pos := "law.go:34", after := #[{ on := 3, ground := Ground.data }, { on := 7, ground := Ground.data }], guard := none }) (v := .bool true) rfl (by kernel_rfl) (by kernel_rfl) (by kernel_rfl) (fun _ _ _ h => h) (Or.inl ⟨by rfl, by intro w hSw; go_simp⟩) (by assumption) ?_
          simp only [Act.put, List.setIfInBounds_toArray, List.set_cons_zero, List.set_cons_succ]
          refine wpAnyH_done (by kernel_rfl) ?_ _
          clear hHeld
          have HB5 : Hid (Below w.heap.size w wr.drew) := hid (below_on HQ.out (Below.refl _ _).drew)
          clear HZ
          generalize wr.drew = w6 at *
          go_wp2_with fail
          go_ret
          exact ⟨ret_bool HN2.out.symm, HB5.out⟩
      · obtain rfl : j = A.length := by omega
        have HP : Hid (decide (A = B) = true) := hid (by simp [list_ext_wd E.out HT.out])
        go_wp2_with fail
        go_ret
        exact ⟨ret_bool HP.out.symm, HQ.out⟩
  · have hl2 : ((A.length : Int) = (B.length : Int)) = False := by simp; omega
    have hh : decide (A = B) = false := by rw [decide_eq_false_iff_not]; intro e; exact hl (by rw [e])
    rw [hh]
    clear hh
    go_wp2_with fail
    go_ret
    exact ⟨rfl, Below.refl _ _⟩
def lmarks (k : Nat) : List Int := (List.range k).map fun (i : Nat) => 3237998080 + (i : Int)
theorem lmarks_succ (k : Nat) : lmarks (k + 1) = lmarks k ++ [3237998080 + (k : Int)] := by unfold lmarks; rw [List.range_succ, List.map_append]; rfl
theorem lmarks_len (k : Nat) : (lmarks k).length = k := by unfold lmarks; simp
set_option maxRecDepth 40000 in
set_option maxHeartbeats 4000000 in
theorem lent_any (w : World) (ao : Option Addr) (L : List Int) (h : SrcL w ao L) (c : Nat) (hn : L.length * 4 ≤ 140737488351232) (h0 : ao = none → c = 0) :
    Calls Try.prog 65 #[.slice ao L.length c] w fun x w' => ∃ y, x = .returned y ∧ Hl w w' y (L ++ lmarks 120) := by
  have HL : Hid (L.length * 4 ≤ 140737488351232) := hid hn
  have n1 : (L.length : Int) ≤ 140737488351232 := by omega
  have HH := hid h
  have H0 := hid h0
  clear h hn h0
  obtain ⟨i32, hi32, _, _, _⟩ := info_parts info32
  have HI := hid hi32
  clear hi32
  go_enter Try.func65, Try.ntmps65
  go_upto_region 2 with fail
  go_cut [3] from 5 to 7 (fun v w1 => Hid (Hl w w1 v (L ++ lmarks 0)))
  case first =>
    have HE0 : Hid (L ++ lmarks 0 = L) := hid (by simp [lmarks])
    cases ao with
    | none =>
      have hc : c = 0 := H0.out rfl
      subst hc
      rcases HH.out with h | ⟨g, o, e, _⟩
      · subst h
        go_wp2_with (first | (at_builtin; refine wpList_append_own_none rfl _ _ 24 rfl w.heap.size 32 i32 1 under24 HI.out (.slice none 0 0) 0 [] rfl (World.ownsRow_nil _ _ _ _) rfl ?_))
        go_meet
        exact hid (Hl.start w)
      · cases e
    | some ad =>
      have HS : Hid (∀ j u, (u32s L)[j]? = some u → w.cell? (ad.add j) = some u) := hid (by
        rcases HH.out with h | ⟨g, o, e, _, hc⟩
        · subst h; intro j u hu; simp [u32s] at hu
        · injection e with e; subst e; intro j u hu; rw [Addr.add_mid]; exact hc j u hu)
      have hby : (([] : List Int).length + L.length) * 4 ≤ 140737488355328 := by have := HL.out; simp; omega
      go_wp2_with (first | (at_builtin; refine wpList_append_w (W := w) rfl _ _ rfl (.slice none 0 0) [] rfl (Hl.start w) ad L.length c L rfl rfl HS.out hby ?_; intro v5 w5 H5 _; rw [List.nil_append] at H5; have H5' := hid H5; clear H5))
      go_meet
      rw [HE0.out]
      exact H5'
  case rest =>
    have HC := hcut
    clear hcut
    go_wp2_with fail
    go_loopw [3, 4] (fun v i wr => ∃ j : Nat, j ≤ 120 ∧ i = .int .i64 (j : Int) ∧ Hid (Hl w wr v (L ++ lmarks j))) (fun _ i _ => 120 - (intOf i).toNat)
    case atStart => exact ⟨0, Nat.zero_le _, rfl, HC⟩
    case round =>
      obtain ⟨j, hj, rfl, F⟩ := hrel
      by_cases hlt : j < 120
      · have c1 : (j : Int) < 120 := by omega
        have e1 : (j : Int) % 4294967296 = (j : Int) := by omega
        have e2 : (3237998080 + (j : Int)) % 4294967296 = 3237998080 + (j : Int) := by omega
        have HT : Hid (L ++ lmarks (j + 1) = L ++ lmarks j ++ [3237998080 + (j : Int)]) := hid (by rw [lmarks_succ, List.append_assoc])
        have hby : ((L ++ lmarks j).length + 1) * 4 ≤ 140737488355328 := by rw [List.length_append, lmarks_len]; have := HL.out; omega
        obtain ⟨LL, hLL⟩ : ∃ LL, LL = L ++ lmarks j := ⟨_, rfl⟩
        rw [← hLL] at F hby HT
        clear hLL
        go_wp2_with (first | (at_builtin; refine wpList_append_w (W := w) rfl _ _ rfl u3 LL rfl (F.out.on (below_one _ _)) ⟨wr.heap.size, 0, none⟩ 1 1 [3237998080 + (j : Int)] rfl rfl (new_src _ _) hby ?_; intro v' w2 H2 _; have H2' : Hid _ := hid H2; clear H2))
        go_roundw
        case rel => exact ⟨j + 1, by omega, by go_num, by rw [HT.out]; exact H2'⟩
        case measure => simp [intOf] <;> omega
      · obtain rfl : j = 120 := by omega
        go_wp2_with fail
        go_ret
        exact ⟨_, rfl, F.out⟩
end Go.Proofs.Ytnmdhnbgikbpoaa
