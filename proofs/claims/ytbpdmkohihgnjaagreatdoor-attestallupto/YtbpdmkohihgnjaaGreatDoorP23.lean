import Derived.Test.YtbpdmkohihgnjaaGreatDoorP22
import Derived.Test.YtbpdmkohihgnjaaGreatDoorP01
import Derived.Shelf.Strings.Split
import Derived.Test.YtbpdmkohihgnjaaGreatDoorProg
import Derived.Lib.TrimByte
import Derived.Test.YtbpdmkohihgnjaaGreatDoorP04
import Derived.OwnWalk
namespace Go.Proofs.YtbpdmkohihgnjaaGreatDoor
open Go.RowKit
set_option maxHeartbeats 4000000
set_option maxRecDepth 100000
theorem rdWords_bad {st : Rdr} {ws : List L.T.Wd} (h0 : ws ≠ []) (h : (st.ended || ws.any (·.quoted)) = true) : rdWords st ws = none := by
  cases ws with
  | nil => exact absurd rfl h0
  | cons x ws => simp only [rdWords, h, if_true]
theorem rdWords_else {st : Rdr} {ws : List L.T.Wd} (h0 : ws ≠ []) (h2 : ws.length ≠ 2) (h3 : ws.length ≠ 3) : rdWords st ws = none := by
  match ws with
  | [] => exact absurd rfl h0
  | [a] => simp only [rdWords, ite_self]
  | [a, b] => exact absurd rfl h2
  | [a, b, c] => exact absurd rfl h3
  | a :: b :: c :: d :: r => simp only [rdWords, ite_self]
theorem rdWords_two {st : Rdr} {a b : L.T.Wd} (he : st.ended = false) (hq : [a, b].any (·.quoted) = false) : rdWords st [a, b] = rdOther st a.text b.text := by
  simp only [rdWords, he, hq, Bool.or_self, Bool.false_eq_true, if_false]
theorem rdWords_three {st : Rdr} {a b c : L.T.Wd} (he : st.ended = false) (hq : [a, b, c].any (·.quoted) = false) : rdWords st [a, b, c] = rdRule st a.text b.text c.text := by
  simp only [rdWords, he, hq, Bool.or_self, Bool.false_eq_true, if_false]
theorem RdP.val {W w : World} {g : Nat} {E : Nat → Addr} {e : Ending} {r : Option Rdr} (h : RdP W w g E e r) : ∃ x, e = .returned x ∧ RdP W w g E (.returned x) r := by
  cases r with
  | none => exact ⟨_, h.1, rfl, h.2⟩
  | some st => exact ⟨_, h.1, rfl, h.2⟩
theorem len_two {α : Type} : ∀ {l : List α}, l.length = 2 → ∃ x y, l = [x, y]
  | [x, y], _ => ⟨x, y, rfl⟩
theorem len_three {α : Type} : ∀ {l : List α}, l.length = 3 → ∃ x y z, l = [x, y, z]
  | [x, y, z], _ => ⟨x, y, z, rfl⟩
def WdS (m : Nat) : Nat ⊕ List L.T.Wd → Prop
  | .inl _ => True
  | .inr ws => ∀ x ∈ ws, x.text.length ≤ m
structure YL (W : World) (g : Nat) (E : Nat → Addr) (st : Rdr) (v : Value) (ao : Option Addr) (ws : List L.T.Wd) (w : World) : Prop where
  s : RdS W w g st v
  es : ErrS w E
  wd : WdAt w ao ws
theorem YL.on {W : World} {g : Nat} {E : Nat → Addr} {st : Rdr} {v : Value} {ao : Option Addr} {ws : List L.T.Wd} {w w' : World} (h : YL W g E st v ao ws w) (hb : Below w.heap.size w w') : YL W g E st v ao ws w' := ⟨h.s.on hb, h.es.on hb, h.wd.on hb⟩
theorem readLine_any (W w : World) (E : Nat → Addr) (g : Nat) (st : Rdr) (v : Value) (hE : ErrS w E) (H : RdS W w g st v) (l : ByteArray) (hl : l.size ≤ 1000000000) (hs : WdS 140737488355328 (L.T.rd l.data.toList 0)) :
    Calls Tryz.prog 23 #[.pointer (some ⟨g, 0, none⟩), .string l] w fun e w' => RdP W w' g E e (stepP st l.data.toList) := by
  have HWd := hid (L.words_any w l hl)
  unfold stepP
  cases hr : L.T.rd l.data.toList 0 with
  | inl x =>
    rw [hr] at HWd
    have HS := hid H
    have HE := hid hE
    clear H hE hs hr
    show Calls Tryz.prog 23 _ w fun e w' => RdP W w' g E e none
    go_enter Tryz.func23, Tryz.ntmps23
    go_wp2_with fail
    refine HWd.out.mono ?_
    rintro e w1 ⟨rfl, hb⟩
    have B1 := hid (HS.out.on hb)
    have c6 : w1.cell? ⟨1, 0, none⟩ = some (.iface 245 (.pointer (some (E 6)))) := (HE.out.on hb).k6
    clear hb HS HE HWd
    generalize ((x + 1 : Nat) : Int) = xi at *
    go_wp2_with fail
    go_ret
    exact RdP.err B1.out.bl
  | inr ws =>
    rw [hr] at HWd hs
    have hs' : ∀ x ∈ ws, x.text.length ≤ 140737488355328 := hs
    have HZ := hid hs'
    have HS := hid H
    have HE := hid hE
    clear H hE hs hs' hr hl
    show Calls Tryz.prog 23 _ w fun e w' => RdP W w' g E e (rdWords st ws)
    obtain ⟨R, hR⟩ : ∃ R, R = rdWords st ws := ⟨_, rfl⟩
    rw [← hR]
    have HR0 := hid hR
    clear hR
    go_enter Tryz.func23, Tryz.ntmps23
    go_wp2_with fail
    refine HWd.out.mono ?_
    rintro e w1 ⟨v1, rfl, hw⟩
    obtain ⟨ao, c, rfl, hwd, hmax⟩ := wd_at hw
    have Y1 : Hid (YL W g E st v ao ws w1) := hid ⟨HS.out.on hw.below, HE.out.on hw.below, hwd⟩
    clear hw hwd HS HE HWd
    have c6 : w1.cell? ⟨1, 0, none⟩ = some (.iface 245 (.pointer (some (E 6)))) := Y1.out.es.k6
    have c2 : w1.cell? ⟨g, 2, none⟩ = some (.bool st.ended) := Y1.out.s.cel.cell 2
    by_cases h0 : ws = []
    · subst h0
      have HR : Hid (R = some st) := hid HR0.out
      clear c6 c2 hmax HZ
      go_wp2_with fail
      go_ret
      rw [HR.out]
      exact RdP.ok Y1.out.s
    · have i0 : ((ws.length : Int) == 0) = false := by
        have := List.length_pos_iff.2 h0
        simp
        omega
      obtain ⟨b, rfl⟩ : ∃ b, ao = some ⟨b, 0, none⟩ := by
        rcases Y1.out.wd with h | ⟨b, h, _⟩
        · exact absurd h h0
        · exact ⟨b, h⟩
      have HQd := hid (fun (w : World) (hw : WdAt w (some ⟨b, 0, none⟩) ws) => quoted_any w _ c ws hw hmax)
      cases he : st.ended with
      | true =>
        rw [he] at c2
        have HR := hid (HR0.out.trans (rdWords_bad h0 (by rw [he]; rfl)))
        clear h0 HQd hmax HZ
        go_wp2_with fail
        go_ret
        rw [HR.out]
        exact RdP.err Y1.out.s.bl
      | false =>
        rw [he] at c2
        cases hq : ws.any (·.quoted) with
        | true =>
          rw [hq] at HQd
          have HR := hid (HR0.out.trans (rdWords_bad h0 (by rw [hq, Bool.or_true])))
          clear h0 hmax HZ
          go_upto_region 7 with (first | (go_at_call 44; refine (HQd.out _ Y1.out.wd).mono ?_; rintro e w2 ⟨rfl, hb⟩; have Y2 := hid (Y1.out.on hb); clear hb; have d6 : w2.cell? ⟨1, 0, none⟩ = some (.iface 245 (.pointer (some (E 6)))) := Y2.out.es.k6))
          clear c6 c2 Y1 HQd
          go_wp2_with fail
          go_ret
          rw [HR.out]
          exact RdP.err Y2.out.s.bl
        | false =>
          rw [hq] at HQd
          go_upto_region 8 with (first | (go_at_call 44; refine (HQd.out _ Y1.out.wd).mono ?_; rintro e w2 ⟨rfl, hb⟩; have Y2 := hid (Y1.out.on hb); clear hb; have d6 : w2.cell? ⟨1, 0, none⟩ = some (.iface 245 (.pointer (some (E 6)))) := Y2.out.es.k6))
          clear c6 c2 Y1 HQd i0
          by_cases l2 : ws.length = 2
          · obtain ⟨x, y, rfl⟩ : ∃ x y, ws = [x, y] := len_two l2
            have HR := hid (HR0.out.trans (rdWords_two he hq))
            have HRO := hid (fun (w : World) (hE : ErrS w E) (H : RdS W w g st v) => readOther_any W w E g st v hE H ⟨x.text.toArray⟩ ⟨y.text.toArray⟩)
            clear l2 h0 hq he hmax HZ d6
            go_upto_region 10 with fail
            have Y3 := hid (Y2.out.on (Below.refl _ _).drew)
            clear Y2
            refine wp_region_held_drew (S := fun _ => True) (by kernel_rfl) trivial (fun hHeld => ?_)
            generalize World.drew _ = w3 at *
            refine tk 0 ⟨some 33, .move (.tmp 0), 100, "read.go:52", #[], none⟩ (.pointer (some ⟨g, 0, none⟩)) ?_
            simp only [Act.put, List.setIfInBounds_toArray, List.set_cons_zero, List.set_cons_succ]
            refine tk 1 ⟨some 34, .move (.tmp 5), 101, "read.go:52", #[], none⟩ (.slice (some ⟨b, 0, none⟩) 2 c) ?_
            simp only [Act.put, List.setIfInBounds_toArray, List.set_cons_zero, List.set_cons_succ]
            refine tk 2 ⟨some 35, .indexAddr 101 (.tmp 34) (.const (.int .i64 0)), 0, "read.go:52", #[⟨1, .data⟩], none⟩ (.pointer (some ⟨b, 0, none⟩)) ?_
            simp only [Act.put, List.setIfInBounds_toArray, List.set_cons_zero, List.set_cons_succ]
            refine tk 3 ⟨some 36, .fieldAddr 106 (.tmp 35) 0, 0, "read.go:52", #[⟨2, .data⟩], none⟩ (.pointer (some ⟨b, 0, none⟩)) ?_
            simp only [Act.put, List.setIfInBounds_toArray, List.set_cons_zero, List.set_cons_succ]
            refine tk 5 ⟨some 38, .move (.tmp 5), 101, "read.go:52", #[], none⟩ (.slice (some ⟨b, 0, none⟩) 2 c) ?_
            simp only [Act.put, List.setIfInBounds_toArray, List.set_cons_zero, List.set_cons_succ]
            refine tk 6 ⟨some 39, .indexAddr 101 (.tmp 38) (.const (.int .i64 1)), 0, "read.go:52", #[⟨5, .data⟩], none⟩ (.pointer (some ⟨b, 3, none⟩)) ?_
            simp only [Act.put, List.setIfInBounds_toArray, List.set_cons_zero, List.set_cons_succ]
            refine tk 7 ⟨some 40, .fieldAddr 106 (.tmp 39) 0, 0, "read.go:52", #[⟨6, .data⟩], none⟩ (.pointer (some ⟨b, 3, none⟩)) ?_
            simp only [Act.put, List.setIfInBounds_toArray, List.set_cons_zero, List.set_cons_succ]
            refine wpAnyH_ready (rs := [4, 8]) (by kernel_rfl) (by simp) (AllReadyH.cons (o := ⟨some 37, .load 9 (.tmp 36), 9, "read.go:52", #[⟨3, .data⟩], none⟩) rfl (fun KQ hK => ?_) (AllReadyH.cons (o := ⟨some 41, .load 9 (.tmp 40), 9, "read.go:52", #[⟨7, .data⟩], none⟩) rfl (fun KQ hK => ?_) AllReadyH.nil))
            · have y0 : w3.cell? ⟨b, 0, none⟩ = some (.string ⟨x.text.toArray⟩) := Y3.out.wd.text 0 x rfl
              go_simp
              clear y0
              refine hK.out _ _ trivial (fun hHeld => ?_)
              clear hK KQ
              try simp only [Act.put, List.setIfInBounds_toArray, List.set_cons_zero, List.set_cons_succ]
              refine wpAnyH_ready (rs := [8]) (by kernel_rfl) (by simp) (AllReadyH.cons (o := ⟨some 41, .load 9 (.tmp 40), 9, "read.go:52", #[⟨7, .data⟩], none⟩) rfl (fun KQ hK => ?_) AllReadyH.nil)
              have y0 : w3.cell? ⟨b, 3, none⟩ = some (.string ⟨y.text.toArray⟩) := Y3.out.wd.text 1 y rfl
              go_simp
              clear y0
              refine hK.out _ _ trivial (fun hHeld => ?_)
              clear hK KQ
              try simp only [Act.put, List.setIfInBounds_toArray, List.set_cons_zero, List.set_cons_succ]
              refine wpAnyH_ready (rs := [9]) (by kernel_rfl) (by simp) (AllReadyH.cons (o := ⟨some 42, .call { callee := .value (.func 45), args := #[.tmp 33, .tmp 37, .tmp 41], argTypes := #[100, 9, 9] }, 47, "read.go:52", #[⟨0, .data⟩, ⟨4, .data⟩, ⟨8, .data⟩], none⟩) rfl (fun KQ hK => ?_) AllReadyH.nil)
              go_simp
              refine (HRO.out _ Y3.out.es Y3.out.s).mono ?_
              rintro e w4 h4
              obtain ⟨x9, rfl, h5⟩ := RdP.val h4
              have Y4 := hid h5
              clear h4 h5 Y3 HRO
              go_wp2_with fail
              refine hK.out _ _ trivial (fun hHeld => ?_)
              clear hK KQ
              try simp only [Act.put, List.setIfInBounds_toArray, List.set_cons_zero, List.set_cons_succ]
              refine wpAnyH_ready (rs := [10]) (by kernel_rfl) (by simp) (AllReadyH.cons (o := ⟨some 4, .assign (.tmp 42), 47, "read.go:52", #[⟨9, .data⟩, ⟨9, .chain⟩, ⟨0, .phase⟩, ⟨1, .phase⟩, ⟨2, .phase⟩, ⟨3, .phase⟩, ⟨4, .phase⟩, ⟨5, .phase⟩, ⟨6, .phase⟩, ⟨7, .phase⟩, ⟨8, .phase⟩, ⟨9, .phase⟩], none⟩) rfl (fun KQ hK => ?_) AllReadyH.nil)
              go_simp
              refine hK.out _ _ trivial (fun hHeld => ?_)
              clear hK KQ
              try simp only [Act.put, List.setIfInBounds_toArray, List.set_cons_zero, List.set_cons_succ]
              refine wpAnyH_done (by kernel_rfl) ?_ _
              go_wp2_with fail
              go_ret
              rw [HR.out]
              exact Y4.out
            · have y0 : w3.cell? ⟨b, 3, none⟩ = some (.string ⟨y.text.toArray⟩) := Y3.out.wd.text 1 y rfl
              go_simp
              clear y0
              refine hK.out _ _ trivial (fun hHeld => ?_)
              clear hK KQ
              try simp only [Act.put, List.setIfInBounds_toArray, List.set_cons_zero, List.set_cons_succ]
              refine wpAnyH_ready (rs := [4]) (by kernel_rfl) (by simp) (AllReadyH.cons (o := ⟨some 37, .load 9 (.tmp 36), 9, "read.go:52", #[⟨3, .data⟩], none⟩) rfl (fun KQ hK => ?_) AllReadyH.nil)
              have y0 : w3.cell? ⟨b, 0, none⟩ = some (.string ⟨x.text.toArray⟩) := Y3.out.wd.text 0 x rfl
              go_simp
              clear y0
              refine hK.out _ _ trivial (fun hHeld => ?_)
              clear hK KQ
              try simp only [Act.put, List.setIfInBounds_toArray, List.set_cons_zero, List.set_cons_succ]
              refine wpAnyH_ready (rs := [9]) (by kernel_rfl) (by simp) (AllReadyH.cons (o := ⟨some 42, .call { callee := .value (.func 45), args := #[.tmp 33, .tmp 37, .tmp 41], argTypes := #[100, 9, 9] }, 47, "read.go:52", #[⟨0, .data⟩, ⟨4, .data⟩, ⟨8, .data⟩], none⟩) rfl (fun KQ hK => ?_) AllReadyH.nil)
              go_simp
              refine (HRO.out _ Y3.out.es Y3.out.s).mono ?_
              rintro e w4 h4
              obtain ⟨x9, rfl, h5⟩ := RdP.val h4
              have Y4 := hid h5
              clear h4 h5 Y3 HRO
              go_wp2_with fail
              refine hK.out _ _ trivial (fun hHeld => ?_)
              clear hK KQ
              try simp only [Act.put, List.setIfInBounds_toArray, List.set_cons_zero, List.set_cons_succ]
              refine wpAnyH_ready (rs := [10]) (by kernel_rfl) (by simp) (AllReadyH.cons (o := ⟨some 4, .assign (.tmp 42), 47, "read.go:52", #[⟨9, .data⟩, ⟨9, .chain⟩, ⟨0, .phase⟩, ⟨1, .phase⟩, ⟨2, .phase⟩, ⟨3, .phase⟩, ⟨4, .phase⟩, ⟨5, .phase⟩, ⟨6, .phase⟩, ⟨7, .phase⟩, ⟨8, .phase⟩, ⟨9, .phase⟩], none⟩) rfl (fun KQ hK => ?_) AllReadyH.nil)
              go_simp
              refine hK.out _ _ trivial (fun hHeld => ?_)
              clear hK KQ
              try simp only [Act.put, List.setIfInBounds_toArray, List.set_cons_zero, List.set_cons_succ]
              refine wpAnyH_done (by kernel_rfl) ?_ _
              go_wp2_with fail
              go_ret
              rw [HR.out]
              exact Y4.out
          · by_cases l3 : ws.length = 3
            · obtain ⟨x, y, z, rfl⟩ : ∃ x y z, ws = [x, y, z] := len_three l3
              have HR := hid (HR0.out.trans (rdWords_three he hq))
              have z1 : (⟨y.text.toArray⟩ : ByteArray).size ≤ 140737488355328 := by rw [sizeL]; exact HZ.out y (by simp)
              have z2 : (⟨z.text.toArray⟩ : ByteArray).size ≤ 140737488355328 := by rw [sizeL]; exact HZ.out z (by simp)
              have HRO := hid (fun (w : World) (hE : ErrS w E) (H : RdS W w g st v) => readRule_any W w E g st v hE H ⟨x.text.toArray⟩ ⟨y.text.toArray⟩ ⟨z.text.toArray⟩ z1 z2)
              clear l2 l3 h0 hq he hmax HZ d6 z1 z2
              go_upto_region 12 with fail
              have Y3 := hid (Y2.out.on (Below.refl _ _).drew)
              clear Y2
              refine wp_region_held_drew (S := fun _ => True) (by kernel_rfl) trivial (fun hHeld => ?_)
              generalize World.drew _ = w3 at *
              refine tk 0 ⟨some 45, .move (.tmp 0), 100, "read.go:54", #[], none⟩ (.pointer (some ⟨g, 0, none⟩)) ?_
              simp only [Act.put, List.setIfInBounds_toArray, List.set_cons_zero, List.set_cons_succ]
              refine tk 1 ⟨some 46, .move (.tmp 5), 101, "read.go:54", #[], none⟩ (.slice (some ⟨b, 0, none⟩) 3 c) ?_
              simp only [Act.put, List.setIfInBounds_toArray, List.set_cons_zero, List.set_cons_succ]
              refine tk 2 ⟨some 47, .indexAddr 101 (.tmp 46) (.const (.int .i64 0)), 0, "read.go:54", #[⟨1, .data⟩], none⟩ (.pointer (some ⟨b, 0, none⟩)) ?_
              simp only [Act.put, List.setIfInBounds_toArray, List.set_cons_zero, List.set_cons_succ]
              refine tk 3 ⟨some 48, .fieldAddr 106 (.tmp 47) 0, 0, "read.go:54", #[⟨2, .data⟩], none⟩ (.pointer (some ⟨b, 0, none⟩)) ?_
              simp only [Act.put, List.setIfInBounds_toArray, List.set_cons_zero, List.set_cons_succ]
              refine tk 5 ⟨some 50, .move (.tmp 5), 101, "read.go:54", #[], none⟩ (.slice (some ⟨b, 0, none⟩) 3 c) ?_
              simp only [Act.put, List.setIfInBounds_toArray, List.set_cons_zero, List.set_cons_succ]
              refine tk 6 ⟨some 51, .indexAddr 101 (.tmp 50) (.const (.int .i64 1)), 0, "read.go:54", #[⟨5, .data⟩], none⟩ (.pointer (some ⟨b, 3, none⟩)) ?_
              simp only [Act.put, List.setIfInBounds_toArray, List.set_cons_zero, List.set_cons_succ]
              refine tk 7 ⟨some 52, .fieldAddr 106 (.tmp 51) 0, 0, "read.go:54", #[⟨6, .data⟩], none⟩ (.pointer (some ⟨b, 3, none⟩)) ?_
              simp only [Act.put, List.setIfInBounds_toArray, List.set_cons_zero, List.set_cons_succ]
              refine tk 9 ⟨some 54, .move (.tmp 5), 101, "read.go:54", #[], none⟩ (.slice (some ⟨b, 0, none⟩) 3 c) ?_
              simp only [Act.put, List.setIfInBounds_toArray, List.set_cons_zero, List.set_cons_succ]
              refine tk 10 ⟨some 55, .indexAddr 101 (.tmp 54) (.const (.int .i64 2)), 0, "read.go:54", #[⟨9, .data⟩], none⟩ (.pointer (some ⟨b, 6, none⟩)) ?_
              simp only [Act.put, List.setIfInBounds_toArray, List.set_cons_zero, List.set_cons_succ]
              refine tk 11 ⟨some 56, .fieldAddr 106 (.tmp 55) 0, 0, "read.go:54", #[⟨10, .data⟩], none⟩ (.pointer (some ⟨b, 6, none⟩)) ?_
              simp only [Act.put, List.setIfInBounds_toArray, List.set_cons_zero, List.set_cons_succ]
              refine wpAnyH_ready (rs := [4, 8, 12]) (by kernel_rfl) (by simp) (AllReadyH.cons (o := ⟨some 49, .load 9 (.tmp 48), 9, "read.go:54", #[⟨3, .data⟩], none⟩) rfl (fun KQ hK => ?_) (AllReadyH.cons (o := ⟨some 53, .load 9 (.tmp 52), 9, "read.go:54", #[⟨7, .data⟩], none⟩) rfl (fun KQ hK => ?_) (AllReadyH.cons (o := ⟨some 57, .load 9 (.tmp 56), 9, "read.go:54", #[⟨11, .data⟩], none⟩) rfl (fun KQ hK => ?_) AllReadyH.nil)))
              · have y0 : w3.cell? ⟨b, 0, none⟩ = some (.string ⟨x.text.toArray⟩) := Y3.out.wd.text 0 x rfl
                go_simp
                clear y0
                refine hK.out _ _ trivial (fun hHeld => ?_)
                clear hK KQ
                try simp only [Act.put, List.setIfInBounds_toArray, List.set_cons_zero, List.set_cons_succ]
                refine wpAnyH_ready (rs := [8, 12]) (by kernel_rfl) (by simp) (AllReadyH.cons (o := ⟨some 53, .load 9 (.tmp 52), 9, "read.go:54", #[⟨7, .data⟩], none⟩) rfl (fun KQ hK => ?_) (AllReadyH.cons (o := ⟨some 57, .load 9 (.tmp 56), 9, "read.go:54", #[⟨11, .data⟩], none⟩) rfl (fun KQ hK => ?_) AllReadyH.nil))
                · have y0 : w3.cell? ⟨b, 3, none⟩ = some (.string ⟨y.text.toArray⟩) := Y3.out.wd.text 1 y rfl
                  go_simp
                  clear y0
                  refine hK.out _ _ trivial (fun hHeld => ?_)
                  clear hK KQ
                  try simp only [Act.put, List.setIfInBounds_toArray, List.set_cons_zero, List.set_cons_succ]
                  refine wpAnyH_ready (rs := [12]) (by kernel_rfl) (by simp) (AllReadyH.cons (o := ⟨some 57, .load 9 (.tmp 56), 9, "read.go:54", #[⟨11, .data⟩], none⟩) rfl (fun KQ hK => ?_) AllReadyH.nil)
                  have y0 : w3.cell? ⟨b, 6, none⟩ = some (.string ⟨z.text.toArray⟩) := Y3.out.wd.text 2 z rfl
                  go_simp
                  clear y0
                  refine hK.out _ _ trivial (fun hHeld => ?_)
                  clear hK KQ
                  try simp only [Act.put, List.setIfInBounds_toArray, List.set_cons_zero, List.set_cons_succ]
                  refine wpAnyH_ready (rs := [13]) (by kernel_rfl) (by simp) (AllReadyH.cons (o := ⟨some 58, .call { callee := .value (.func 46), args := #[.tmp 45, .tmp 49, .tmp 53, .tmp 57], argTypes := #[100, 9, 9, 9] }, 47, "read.go:54", #[⟨0, .data⟩, ⟨4, .data⟩, ⟨8, .data⟩, ⟨12, .data⟩], none⟩) rfl (fun KQ hK => ?_) AllReadyH.nil)
                  go_simp
                  refine (HRO.out _ Y3.out.es Y3.out.s).mono ?_
                  rintro e w4 h4
                  obtain ⟨x9, rfl, h5⟩ := RdP.val h4
                  have Y4 := hid h5
                  clear h4 h5 Y3 HRO
                  go_wp2_with fail
                  refine hK.out _ _ trivial (fun hHeld => ?_)
                  clear hK KQ
                  try simp only [Act.put, List.setIfInBounds_toArray, List.set_cons_zero, List.set_cons_succ]
                  refine wpAnyH_ready (rs := [14]) (by kernel_rfl) (by simp) (AllReadyH.cons (o := ⟨some 4, .assign (.tmp 58), 47, "read.go:54", #[⟨13, .data⟩, ⟨13, .chain⟩, ⟨0, .phase⟩, ⟨1, .phase⟩, ⟨2, .phase⟩, ⟨3, .phase⟩, ⟨4, .phase⟩, ⟨5, .phase⟩, ⟨6, .phase⟩, ⟨7, .phase⟩, ⟨8, .phase⟩, ⟨9, .phase⟩, ⟨10, .phase⟩, ⟨11, .phase⟩, ⟨12, .phase⟩, ⟨13, .phase⟩], none⟩) rfl (fun KQ hK => ?_) AllReadyH.nil)
                  go_simp
                  refine hK.out _ _ trivial (fun hHeld => ?_)
                  clear hK KQ
                  try simp only [Act.put, List.setIfInBounds_toArray, List.set_cons_zero, List.set_cons_succ]
                  refine wpAnyH_done (by kernel_rfl) ?_ _
                  go_wp2_with fail
                  go_ret
                  rw [HR.out]
                  exact Y4.out
                · have y0 : w3.cell? ⟨b, 6, none⟩ = some (.string ⟨z.text.toArray⟩) := Y3.out.wd.text 2 z rfl
                  go_simp
                  clear y0
                  refine hK.out _ _ trivial (fun hHeld => ?_)
                  clear hK KQ
                  try simp only [Act.put, List.setIfInBounds_toArray, List.set_cons_zero, List.set_cons_succ]
                  refine wpAnyH_ready (rs := [8]) (by kernel_rfl) (by simp) (AllReadyH.cons (o := ⟨some 53, .load 9 (.tmp 52), 9, "read.go:54", #[⟨7, .data⟩], none⟩) rfl (fun KQ hK => ?_) AllReadyH.nil)
                  have y0 : w3.cell? ⟨b, 3, none⟩ = some (.string ⟨y.text.toArray⟩) := Y3.out.wd.text 1 y rfl
                  go_simp
                  clear y0
                  refine hK.out _ _ trivial (fun hHeld => ?_)
                  clear hK KQ
                  try simp only [Act.put, List.setIfInBounds_toArray, List.set_cons_zero, List.set_cons_succ]
                  refine wpAnyH_ready (rs := [13]) (by kernel_rfl) (by simp) (AllReadyH.cons (o := ⟨some 58, .call { callee := .value (.func 46), args := #[.tmp 45, .tmp 49, .tmp 53, .tmp 57], argTypes := #[100, 9, 9, 9] }, 47, "read.go:54", #[⟨0, .data⟩, ⟨4, .data⟩, ⟨8, .data⟩, ⟨12, .data⟩], none⟩) rfl (fun KQ hK => ?_) AllReadyH.nil)
                  go_simp
                  refine (HRO.out _ Y3.out.es Y3.out.s).mono ?_
                  rintro e w4 h4
                  obtain ⟨x9, rfl, h5⟩ := RdP.val h4
                  have Y4 := hid h5
                  clear h4 h5 Y3 HRO
                  go_wp2_with fail
                  refine hK.out _ _ trivial (fun hHeld => ?_)
                  clear hK KQ
                  try simp only [Act.put, List.setIfInBounds_toArray, List.set_cons_zero, List.set_cons_succ]
                  refine wpAnyH_ready (rs := [14]) (by kernel_rfl) (by simp) (AllReadyH.cons (o := ⟨some 4, .assign (.tmp 58), 47, "read.go:54", #[⟨13, .data⟩, ⟨13, .chain⟩, ⟨0, .phase⟩, ⟨1, .phase⟩, ⟨2, .phase⟩, ⟨3, .phase⟩, ⟨4, .phase⟩, ⟨5, .phase⟩, ⟨6, .phase⟩, ⟨7, .phase⟩, ⟨8, .phase⟩, ⟨9, .phase⟩, ⟨10, .phase⟩, ⟨11, .phase⟩, ⟨12, .phase⟩, ⟨13, .phase⟩], none⟩) rfl (fun KQ hK => ?_) AllReadyH.nil)
                  go_simp
                  refine hK.out _ _ trivial (fun hHeld => ?_)
                  clear hK KQ
                  try simp only [Act.put, List.setIfInBounds_toArray, List.set_cons_zero, List.set_cons_succ]
                  refine wpAnyH_done (by kernel_rfl) ?_ _
                  go_wp2_with fail
                  go_ret
                  rw [HR.out]
                  exact Y4.out
              · have y0 : w3.cell? ⟨b, 3, none⟩ = some (.string ⟨y.text.toArray⟩) := Y3.out.wd.text 1 y rfl
                go_simp
                clear y0
                refine hK.out _ _ trivial (fun hHeld => ?_)
                clear hK KQ
                try simp only [Act.put, List.setIfInBounds_toArray, List.set_cons_zero, List.set_cons_succ]
                refine wpAnyH_ready (rs := [4, 12]) (by kernel_rfl) (by simp) (AllReadyH.cons (o := ⟨some 49, .load 9 (.tmp 48), 9, "read.go:54", #[⟨3, .data⟩], none⟩) rfl (fun KQ hK => ?_) (AllReadyH.cons (o := ⟨some 57, .load 9 (.tmp 56), 9, "read.go:54", #[⟨11, .data⟩], none⟩) rfl (fun KQ hK => ?_) AllReadyH.nil))
                · have y0 : w3.cell? ⟨b, 0, none⟩ = some (.string ⟨x.text.toArray⟩) := Y3.out.wd.text 0 x rfl
                  go_simp
                  clear y0
                  refine hK.out _ _ trivial (fun hHeld => ?_)
                  clear hK KQ
                  try simp only [Act.put, List.setIfInBounds_toArray, List.set_cons_zero, List.set_cons_succ]
                  refine wpAnyH_ready (rs := [12]) (by kernel_rfl) (by simp) (AllReadyH.cons (o := ⟨some 57, .load 9 (.tmp 56), 9, "read.go:54", #[⟨11, .data⟩], none⟩) rfl (fun KQ hK => ?_) AllReadyH.nil)
                  have y0 : w3.cell? ⟨b, 6, none⟩ = some (.string ⟨z.text.toArray⟩) := Y3.out.wd.text 2 z rfl
                  go_simp
                  clear y0
                  refine hK.out _ _ trivial (fun hHeld => ?_)
                  clear hK KQ
                  try simp only [Act.put, List.setIfInBounds_toArray, List.set_cons_zero, List.set_cons_succ]
                  refine wpAnyH_ready (rs := [13]) (by kernel_rfl) (by simp) (AllReadyH.cons (o := ⟨some 58, .call { callee := .value (.func 46), args := #[.tmp 45, .tmp 49, .tmp 53, .tmp 57], argTypes := #[100, 9, 9, 9] }, 47, "read.go:54", #[⟨0, .data⟩, ⟨4, .data⟩, ⟨8, .data⟩, ⟨12, .data⟩], none⟩) rfl (fun KQ hK => ?_) AllReadyH.nil)
                  go_simp
                  refine (HRO.out _ Y3.out.es Y3.out.s).mono ?_
                  rintro e w4 h4
                  obtain ⟨x9, rfl, h5⟩ := RdP.val h4
                  have Y4 := hid h5
                  clear h4 h5 Y3 HRO
                  go_wp2_with fail
                  refine hK.out _ _ trivial (fun hHeld => ?_)
                  clear hK KQ
                  try simp only [Act.put, List.setIfInBounds_toArray, List.set_cons_zero, List.set_cons_succ]
                  refine wpAnyH_ready (rs := [14]) (by kernel_rfl) (by simp) (AllReadyH.cons (o := ⟨some 4, .assign (.tmp 58), 47, "read.go:54", #[⟨13, .data⟩, ⟨13, .chain⟩, ⟨0, .phase⟩, ⟨1, .phase⟩, ⟨2, .phase⟩, ⟨3, .phase⟩, ⟨4, .phase⟩, ⟨5, .phase⟩, ⟨6, .phase⟩, ⟨7, .phase⟩, ⟨8, .phase⟩, ⟨9, .phase⟩, ⟨10, .phase⟩, ⟨11, .phase⟩, ⟨12, .phase⟩, ⟨13, .phase⟩], none⟩) rfl (fun KQ hK => ?_) AllReadyH.nil)
                  go_simp
                  refine hK.out _ _ trivial (fun hHeld => ?_)
                  clear hK KQ
                  try simp only [Act.put, List.setIfInBounds_toArray, List.set_cons_zero, List.set_cons_succ]
                  refine wpAnyH_done (by kernel_rfl) ?_ _
                  go_wp2_with fail
                  go_ret
                  rw [HR.out]
                  exact Y4.out
                · have y0 : w3.cell? ⟨b, 6, none⟩ = some (.string ⟨z.text.toArray⟩) := Y3.out.wd.text 2 z rfl
                  go_simp
                  clear y0
                  refine hK.out _ _ trivial (fun hHeld => ?_)
                  clear hK KQ
                  try simp only [Act.put, List.setIfInBounds_toArray, List.set_cons_zero, List.set_cons_succ]
                  refine wpAnyH_ready (rs := [4]) (by kernel_rfl) (by simp) (AllReadyH.cons (o := ⟨some 49, .load 9 (.tmp 48), 9, "read.go:54", #[⟨3, .data⟩], none⟩) rfl (fun KQ hK => ?_) AllReadyH.nil)
                  have y0 : w3.cell? ⟨b, 0, none⟩ = some (.string ⟨x.text.toArray⟩) := Y3.out.wd.text 0 x rfl
                  go_simp
                  clear y0
                  refine hK.out _ _ trivial (fun hHeld => ?_)
                  clear hK KQ
                  try simp only [Act.put, List.setIfInBounds_toArray, List.set_cons_zero, List.set_cons_succ]
                  refine wpAnyH_ready (rs := [13]) (by kernel_rfl) (by simp) (AllReadyH.cons (o := ⟨some 58, .call { callee := .value (.func 46), args := #[.tmp 45, .tmp 49, .tmp 53, .tmp 57], argTypes := #[100, 9, 9, 9] }, 47, "read.go:54", #[⟨0, .data⟩, ⟨4, .data⟩, ⟨8, .data⟩, ⟨12, .data⟩], none⟩) rfl (fun KQ hK => ?_) AllReadyH.nil)
                  go_simp
                  refine (HRO.out _ Y3.out.es Y3.out.s).mono ?_
                  rintro e w4 h4
                  obtain ⟨x9, rfl, h5⟩ := RdP.val h4
                  have Y4 := hid h5
                  clear h4 h5 Y3 HRO
                  go_wp2_with fail
                  refine hK.out _ _ trivial (fun hHeld => ?_)
                  clear hK KQ
                  try simp only [Act.put, List.setIfInBounds_toArray, List.set_cons_zero, List.set_cons_succ]
                  refine wpAnyH_ready (rs := [14]) (by kernel_rfl) (by simp) (AllReadyH.cons (o := ⟨some 4, .assign (.tmp 58), 47, "read.go:54", #[⟨13, .data⟩, ⟨13, .chain⟩, ⟨0, .phase⟩, ⟨1, .phase⟩, ⟨2, .phase⟩, ⟨3, .phase⟩, ⟨4, .phase⟩, ⟨5, .phase⟩, ⟨6, .phase⟩, ⟨7, .phase⟩, ⟨8, .phase⟩, ⟨9, .phase⟩, ⟨10, .phase⟩, ⟨11, .phase⟩, ⟨12, .phase⟩, ⟨13, .phase⟩], none⟩) rfl (fun KQ hK => ?_) AllReadyH.nil)
                  go_simp
                  refine hK.out _ _ trivial (fun hHeld => ?_)
                  clear hK KQ
                  try simp only [Act.put, List.setIfInBounds_toArray, List.set_cons_zero, List.set_cons_succ]
                  refine wpAnyH_done (by kernel_rfl) ?_ _
                  go_wp2_with fail
                  go_ret
                  rw [HR.out]
                  exact Y4.out
              · have y0 : w3.cell? ⟨b, 6, none⟩ = some (.string ⟨z.text.toArray⟩) := Y3.out.wd.text 2 z rfl
                go_simp
                clear y0
                refine hK.out _ _ trivial (fun hHeld => ?_)
                clear hK KQ
                try simp only [Act.put, List.setIfInBounds_toArray, List.set_cons_zero, List.set_cons_succ]
                refine wpAnyH_ready (rs := [4, 8]) (by kernel_rfl) (by simp) (AllReadyH.cons (o := ⟨some 49, .load 9 (.tmp 48), 9, "read.go:54", #[⟨3, .data⟩], none⟩) rfl (fun KQ hK => ?_) (AllReadyH.cons (o := ⟨some 53, .load 9 (.tmp 52), 9, "read.go:54", #[⟨7, .data⟩], none⟩) rfl (fun KQ hK => ?_) AllReadyH.nil))
                · have y0 : w3.cell? ⟨b, 0, none⟩ = some (.string ⟨x.text.toArray⟩) := Y3.out.wd.text 0 x rfl
                  go_simp
                  clear y0
                  refine hK.out _ _ trivial (fun hHeld => ?_)
                  clear hK KQ
                  try simp only [Act.put, List.setIfInBounds_toArray, List.set_cons_zero, List.set_cons_succ]
                  refine wpAnyH_ready (rs := [8]) (by kernel_rfl) (by simp) (AllReadyH.cons (o := ⟨some 53, .load 9 (.tmp 52), 9, "read.go:54", #[⟨7, .data⟩], none⟩) rfl (fun KQ hK => ?_) AllReadyH.nil)
                  have y0 : w3.cell? ⟨b, 3, none⟩ = some (.string ⟨y.text.toArray⟩) := Y3.out.wd.text 1 y rfl
                  go_simp
                  clear y0
                  refine hK.out _ _ trivial (fun hHeld => ?_)
                  clear hK KQ
                  try simp only [Act.put, List.setIfInBounds_toArray, List.set_cons_zero, List.set_cons_succ]
                  refine wpAnyH_ready (rs := [13]) (by kernel_rfl) (by simp) (AllReadyH.cons (o := ⟨some 58, .call { callee := .value (.func 46), args := #[.tmp 45, .tmp 49, .tmp 53, .tmp 57], argTypes := #[100, 9, 9, 9] }, 47, "read.go:54", #[⟨0, .data⟩, ⟨4, .data⟩, ⟨8, .data⟩, ⟨12, .data⟩], none⟩) rfl (fun KQ hK => ?_) AllReadyH.nil)
                  go_simp
                  refine (HRO.out _ Y3.out.es Y3.out.s).mono ?_
                  rintro e w4 h4
                  obtain ⟨x9, rfl, h5⟩ := RdP.val h4
                  have Y4 := hid h5
                  clear h4 h5 Y3 HRO
                  go_wp2_with fail
                  refine hK.out _ _ trivial (fun hHeld => ?_)
                  clear hK KQ
                  try simp only [Act.put, List.setIfInBounds_toArray, List.set_cons_zero, List.set_cons_succ]
                  refine wpAnyH_ready (rs := [14]) (by kernel_rfl) (by simp) (AllReadyH.cons (o := ⟨some 4, .assign (.tmp 58), 47, "read.go:54", #[⟨13, .data⟩, ⟨13, .chain⟩, ⟨0, .phase⟩, ⟨1, .phase⟩, ⟨2, .phase⟩, ⟨3, .phase⟩, ⟨4, .phase⟩, ⟨5, .phase⟩, ⟨6, .phase⟩, ⟨7, .phase⟩, ⟨8, .phase⟩, ⟨9, .phase⟩, ⟨10, .phase⟩, ⟨11, .phase⟩, ⟨12, .phase⟩, ⟨13, .phase⟩], none⟩) rfl (fun KQ hK => ?_) AllReadyH.nil)
                  go_simp
                  refine hK.out _ _ trivial (fun hHeld => ?_)
                  clear hK KQ
                  try simp only [Act.put, List.setIfInBounds_toArray, List.set_cons_zero, List.set_cons_succ]
                  refine wpAnyH_done (by kernel_rfl) ?_ _
                  go_wp2_with fail
                  go_ret
                  rw [HR.out]
                  exact Y4.out
                · have y0 : w3.cell? ⟨b, 3, none⟩ = some (.string ⟨y.text.toArray⟩) := Y3.out.wd.text 1 y rfl
                  go_simp
                  clear y0
                  refine hK.out _ _ trivial (fun hHeld => ?_)
                  clear hK KQ
                  try simp only [Act.put, List.setIfInBounds_toArray, List.set_cons_zero, List.set_cons_succ]
                  refine wpAnyH_ready (rs := [4]) (by kernel_rfl) (by simp) (AllReadyH.cons (o := ⟨some 49, .load 9 (.tmp 48), 9, "read.go:54", #[⟨3, .data⟩], none⟩) rfl (fun KQ hK => ?_) AllReadyH.nil)
                  have y0 : w3.cell? ⟨b, 0, none⟩ = some (.string ⟨x.text.toArray⟩) := Y3.out.wd.text 0 x rfl
                  go_simp
                  clear y0
                  refine hK.out _ _ trivial (fun hHeld => ?_)
                  clear hK KQ
                  try simp only [Act.put, List.setIfInBounds_toArray, List.set_cons_zero, List.set_cons_succ]
                  refine wpAnyH_ready (rs := [13]) (by kernel_rfl) (by simp) (AllReadyH.cons (o := ⟨some 58, .call { callee := .value (.func 46), args := #[.tmp 45, .tmp 49, .tmp 53, .tmp 57], argTypes := #[100, 9, 9, 9] }, 47, "read.go:54", #[⟨0, .data⟩, ⟨4, .data⟩, ⟨8, .data⟩, ⟨12, .data⟩], none⟩) rfl (fun KQ hK => ?_) AllReadyH.nil)
                  go_simp
                  refine (HRO.out _ Y3.out.es Y3.out.s).mono ?_
                  rintro e w4 h4
                  obtain ⟨x9, rfl, h5⟩ := RdP.val h4
                  have Y4 := hid h5
                  clear h4 h5 Y3 HRO
                  go_wp2_with fail
                  refine hK.out _ _ trivial (fun hHeld => ?_)
                  clear hK KQ
                  try simp only [Act.put, List.setIfInBounds_toArray, List.set_cons_zero, List.set_cons_succ]
                  refine wpAnyH_ready (rs := [14]) (by kernel_rfl) (by simp) (AllReadyH.cons (o := ⟨some 4, .assign (.tmp 58), 47, "read.go:54", #[⟨13, .data⟩, ⟨13, .chain⟩, ⟨0, .phase⟩, ⟨1, .phase⟩, ⟨2, .phase⟩, ⟨3, .phase⟩, ⟨4, .phase⟩, ⟨5, .phase⟩, ⟨6, .phase⟩, ⟨7, .phase⟩, ⟨8, .phase⟩, ⟨9, .phase⟩, ⟨10, .phase⟩, ⟨11, .phase⟩, ⟨12, .phase⟩, ⟨13, .phase⟩], none⟩) rfl (fun KQ hK => ?_) AllReadyH.nil)
                  go_simp
                  refine hK.out _ _ trivial (fun hHeld => ?_)
                  clear hK KQ
                  try simp only [Act.put, List.setIfInBounds_toArray, List.set_cons_zero, List.set_cons_succ]
                  refine wpAnyH_done (by kernel_rfl) ?_ _
                  go_wp2_with fail
                  go_ret
                  rw [HR.out]
                  exact Y4.out
            · have HR := hid (HR0.out.trans (rdWords_else h0 l2 l3))
              have i2 : ((ws.length : Int) == 2) = false := by simp; omega
              have i3 : ((ws.length : Int) == 3) = false := by simp; omega
              clear l2 l3 h0 hq he hmax HZ
              go_wp2_with fail
              go_ret
              rw [HR.out]
              exact RdP.err Y2.out.s.bl
end Go.Proofs.YtbpdmkohihgnjaaGreatDoor
namespace Go.Proofs
open Go.Shelf
def Tryz.lays146_ren : Go.Shelf.Ren := ⟨fun | 146 => 41 | 221 => 68 | 268 => 88 | 138 => 89 | 143 => 90 | 195 => 104 | 197 => 105 | 218 => 106 | 219 => 107 | 260 => 119 | 217 => 120 | 225 => 121 | 224 => 122 | 267 => 123 | 266 => 133 | 314 => 134 | n => n, fun | 9 => 9 | 31 => 52 | 3 => 3 | 4 => 4 | 0 => 0 | 105 => 188 | 21 => 21 | 5 => 5 | 46 => 203 | 119 => 218 | 139 => 221 | 138 => 220 | 146 => 222 | 51 => 25 | n => n, fun | 1 => 8 | 3 => 10 | 4 => 11 | n => n⟩
theorem Tryz.lays146 : Go.Proofs.Lays.n146 Tryz.prog Tryz.lays146_ren := {
  mixed := by kernel_rfl
  f138 := Tryz.func89.trans (congrArg some (by kernel_rfl))
  f143 := Tryz.func90.trans (congrArg some (by kernel_rfl))
  f146 := Tryz.func41.trans (congrArg some (by kernel_rfl))
  f195 := Tryz.func104.trans (congrArg some (by kernel_rfl))
  f197 := Tryz.func105.trans (congrArg some (by kernel_rfl))
  f217 := Tryz.func120.trans (congrArg some (by kernel_rfl))
  f218 := Tryz.func106.trans (congrArg some (by kernel_rfl))
  f219 := Tryz.func107.trans (congrArg some (by kernel_rfl))
  f221 := Tryz.func68.trans (congrArg some (by kernel_rfl))
  f224 := Tryz.func122.trans (congrArg some (by kernel_rfl))
  f225 := Tryz.func121.trans (congrArg some (by kernel_rfl))
  f260 := Tryz.func119.trans (congrArg some (by kernel_rfl))
  f266 := Tryz.func133.trans (congrArg some (by kernel_rfl))
  f267 := Tryz.func123.trans (congrArg some (by kernel_rfl))
  f268 := Tryz.func88.trans (congrArg some (by kernel_rfl))
  f314 := Tryz.func134.trans (congrArg some (by kernel_rfl))
  t0 := Tryz.underlying0
  a0 := Tryz.isAgg0
  z0 := Tryz.sizeOf0
  v0 := Tryz.zeroValue0
  t3 := Tryz.underlying3
  a3 := Tryz.isAgg3
  z3 := Tryz.sizeOf3
  v3 := Tryz.zeroValue3
  t4 := Tryz.underlying4
  a4 := Tryz.isAgg4
  z4 := Tryz.sizeOf4
  v4 := Tryz.zeroValue4
  t5 := Tryz.underlying5
  a5 := Tryz.isAgg5
  z5 := Tryz.sizeOf5
  v5 := Tryz.zeroValue5
  t9 := Tryz.underlying9
  a9 := Tryz.isAgg9
  z9 := Tryz.sizeOf9
  v9 := Tryz.zeroValue9
  t21 := Tryz.underlying21
  a21 := Tryz.isAgg21
  z21 := Tryz.sizeOf21
  v21 := Tryz.zeroValue21
  t31 := Tryz.underlying52
  a31 := Tryz.isAgg52
  z31 := Tryz.sizeOf52
  v31 := Tryz.zeroValue52
  t46 := Tryz.underlying203
  a46 := Tryz.isAgg203
  z46 := Tryz.sizeOf203
  v46 := Tryz.zeroValue203
  t51 := Tryz.underlying25
  a51 := Tryz.isAgg25
  z51 := Tryz.sizeOf25
  v51 := Tryz.zeroValue25
  t105 := Tryz.underlying188
  a105 := Tryz.isAgg188
  z105 := Tryz.sizeOf188
  v105 := Tryz.zeroValue188
  t119 := Tryz.underlying218
  a119 := Tryz.isAgg218
  z119 := Tryz.sizeOf218
  t138 := Tryz.underlying220
  a138 := Tryz.isAgg220
  z138 := Tryz.sizeOf220
  v138 := Tryz.zeroValue220
  t139 := Tryz.underlying221
  a139 := Tryz.isAgg221
  z139 := Tryz.sizeOf221
  v139 := Tryz.zeroValue221
  t146 := Tryz.underlying222
  a146 := Tryz.isAgg222
  z146 := Tryz.sizeOf222
  v146 := Tryz.zeroValue222
  g1 := by kernel_rfl
  g3 := by kernel_rfl
  g4 := by kernel_rfl }
open Go.RowKit Go.Lib in
theorem Tryz.strings_Split (s sep : ByteArray) (m : Int) (w : World) (hs : s.size < 4294967281) (hm : w.cell? ⟨8, 0, none⟩ = some (.int .i64 m)) (h1 : 1 ≤ sep.size) :
    Calls Tryz.prog 41 #[.string s, .string sep] w fun e w' =>
      e = .returned (.slice (some ⟨w.heap.size, 0, none⟩) (Lib.countB s sep + 1) (Lib.countB s sep + 1)) ∧ w' = w.alloc (.cells ((Lib.splitB sep 0 (Lib.countB s sep) s).map Value.string).toArray 9) := Any.strings_Split Tryz.lays146 (by kernel_rfl) s sep m w hs hm h1
end Go.Proofs
namespace Go.Proofs.YtbpdmkohihgnjaaGreatDoor.L
open Go.RowKit
theorem keep_block {w w' : World} {B n g : Nat} {e e' : TypeId} {z : Nat} {v : Value} {xs : List Value} {cur : Array Value} {fr : Nat × Nat} (hown : w.ownsRow B e z v n xs) (h2 : w.grownBy w' v.ownBlock) (hg : w.heap[g]? = some (.cells cur e' fr)) (hne : e' ≠ e) : w'.heap[g]? = some (.cells cur e' fr) := by
  rw [h2.block g (Array.getElem?_eq_some_iff.1 hg).1 ?_]
  · exact hg
  · intro he
    rcases hown.2 with ⟨rfl, _⟩ | ⟨g', cap, cur', rfl, _, hg', _⟩
    · cases he
    · simp only [Value.ownBlock, Option.some.injEq] at he
      subst he
      rw [hg] at hg'
      injection hg' with hh
      injection hh with h1 h2 h3
      exact hne h2
theorem HW.grown {W w w' : World} {u : Value} {ws : List T.Wd} {v : Value} {n : Nat} {xs : List Value} {e : TypeId} {z : Nat} (h : HW W w u ws) (hown : w.ownsRow W.heap.size e z v n xs) (h2 : w.grownBy w' v.ownBlock) (hne : (106 : TypeId) ≠ e) : HW W w' u ws :=
  ⟨⟨h.own.1, h.own.2.imp id fun ⟨g, cap, cur, hv, hb, hg, r⟩ => ⟨g, cap, cur, hv, hb, keep_block hown h2 hg hne, r⟩⟩, h.below.grown h2 h.below.size fun g hg => (hown.lt g hg).1⟩
theorem HB.grown {W w w' : World} {u : Value} {l : List UInt8} {v : Value} {n : Nat} {xs : List Value} {e : TypeId} {z : Nat} (h : HB W w u l) (hown : w.ownsRow W.heap.size e z v n xs) (h2 : w.grownBy w' v.ownBlock) (hne : (5 : TypeId) ≠ e) : HB W w' u l :=
  ⟨⟨h.own.1, h.own.2.imp id fun ⟨g, cap, cur, hv, hb, hg, r⟩ => ⟨g, cap, cur, hv, hb, keep_block hown h2 hg hne, r⟩⟩, h.below.grown h2 h.below.size fun g hg => (hown.lt g hg).1⟩
end Go.Proofs.YtbpdmkohihgnjaaGreatDoor.L
namespace Go.Proofs.YtbpdmkohihgnjaaGreatDoor.L
open Go.RowKit

/-! ### Widths -/
namespace T
def mrg : List Nat → List (List UInt8) → List Nat
  | ws, [] => ws
  | [], c :: r => c.length :: mrg [] r
  | w :: ws, c :: r => max w c.length :: mrg ws r
def widths (rows : List (List (List UInt8))) : List Nat := rows.foldl mrg []
def trim (l : List UInt8) : List UInt8 := Lib.trimRightB l 32
def upTo (row : List (List UInt8)) : Nat := (row.reverse.dropWhile fun c => (trim c).isEmpty).length
def fillTo (ws : List Nat) (i : Nat) (c : List UInt8) : List UInt8 := c ++ List.replicate (ws.getD i 0 - c.length) 32 ++ [32, 32]
def fills (ws : List Nat) (row : List (List UInt8)) (k : Nat) : List UInt8 := ((List.range k).map fun i => fillTo ws i (row.getD i [])).flatten
def line (ws : List Nat) (row : List (List UInt8)) : List UInt8 := if upTo row = 0 then [] else fills ws row (upTo row - 1) ++ trim (row.getD (upTo row - 1) [])
def table (rows : List (List (List UInt8))) (ws : List Nat) : List UInt8 := (rows.map fun r => line ws r ++ [10]).flatten
def columns (rows : List (List (List UInt8))) : List UInt8 := table rows (widths rows)
end T
/-! ### Own lists of one-cell values -/
structure HV (W wr : World) (e : TypeId) (v : Value) (xs : List Value) : Prop where
  own : wr.ownsRow W.heap.size e 1 v xs.length xs
  below : Below W.heap.size W wr
theorem HV.nil {W w : World} (e : TypeId) (hb : Below W.heap.size W w) : HV W w e (.slice none 0 0) [] := ⟨World.ownsRow_nil w _ e 1, hb⟩
theorem HV.alloc {W wr : World} {e : TypeId} {v : Value} {l : List Value} (h : HV W wr e v l) (o : Obj) : HV W (wr.alloc o) e v l := ⟨h.own.alloc o, h.below.alloc h.below.size o⟩
theorem HV.drew {W wr : World} {e : TypeId} {v : Value} {l : List Value} (h : HV W wr e v l) : HV W wr.drew e v l := ⟨h.own, h.below.drew⟩
theorem HV.on {W wr w : World} {e : TypeId} {v : Value} {l : List Value} (h : HV W wr e v l) (hb : Below wr.heap.size wr w) : HV W w e v l := ⟨own_below h.own hb, h.below.trans (hb.mono h.below.size)⟩
theorem HV.form {W wr : World} {e : TypeId} {v : Value} {xs : List Value} (h : HV W wr e v xs) (hn : 0 < xs.length) : ∃ g cap cur, v = .slice (some ⟨g, 0, none⟩) xs.length cap ∧ W.heap.size ≤ g ∧ g < wr.heap.size ∧ wr.heap[g]? = some (.cells cur e (0, 0)) ∧ xs.length ≤ cap ∧ cap ≤ maxLen ∧ cur.size = cap ∧ cur.toList.take xs.length = xs := by
  rcases h.own.2 with ⟨_, h0⟩ | ⟨g, cap, cur, h1, h2, h3, h4, h5, h6, h7⟩
  · omega
  · exact ⟨g, cap, cur, h1, h2, (Array.getElem?_eq_some_iff.1 h3).1, h3, h4, h5, by omega, by rw [Nat.mul_one] at h7; exact h7⟩
theorem HV.any {W wr : World} {e : TypeId} {v : Value} {xs : List Value} (h : HV W wr e v xs) : ∃ ao cap, v = .slice ao xs.length cap := by
  obtain ⟨ao, cc, hv⟩ := own_form h.own
  exact ⟨ao, cc, hv⟩
theorem HV.cell {W wr : World} {e : TypeId} {g cap : Nat} {xs : List Value} {n : Nat} (h : HV W wr e (.slice (some ⟨g, 0, none⟩) n cap) xs) (j : Nat) (u : Value) (hj : xs[j]? = some u) : wr.cell? ⟨g, j, none⟩ = some u := by
  have := h.own.cells (g := g) rfl j u hj
  rw [Addr.add_mid, Nat.zero_add] at this
  exact this
theorem HV.free {W wr : World} {e : TypeId} {g cap : Nat} {xs : List Value} {n : Nat} (h : HV W wr e (.slice (some ⟨g, 0, none⟩) n cap) xs) (j : Nat) : wr.frozen? ⟨g, j, none⟩ = false := by
  rcases h.own.2 with ⟨h0, _⟩ | ⟨g', cap', cur, h1, h2, h3, _⟩
  · cases h0
  · cases h1
    exact Lib.frozen_of_heap h3 j
theorem HV.set {W wr : World} {e : TypeId} {g cap : Nat} {xs : List Value} {n : Nat} (h : HV W wr e (.slice (some ⟨g, 0, none⟩) n cap) xs) (j : Nat) (u : Value) : HV W (wr.setCell ⟨g, j, none⟩ u) e (.slice (some ⟨g, 0, none⟩) n cap) (xs.set j u) := by
  rcases h.own.2 with ⟨h0, _⟩ | ⟨g', cap', cur, h1, h2, h3, h4, h5, h6, h7⟩
  · cases h0
  · injection h1 with a1 a2 a3
    injection a1 with a1
    injection a1 with a1
    subst a1 a3
    refine ⟨⟨by simp, .inr ⟨g, cap, cur.setIfInBounds j u, ?_, h2, ?_, ?_, h5, by simpa using h6, ?_⟩⟩, h.below.setCell (p := ⟨g, j, none⟩) h2 u⟩
    · rw [List.length_set, a2]
    · exact heap_setCell_same wr g j _ e _ h3
    · rw [List.length_set]; exact h4
    · rw [List.length_set, Array.toList_setIfInBounds, List.take_set, h7]
end Go.Proofs.YtbpdmkohihgnjaaGreatDoor.L
namespace Go.Proofs.YtbpdmkohihgnjaaGreatDoor.L
open Go.RowKit
theorem Tryz.info9 : (Tryz.prog.info? 9).map (fun i => (i.zero, i.size, i.bytes)) = some (some (.string ⟨#[]⟩), 1, 16) := by kernel_rfl
theorem wpList_append_one {P : Program} {W w : World} {ops : Array Oper} {rest : List Oper} {o : Oper} {a : Act} {Q : Exit → Act → World → Prop} (hgd : o.guard = none) (s x : Operand) (t e : TypeId)
    (ho : o.op = .call { callee := .builtin .append, args := #[s, x], argTypes := #[t, t] }) (i : TypeInfo) (z : Value) (by' : Nat) (ht : P.underlying t = some (.slice e)) (hi : P.info? e = some i) (hz : i.zero = some z) (hsize : i.size = 1) (hby : i.bytes = by') (hzs : z.cells.size = 1)
    (v : Value) (xs : List Value) (hs : a.eval s = v) (H : HV W w e v xs) (ad : Addr) (c : Nat) (m : Value) (hx : a.eval x = .slice (some ad) 1 c) (hc : w.cell? ad = some m) (hm : m.oneCell' = true) (h63 : xs.length ≤ 1000000000) (hb24 : by' ≤ 24)
    (h : ∀ v' w', HV W w' e v' (xs ++ [m]) → w.grownBy w' v.ownBlock → wpList P ops Q rest (a.put o.dst v') w') : wpList P ops Q (o :: rest) a w := by
  have hc' : ∀ j u, [m][j]? = some u → w.cell? (ad.add j) = some u := by
    intro j u hu
    match j, hu with
    | 0, hu => simp at hu; subst hu; rw [show ad.add 0 = ad from by simp [Addr.add]]; exact hc
  obtain ⟨v', w', hr, h1, h2, _⟩ := run_append_own (P := P) w W.heap.size t o.type e i z 1 by' ht hi hz hsize hby hzs (by decide) v xs.length xs H.own ad 1 c [m] rfl hc' (by intro u hu; simp at hu; subst hu; exact hm) (by unfold maxLen; omega) (by
    have : (xs.length + 1) * by' ≤ 1000000001 * 24 := Nat.mul_le_mul (by omega) hb24
    omega) H.below.size
  refine wpList_plain hgd fun K hK => ?_
  unfold Oper.wp execOp
  simp only [ho, resolve, invoke, builtin, Sem.run_bind, Sem.run_pure, Result.andThen_ok, List.map_toArray, List.map_cons, List.map_nil, hs, hx, hr]
  exact hK _ _ (h _ _ ⟨by simpa using h1, H.below.grown h2 H.below.size fun g hg => (H.own.lt g hg).1⟩ h2)
theorem cell_new (w : World) (u : Value) (e : TypeId) : (w.alloc (.cells #[u] e)).cell? ⟨w.heap.size, 0, none⟩ = some u := by
  rw [World.cell?_alloc_new]; rfl

def strsV (l : List (List UInt8)) : List Value := l.map fun x => .string ⟨x.toArray⟩
theorem strsV_length (l : List (List UInt8)) : (strsV l).length = l.length := by simp [strsV]
theorem strsV_snoc (l : List (List UInt8)) (x : List UInt8) : strsV (l ++ [x]) = strsV l ++ [.string ⟨x.toArray⟩] := by simp [strsV]
theorem cut_lines (l : List UInt8) (done : List (List UInt8)) (x : List UInt8) (h : T.cutL l = done ++ [x]) : T.lines l = if x = [] then done else done ++ [x] := by
  unfold T.lines
  have e : (T.cutL l).getLast (T.cutL_ne l) = x := by
    have g : ∀ (L : List (List UInt8)) (hL : L ≠ []), L = done ++ [x] → L.getLast hL = x := by intro L hL e; subst e; simp
    exact g _ _ h
  rw [e, h]
  simp
end Go.Proofs.YtbpdmkohihgnjaaGreatDoor.L
namespace Go.Proofs.YtbpdmkohihgnjaaGreatDoor.L
open Go.RowKit
def StrsAt (w : World) (ao : Option Addr) (l : List (List UInt8)) : Prop := l = [] ∨ ∃ b o, ao = some ⟨b, o, none⟩ ∧ b < w.heap.size ∧ ∀ i (h : i < l.length), w.cell? ⟨b, o + i, none⟩ = some (.string ⟨l[i].toArray⟩)
theorem StrsAt.on {W w : World} {ao : Option Addr} {l : List (List UInt8)} (h : StrsAt W ao l) (hb : Below W.heap.size W w) : StrsAt w ao l := by
  rcases h with h0 | ⟨b, o, e, hlt, hc⟩
  · exact .inl h0
  · exact .inr ⟨b, o, e, Nat.lt_of_lt_of_le hlt hb.size, fun i hi => by rw [hb.cell (p := ⟨b, o + i, none⟩) hlt]; exact hc i hi⟩
theorem arr_size (l : List UInt8) : (⟨l.toArray⟩ : ByteArray).size = l.length := by simp [ByteArray.size]

end Go.Proofs.YtbpdmkohihgnjaaGreatDoor.L
namespace Go.Proofs.YtbpdmkohihgnjaaGreatDoor.L
open Go.RowKit
theorem split_cells (s : ByteArray) : (Lib.splitB ⟨#[10]⟩ 0 (Lib.countB s ⟨#[10]⟩) s).map Value.string = strsV (T.cutL s.data.toList) := by
  have h := Lib.splitB_data ⟨#[10]⟩ 0 (Lib.countB s ⟨#[10]⟩) s
  have e : Lib.countB s ⟨#[10]⟩ = Lib.count s.data.toList [10] := rfl
  rw [e] at h ⊢
  rw [show (⟨#[10]⟩ : ByteArray).data.toList = [10] from rfl, T.splitK_cut] at h
  unfold strsV
  rw [← h, List.map_map]
  rfl
theorem split_count (s : ByteArray) : Lib.countB s ⟨#[10]⟩ + 1 = (T.cutL s.data.toList).length := by
  have h := Lib.splitB_all ⟨#[10]⟩ (by decide) 0 _ s rfl
  have h2 := congrArg List.length (split_cells s)
  rw [List.length_map, strsV_length] at h2
  omega
theorem cutL_len (l : List UInt8) : (T.cutL l).length ≤ l.length + 1 := by
  induction l with
  | nil => simp [T.cutL]
  | cons c t ih =>
    simp only [T.cutL]
    split
    · simp; omega
    · split
      · rename_i h r e; rw [e] at ih; simp at ih ⊢; omega
      · simp
theorem cutL_each (l : List UInt8) : ∀ y ∈ T.cutL l, y.length ≤ l.length := by
  induction l with
  | nil => simp [T.cutL]
  | cons c t ih =>
    simp only [T.cutL]
    split
    · intro y hy
      rcases List.mem_cons.1 hy with rfl | hy
      · simp
      · have := ih y hy; simp; omega
    · split
      · rename_i h r e
        rw [e] at ih
        intro y hy
        rcases List.mem_cons.1 hy with rfl | hy
        · have := ih h (by simp); simp; omega
        · have := ih y (by simp [hy]); simp; omega
      · simp
theorem HV.made (W : World) (C : Array Value) (e : TypeId) (xs : List Value) (n : Nat) (hC : C = xs.toArray) (hl : xs.length = n) (hm : n ≤ maxLen) : HV W (W.alloc (.cells C e)) e (.slice (some ⟨W.heap.size, 0, none⟩) n n) xs := by
  subst hC hl
  refine ⟨⟨by simp, .inr ⟨W.heap.size, xs.length, _, rfl, Nat.le_refl _, heap_alloc_new W _, Nat.le_refl _, hm, by simp, by simp⟩⟩, (Below.refl _ _).alloc (Nat.le_refl _) _⟩
theorem split_any (s : ByteArray) (m : Int) (w : World) (hs : s.size ≤ 65536) (hm : w.cell? ⟨8, 0, none⟩ = some (.int .i64 m)) :
    Calls Tryz.prog 41 #[.string s, .string ⟨#[10]⟩] w fun e w' => e = .returned (.slice (some ⟨w.heap.size, 0, none⟩) (T.cutL s.data.toList).length (T.cutL s.data.toList).length) ∧ HV w w' 9 (.slice (some ⟨w.heap.size, 0, none⟩) (T.cutL s.data.toList).length (T.cutL s.data.toList).length) (strsV (T.cutL s.data.toList)) := by
  refine (Tryz.strings_Split s ⟨#[10]⟩ m w (by omega) hm (by decide)).mono ?_
  rintro e w' ⟨rfl, rfl⟩
  rw [split_count, split_cells]
  refine ⟨rfl, HV.made w _ 9 _ _ rfl (strsV_length _) ?_⟩
  have := cutL_len s.data.toList
  rw [size_list] at this
  unfold maxLen
  omega
theorem strs_at {W w : World} {g n c : Nat} {l m : List (List UInt8)} (h : HV W w 9 (.slice (some ⟨g, 0, none⟩) n c) (strsV (l ++ m))) : StrsAt w (some ⟨g, 0, none⟩) l := by
  cases hl : l with
  | nil => exact .inl rfl
  | cons a t =>
    rw [← hl]
    have hn : 0 < (strsV (l ++ m)).length := by rw [strsV_length, hl]; simp
    obtain ⟨g', _, _, h1, _, h2, _⟩ := h.form hn
    cases h1
    refine .inr ⟨g, 0, rfl, h2, fun i hi => ?_⟩
    rw [Nat.zero_add]
    refine h.cell i _ ?_
    unfold strsV
    rw [List.getElem?_map, List.getElem?_append_left hi, List.getElem?_eq_getElem hi]
    rfl
theorem set_same (l : List (List UInt8)) (k : Nat) (h : k < l.length) : (strsV l).set k (.string ⟨l[k].toArray⟩) = strsV l := by
  apply List.ext_getElem?
  intro i
  by_cases e : k = i
  · subst e
    rw [List.getElem?_set_self (by rw [strsV_length]; exact h)]
    simp [strsV, h]
  · rw [List.getElem?_set_ne e]
def LiPost (W : World) (l : List UInt8) (e : Ending) (W' : World) : Prop :=
  ∃ g c, e = .returned (.tuple #[.slice (some ⟨g, 0, none⟩) (T.lines l).length c, .int .i64 0]) ∧ StrsAt W' (some ⟨g, 0, none⟩) (T.lines l) ∧ Below W.heap.size W W'
set_option maxRecDepth 20000 in
theorem lines_long (W : World) (s : ByteArray) (hb : 65536 < s.size) :
    Calls Tryz.prog 22 #[.string s] W fun e W' => e = .returned (.tuple #[.slice none 0 0, .int .i64 2]) ∧ W' = W := by
  have c1 : (65536 : Int) < (s.size : Int) := by omega
  clear hb
  go_enter Tryz.func22, Tryz.ntmps22
  go_wp2_with fail
  go_ret2
  exact ⟨rfl, rfl⟩
set_option maxRecDepth 20000 in
set_option maxHeartbeats 2000000 in
theorem lines_any (W : World) (s : ByteArray) (m : Int) (hs : s.size ≤ 65536) (hm : W.cell? ⟨8, 0, none⟩ = some (.int .i64 m)) :
    Calls Tryz.prog 22 #[.string s] W fun e W' => LiPost W s.data.toList e W' := by
  have c1 : (s.size : Int) ≤ 65536 := by omega
  have HSP := hid (split_any s m W hs hm)
  have hcl := cutL_len s.data.toList
  rw [size_list] at hcl
  obtain ⟨done, x, hcut⟩ : ∃ done x, T.cutL s.data.toList = done ++ [x] := ⟨_, _, (List.dropLast_concat_getLast (T.cutL_ne s.data.toList)).symm⟩
  have HLN := hid (cut_lines _ _ _ hcut)
  rw [hcut] at HSP hcl
  have HXL : Hid (∀ y ∈ done ++ [x], y.length ≤ 1000000000) := hid (fun y hy => by rw [← hcut] at hy; have := cutL_each _ y hy; rw [size_list] at this; omega)
  simp only [List.length_append, List.length_cons, List.length_nil, Nat.zero_add] at HSP hcl
  obtain ⟨n, hn⟩ : ∃ n, done.length = n := ⟨_, rfl⟩
  rw [hn] at HSP hcl
  have HN : Hid (done.length = n) := hn
  have c2 : (n : Int) ≤ 65536 := by omega
  clear hcut hn hm hcl
  rcases List.eq_nil_or_concat x with h0 | ⟨x0, x1, h0⟩
  · subst h0
    rw [if_pos rfl] at HLN
    go_enter Tryz.func22, Tryz.ntmps22
    go_wp2_with (first | (go_at_call 41; refine HSP.out.mono ?_; rintro e w1 ⟨rfl, F⟩; have hcx := F.cell n (.string ⟨([] : List UInt8).toArray⟩) (by rw [strsV_snoc, List.getElem?_append_right (by rw [strsV_length, HN.out]; exact Nat.le_refl _), strsV_length, HN.out]; simp); have HF1 : Hid (HV W w1 9 (.slice (some ⟨W.heap.size, 0, none⟩) (n + 1) (n + 1)) (strsV (done ++ [([] : List UInt8)]))) := F; clear F HSP))
    have HLT : Hid ((done ++ [([] : List UInt8)]).length = n + 1) := hid (by simp [HN.out])
    clear hcx
    generalize W.heap.size = g at *
    generalize hL : done ++ [([] : List UInt8)] = L at *
    have HL : Hid (done ++ [([] : List UInt8)] = L) := hL
    clear hL
    go_loopw [6, 7, 26] (fun _ _ i wr => ∃ k : Nat, k ≤ n ∧ i = .int .i64 k ∧ HV W wr 9 (.slice (some ⟨g, 0, none⟩) (n + 1) (n + 1)) (strsV L)) (fun _ _ i _ => n - (intOf i).toNat)
    case atStart => exact ⟨0, Nat.zero_le _, rfl, HF1.out⟩
    case round =>
      obtain ⟨k, hk, rfl, F⟩ := hrel
      by_cases hlt : k < n
      · have c3 : (k : Int) < ((n : Nat) : Int) := by omega
        have hkl : k < L.length := by rw [HLT.out]; omega
        have hck := F.cell k (.string ⟨L[k].toArray⟩) (by simp [strsV, hkl])
        have hxl := HXL.out L[k] (List.getElem_mem _)
        have HSS := hid (set_same L k hkl)
        have hfr := F.free k
        have HF2 : Hid (HV W wr 9 (.slice (some ⟨g, 0, none⟩) (n + 1) (n + 1)) (strsV L)) := F
        have HY : Hid ((strsV L)[k]? = some (.string ⟨L[k].toArray⟩)) := hid (by simp [strsV, hkl])
        have hsz := arr_size L[k]
        generalize L[k] = y at *
        have HSZ : Hid ((⟨y.toArray⟩ : ByteArray).size ≤ 1000000000) := hid (by omega)
        clear F hkl
        go_wp2_with (first | (go_at_call 42; refine (clone_any _ ⟨y.toArray⟩ HSZ.out).mono ?_; rintro e w2 ⟨rfl, hb2⟩; have F2 := HF2.out.on hb2; have hck2 := F2.cell k _ HY.out; have hfr2 := F2.free k; have HF3 : Hid (HV W (w2.setCell ⟨g, k, none⟩ (.string ⟨y.toArray⟩)) 9 (.slice (some ⟨g, 0, none⟩) (n + 1) (n + 1)) (strsV L)) := hid (by rw [← HSS.out]; have := F2.set k (.string ⟨y.toArray⟩); rw [HSS.out] at this ⊢; exact this); clear F2))
        go_roundw
        case measure => simp [intOf]; omega
        case rel => exact ⟨k + 1, by omega, by go_num, HF3.out⟩
      · obtain rfl : k = n := by omega
        go_wp2_with fail
        go_ret2
        exact ⟨g, k + 1, by rw [HLN.out, HN.out]; rfl, by rw [HLN.out]; exact strs_at (m := [[]]) (by rw [HL.out]; exact F), F.below⟩
  · have hne : x ≠ [] := by rw [h0]; simp
    rw [if_neg hne] at HLN
    have e1 : x.isEmpty = false := by simpa using hne
    clear h0 hne
    go_enter Tryz.func22, Tryz.ntmps22
    go_wp2_with (first | (go_at_call 41; refine HSP.out.mono ?_; rintro e w1 ⟨rfl, F⟩; have hcx := F.cell n (.string ⟨x.toArray⟩) (by rw [strsV_snoc, List.getElem?_append_right (by rw [strsV_length, HN.out]; exact Nat.le_refl _), strsV_length, HN.out]; simp); have HF1 : Hid (HV W w1 9 (.slice (some ⟨W.heap.size, 0, none⟩) (n + 1) (n + 1)) (strsV (done ++ [x]))) := F; clear F HSP))
    have HLT : Hid ((done ++ [x]).length = n + 1) := hid (by simp [HN.out])
    clear hcx
    generalize W.heap.size = g at *
    generalize hL : done ++ [x] = L at *
    have HL : Hid (done ++ [x] = L) := hL
    clear hL
    go_loopw [6, 7, 26] (fun _ _ i wr => ∃ k : Nat, k ≤ (n + 1) ∧ i = .int .i64 k ∧ HV W wr 9 (.slice (some ⟨g, 0, none⟩) (n + 1) (n + 1)) (strsV L)) (fun _ _ i _ => (n + 1) - (intOf i).toNat)
    case atStart => exact ⟨0, Nat.zero_le _, rfl, HF1.out⟩
    case round =>
      obtain ⟨k, hk, rfl, F⟩ := hrel
      by_cases hlt : k < (n + 1)
      · have c3 : (k : Int) < (((n + 1) : Nat) : Int) := by omega
        have hkl : k < L.length := by rw [HLT.out]; omega
        have hck := F.cell k (.string ⟨L[k].toArray⟩) (by simp [strsV, hkl])
        have hxl := HXL.out L[k] (List.getElem_mem _)
        have HSS := hid (set_same L k hkl)
        have hfr := F.free k
        have HF2 : Hid (HV W wr 9 (.slice (some ⟨g, 0, none⟩) (n + 1) (n + 1)) (strsV L)) := F
        have HY : Hid ((strsV L)[k]? = some (.string ⟨L[k].toArray⟩)) := hid (by simp [strsV, hkl])
        have hsz := arr_size L[k]
        generalize L[k] = y at *
        have HSZ : Hid ((⟨y.toArray⟩ : ByteArray).size ≤ 1000000000) := hid (by omega)
        clear F hkl
        go_wp2_with (first | (go_at_call 42; refine (clone_any _ ⟨y.toArray⟩ HSZ.out).mono ?_; rintro e w2 ⟨rfl, hb2⟩; have F2 := HF2.out.on hb2; have hck2 := F2.cell k _ HY.out; have hfr2 := F2.free k; have HF3 : Hid (HV W (w2.setCell ⟨g, k, none⟩ (.string ⟨y.toArray⟩)) 9 (.slice (some ⟨g, 0, none⟩) (n + 1) (n + 1)) (strsV L)) := hid (by rw [← HSS.out]; have := F2.set k (.string ⟨y.toArray⟩); rw [HSS.out] at this ⊢; exact this); clear F2))
        go_roundw
        case measure => simp [intOf]; omega
        case rel => exact ⟨k + 1, by omega, by go_num, HF3.out⟩
      · obtain rfl : k = (n + 1) := by omega
        go_wp2_with fail
        go_ret2
        exact ⟨g, n + 1, by rw [HLN.out, HLT.out]; rfl, by rw [HLN.out]; exact strs_at (m := []) (by rw [List.append_nil]; exact F), F.below⟩
end Go.Proofs.YtbpdmkohihgnjaaGreatDoor.L
