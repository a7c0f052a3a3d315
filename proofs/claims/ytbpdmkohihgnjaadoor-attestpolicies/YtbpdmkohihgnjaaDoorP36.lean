import Derived.Test.YtbpdmkohihgnjaaDoorP35
import Derived.Test.YtbpdmkohihgnjaaDoorP01
import Derived.Shelf.Strings.Split
import Derived.Test.YtbpdmkohihgnjaaDoorProg
import Derived.Test.YtbpdmkohihgnjaaDoorP34
import Derived.Lib.TrimByte
namespace Go.Proofs.YtbpdmkohihgnjaaDoor
open Go.RowKit
set_option maxHeartbeats 4000000
set_option maxRecDepth 100000
theorem rdWords_bad {st : Rdr} {ws : List L.T.Wd} (h0 : ws ≠ []) (h : (st.ended || ws.any (·.quoted)) = true) : rdWords st ws = none := by
  cases ws with
  | nil => exact absurd rfl h0
  | cons x ws => simp only [rdWords, h, if_true]
theorem rdWords_else {st : Rdr} {ws : List L.T.Wd} (h0 : ws ≠ []) (h2 : ws.length ≠ 2) (h3 : ws.length ≠ 3) : rdWords st ws = none := by
  match ws with
  | [] => exact absurd rfl h0
  | [a] => simp only [rdWords, ite_self]
  | [a, b] => exact absurd rfl h2
  | [a, b, c] => exact absurd rfl h3
  | a :: b :: c :: d :: r => simp only [rdWords, ite_self]
theorem rdWords_two {st : Rdr} {a b : L.T.Wd} (he : st.ended = false) (hq : [a, b].any (·.quoted) = false) : rdWords st [a, b] = rdOther st a.text b.text := by
  simp only [rdWords, he, hq, Bool.or_self, Bool.false_eq_true, if_false]
theorem rdWords_three {st : Rdr} {a b c : L.T.Wd} (he : st.ended = false) (hq : [a, b, c].any (·.quoted) = false) : rdWords st [a, b, c] = rdRule st a.text b.text c.text := by
  simp only [rdWords, he, hq, Bool.or_self, Bool.false_eq_true, if_false]
theorem RdP.val {W w : World} {g : Nat} {E : Nat → Addr} {e : Ending} {r : Option Rdr} (h : RdP W w g E e r) : ∃ x, e = .returned x ∧ RdP W w g E (.returned x) r := by
  cases r with
  | none => exact ⟨_, h.1, rfl, h.2⟩
  | some st => exact ⟨_, h.1, rfl, h.2⟩
theorem len_two {α : Type} : ∀ {l : List α}, l.length = 2 → ∃ x y, l = [x, y]
  | [x, y], _ => ⟨x, y, rfl⟩
theorem len_three {α : Type} : ∀ {l : List α}, l.length = 3 → ∃ x y z, l = [x, y, z]
  | [x, y, z], _ => ⟨x, y, z, rfl⟩
def WdS (m : Nat) : Nat ⊕ List L.T.Wd → Prop
  | .inl _ => True
  | .inr ws => ∀ x ∈ ws, x.text.length ≤ m
structure YL (W : World) (g : Nat) (E : Nat → Addr) (st : Rdr) (v : Value) (ao : Option Addr) (ws : List L.T.Wd) (w : World) : Prop where
  s : RdS W w g st v
  es : ErrS w E
  wd : WdAt w ao ws
theorem YL.on {W : World} {g : Nat} {E : Nat → Addr} {st : Rdr} {v : Value} {ao : Option Addr} {ws : List L.T.Wd} {w w' : World} (h : YL W g E st v ao ws w) (hb : Below w.heap.size w w') : YL W g E st v ao ws w' := ⟨h.s.on hb, h.es.on hb, h.wd.on hb⟩
theorem readLine_any (W w : World) (E : Nat → Addr) (g : Nat) (st : Rdr) (v : Value) (hE : ErrS w E) (H : RdS W w g st v) (l : ByteArray) (hl : l.size ≤ 1000000000) (hs : WdS 140737488355328 (L.T.rd l.data.toList 0)) :
    Calls Tryd.prog 78 #[.pointer (some ⟨g, 0, none⟩), .string l] w fun e w' => RdP W w' g E e (stepP st l.data.toList) := by
  have HWd := hid (L.words_any w l hl)
  unfold stepP
  cases hr : L.T.rd l.data.toList 0 with
  | inl x =>
    rw [hr] at HWd
    have HS := hid H
    have HE := hid hE
    clear H hE hs hr
    show Calls Tryd.prog 78 _ w fun e w' => RdP W w' g E e none
    go_enter Tryd.func78, Tryd.ntmps78
    go_wp2_with fail
    refine HWd.out.mono ?_
    rintro e w1 ⟨rfl, hb⟩
    have B1 := hid (HS.out.on hb)
    have c6 : w1.cell? ⟨6, 0, none⟩ = some (.iface 235 (.pointer (some (E 6)))) := (HE.out.on hb).cell 6 (by decide) (by decide)
    clear hb HS HE HWd
    generalize ((x + 1 : Nat) : Int) = xi at *
    go_wp2_with fail
    go_ret
    exact RdP.err B1.out.bl
  | inr ws =>
    rw [hr] at HWd hs
    have hs' : ∀ x ∈ ws, x.text.length ≤ 140737488355328 := hs
    have HZ := hid hs'
    have HS := hid H
    have HE := hid hE
    clear H hE hs hs' hr hl
    show Calls Tryd.prog 78 _ w fun e w' => RdP W w' g E e (rdWords st ws)
    obtain ⟨R, hR⟩ : ∃ R, R = rdWords st ws := ⟨_, rfl⟩
    rw [← hR]
    have HR0 := hid hR
    clear hR
    go_enter Tryd.func78, Tryd.ntmps78
    go_wp2_with fail
    refine HWd.out.mono ?_
    rintro e w1 ⟨v1, rfl, hw⟩
    obtain ⟨ao, c, rfl, hwd, hmax⟩ := wd_at hw
    have Y1 : Hid (YL W g E st v ao ws w1) := hid ⟨HS.out.on hw.below, HE.out.on hw.below, hwd⟩
    clear hw hwd HS HE HWd
    have c6 : w1.cell? ⟨6, 0, none⟩ = some (.iface 235 (.pointer (some (E 6)))) := Y1.out.es.cell 6 (by decide) (by decide)
    have c2 : w1.cell? ⟨g, 2, none⟩ = some (.bool st.ended) := Y1.out.s.cel.cell 2
    by_cases h0 : ws = []
    · subst h0
      have HR : Hid (R = some st) := hid HR0.out
      clear c6 c2 hmax HZ
      go_wp2_with fail
      go_ret
      rw [HR.out]
      exact RdP.ok Y1.out.s
    · have i0 : ((ws.length : Int) == 0) = false := by
        have := List.length_pos_iff.2 h0
        simp
        omega
      obtain ⟨b, rfl⟩ : ∃ b, ao = some ⟨b, 0, none⟩ := by
        rcases Y1.out.wd with h | ⟨b, h, _⟩
        · exact absurd h h0
        · exact ⟨b, h⟩
      have HQd := hid (fun (w : World) (hw : WdAt w (some ⟨b, 0, none⟩) ws) => quoted_any w _ c ws hw hmax)
      cases he : st.ended with
      | true =>
        rw [he] at c2
        have HR := hid (HR0.out.trans (rdWords_bad h0 (by rw [he]; rfl)))
        clear h0 HQd hmax HZ
        go_wp2_with fail
        go_ret
        rw [HR.out]
        exact RdP.err Y1.out.s.bl
      | false =>
        rw [he] at c2
        cases hq : ws.any (·.quoted) with
        | true =>
          rw [hq] at HQd
          have HR := hid (HR0.out.trans (rdWords_bad h0 (by rw [hq, Bool.or_true])))
          clear h0 hmax HZ
          go_upto_region 7 with (first | (go_at_call 95; refine (HQd.out _ Y1.out.wd).mono ?_; rintro e w2 ⟨rfl, hb⟩; have Y2 := hid (Y1.out.on hb); clear hb; have d6 : w2.cell? ⟨6, 0, none⟩ = some (.iface 235 (.pointer (some (E 6)))) := Y2.out.es.cell 6 (by decide) (by decide)))
          clear c6 c2 Y1 HQd
          go_wp2_with fail
          go_ret
          rw [HR.out]
          exact RdP.err Y2.out.s.bl
        | false =>
          rw [hq] at HQd
          go_upto_region 8 with (first | (go_at_call 95; refine (HQd.out _ Y1.out.wd).mono ?_; rintro e w2 ⟨rfl, hb⟩; have Y2 := hid (Y1.out.on hb); clear hb; have d6 : w2.cell? ⟨6, 0, none⟩ = some (.iface 235 (.pointer (some (E 6)))) := Y2.out.es.cell 6 (by decide) (by decide)))
          clear c6 c2 Y1 HQd i0
          by_cases l2 : ws.length = 2
          · obtain ⟨x, y, rfl⟩ : ∃ x y, ws = [x, y] := len_two l2
            have HR := hid (HR0.out.trans (rdWords_two he hq))
            have HRO := hid (fun (w : World) (hE : ErrS w E) (H : RdS W w g st v) => readOther_any W w E g st v hE H ⟨x.text.toArray⟩ ⟨y.text.toArray⟩)
            clear l2 h0 hq he hmax HZ d6
            go_upto_region 10 with fail
            have Y3 := hid (Y2.out.on (Below.refl _ _).drew)
            clear Y2
            refine wp_region_held_drew (S := fun _ => True) (by kernel_rfl) trivial (fun hHeld => ?_)
            generalize World.drew _ = w3 at *
            refine tk 0 ⟨some 33, .move (.tmp 0), 158, "read.go:52", #[], none⟩ (.pointer (some ⟨g, 0, none⟩)) ?_
            simp only [Act.put, List.setIfInBounds_toArray, List.set_cons_zero, List.set_cons_succ]
            refine tk 1 ⟨some 34, .move (.tmp 5), 159, "read.go:52", #[], none⟩ (.slice (some ⟨b, 0, none⟩) 2 c) ?_
            simp only [Act.put, List.setIfInBounds_toArray, List.set_cons_zero, List.set_cons_succ]
            refine tk 2 ⟨some 35, .indexAddr 159 (.tmp 34) (.const (.int .i64 0)), 0, "read.go:52", #[⟨1, .data⟩], none⟩ (.pointer (some ⟨b, 0, none⟩)) ?_
            simp only [Act.put, List.setIfInBounds_toArray, List.set_cons_zero, List.set_cons_succ]
            refine tk 3 ⟨some 36, .fieldAddr 165 (.tmp 35) 0, 0, "read.go:52", #[⟨2, .data⟩], none⟩ (.pointer (some ⟨b, 0, none⟩)) ?_
            simp only [Act.put, List.setIfInBounds_toArray, List.set_cons_zero, List.set_cons_succ]
            refine tk 5 ⟨some 38, .move (.tmp 5), 159, "read.go:52", #[], none⟩ (.slice (some ⟨b, 0, none⟩) 2 c) ?_
            simp only [Act.put, List.setIfInBounds_toArray, List.set_cons_zero, List.set_cons_succ]
            refine tk 6 ⟨some 39, .indexAddr 159 (.tmp 38) (.const (.int .i64 1)), 0, "read.go:52", #[⟨5, .data⟩], none⟩ (.pointer (some ⟨b, 3, none⟩)) ?_
            simp only [Act.put, List.setIfInBounds_toArray, List.set_cons_zero, List.set_cons_succ]
            refine tk 7 ⟨some 40, .fieldAddr 165 (.tmp 39) 0, 0, "read.go:52", #[⟨6, .data⟩], none⟩ (.pointer (some ⟨b, 3, none⟩)) ?_
            simp only [Act.put, List.setIfInBounds_toArray, List.set_cons_zero, List.set_cons_succ]
            refine wpAnyH_ready (rs := [4, 8]) (by kernel_rfl) (by simp) (AllReadyH.cons (o := ⟨some 37, .load 9 (.tmp 36), 9, "read.go:52", #[⟨3, .data⟩], none⟩) rfl (fun KQ hK => ?_) (AllReadyH.cons (o := ⟨some 41, .load 9 (.tmp 40), 9, "read.go:52", #[⟨7, .data⟩], none⟩) rfl (fun KQ hK => ?_) AllReadyH.nil))
            · have y0 : w3.cell? ⟨b, 0, none⟩ = some (.string ⟨x.text.toArray⟩) := Y3.out.wd.text 0 x rfl
              go_simp
              clear y0
              refine hK.out _ _ trivial (fun hHeld => ?_)
              clear hK KQ
              try simp only [Act.put, List.setIfInBounds_toArray, List.set_cons_zero, List.set_cons_succ]
              refine wpAnyH_ready (rs := [8]) (by kernel_rfl) (by simp) (AllReadyH.cons (o := ⟨some 41, .load 9 (.tmp 40), 9, "read.go:52", #[⟨7, .data⟩], none⟩) rfl (fun KQ hK => ?_) AllReadyH.nil)
              have y0 : w3.cell? ⟨b, 3, none⟩ = some (.string ⟨y.text.toArray⟩) := Y3.out.wd.text 1 y rfl
              go_simp
              clear y0
              refine hK.out _ _ trivial (fun hHeld => ?_)
              clear hK KQ
              try simp only [Act.put, List.setIfInBounds_toArray, List.set_cons_zero, List.set_cons_succ]
              refine wpAnyH_ready (rs := [9]) (by kernel_rfl) (by simp) (AllReadyH.cons (o := ⟨some 42, .call { callee := .value (.func 96), args := #[.tmp 33, .tmp 37, .tmp 41], argTypes := #[158, 9, 9] }, 87, "read.go:52", #[⟨0, .data⟩, ⟨4, .data⟩, ⟨8, .data⟩], none⟩) rfl (fun KQ hK => ?_) AllReadyH.nil)
              go_simp
              refine (HRO.out _ Y3.out.es Y3.out.s).mono ?_
              rintro e w4 h4
              obtain ⟨x9, rfl, h5⟩ := RdP.val h4
              have Y4 := hid h5
              clear h4 h5 Y3 HRO
              go_wp2_with fail
              refine hK.out _ _ trivial (fun hHeld => ?_)
              clear hK KQ
              try simp only [Act.put, List.setIfInBounds_toArray, List.set_cons_zero, List.set_cons_succ]
              refine wpAnyH_ready (rs := [10]) (by kernel_rfl) (by simp) (AllReadyH.cons (o := ⟨some 4, .assign (.tmp 42), 87, "read.go:52", #[⟨9, .data⟩, ⟨9, .chain⟩, ⟨0, .phase⟩, ⟨1, .phase⟩, ⟨2, .phase⟩, ⟨3, .phase⟩, ⟨4, .phase⟩, ⟨5, .phase⟩, ⟨6, .phase⟩, ⟨7, .phase⟩, ⟨8, .phase⟩, ⟨9, .phase⟩], none⟩) rfl (fun KQ hK => ?_) AllReadyH.nil)
              go_simp
              refine hK.out _ _ trivial (fun hHeld => ?_)
              clear hK KQ
              try simp only [Act.put, List.setIfInBounds_toArray, List.set_cons_zero, List.set_cons_succ]
              refine wpAnyH_done (by kernel_rfl) ?_ _
              go_wp2_with fail
              go_ret
              rw [HR.out]
              exact Y4.out
            · have y0 : w3.cell? ⟨b, 3, none⟩ = some (.string ⟨y.text.toArray⟩) := Y3.out.wd.text 1 y rfl
              go_simp
              clear y0
              refine hK.out _ _ trivial (fun hHeld => ?_)
              clear hK KQ
              try simp only [Act.put, List.setIfInBounds_toArray, List.set_cons_zero, List.set_cons_succ]
              refine wpAnyH_ready (rs := [4]) (by kernel_rfl) (by simp) (AllReadyH.cons (o := ⟨some 37, .load 9 (.tmp 36), 9, "read.go:52", #[⟨3, .data⟩], none⟩) rfl (fun KQ hK => ?_) AllReadyH.nil)
              have y0 : w3.cell? ⟨b, 0, none⟩ = some (.string ⟨x.text.toArray⟩) := Y3.out.wd.text 0 x rfl
              go_simp
              clear y0
              refine hK.out _ _ trivial (fun hHeld => ?_)
              clear hK KQ
              try simp only [Act.put, List.setIfInBounds_toArray, List.set_cons_zero, List.set_cons_succ]
              refine wpAnyH_ready (rs := [9]) (by kernel_rfl) (by simp) (AllReadyH.cons (o := ⟨some 42, .call { callee := .value (.func 96), args := #[.tmp 33, .tmp 37, .tmp 41], argTypes := #[158, 9, 9] }, 87, "read.go:52", #[⟨0, .data⟩, ⟨4, .data⟩, ⟨8, .data⟩], none⟩) rfl (fun KQ hK => ?_) AllReadyH.nil)
              go_simp
              refine (HRO.out _ Y3.out.es Y3.out.s).mono ?_
              rintro e w4 h4
              obtain ⟨x9, rfl, h5⟩ := RdP.val h4
              have Y4 := hid h5
              clear h4 h5 Y3 HRO
              go_wp2_with fail
              refine hK.out _ _ trivial (fun hHeld => ?_)
              clear hK KQ
              try simp only [Act.put, List.setIfInBounds_toArray, List.set_cons_zero, List.set_cons_succ]
              refine wpAnyH_ready (rs := [10]) (by kernel_rfl) (by simp) (AllReadyH.cons (o := ⟨some 4, .assign (.tmp 42), 87, "read.go:52", #[⟨9, .data⟩, ⟨9, .chain⟩, ⟨0, .phase⟩, ⟨1, .phase⟩, ⟨2, .phase⟩, ⟨3, .phase⟩, ⟨4, .phase⟩, ⟨5, .phase⟩, ⟨6, .phase⟩, ⟨7, .phase⟩, ⟨8, .phase⟩, ⟨9, .phase⟩], none⟩) rfl (fun KQ hK => ?_) AllReadyH.nil)
              go_simp
              refine hK.out _ _ trivial (fun hHeld => ?_)
              clear hK KQ
              try simp only [Act.put, List.setIfInBounds_toArray, List.set_cons_zero, List.set_cons_succ]
              refine wpAnyH_done (by kernel_rfl) ?_ _
              go_wp2_with fail
              go_ret
              rw [HR.out]
              exact Y4.out
          · by_cases l3 : ws.length = 3
            · obtain ⟨x, y, z, rfl⟩ : ∃ x y z, ws = [x, y, z] := len_three l3
              have HR := hid (HR0.out.trans (rdWords_three he hq))
              have z1 : (⟨y.text.toArray⟩ : ByteArray).size ≤ 140737488355328 := by rw [sizeL]; exact HZ.out y (by simp)
              have z2 : (⟨z.text.toArray⟩ : ByteArray).size ≤ 140737488355328 := by rw [sizeL]; exact HZ.out z (by simp)
              have HRO := hid (fun (w : World) (hE : ErrS w E) (H : RdS W w g st v) => readRule_any W w E g st v hE H ⟨x.text.toArray⟩ ⟨y.text.toArray⟩ ⟨z.text.toArray⟩ z1 z2)
              clear l2 l3 h0 hq he hmax HZ d6 z1 z2
              go_upto_region 12 with fail
              have Y3 := hid (Y2.out.on (Below.refl _ _).drew)
              clear Y2
              refine wp_region_held_drew (S := fun _ => True) (by kernel_rfl) trivial (fun hHeld => ?_)
              generalize World.drew _ = w3 at *
              refine tk 0 ⟨some 45, .move (.tmp 0), 158, "read.go:54", #[], none⟩ (.pointer (some ⟨g, 0, none⟩)) ?_
              simp only [Act.put, List.setIfInBounds_toArray, List.set_cons_zero, List.set_cons_succ]
              refine tk 1 ⟨some 46, .move (.tmp 5), 159, "read.go:54", #[], none⟩ (.slice (some ⟨b, 0, none⟩) 3 c) ?_
              simp only [Act.put, List.setIfInBounds_toArray, List.set_cons_zero, List.set_cons_succ]
              refine tk 2 ⟨some 47, .indexAddr 159 (.tmp 46) (.const (.int .i64 0)), 0, "read.go:54", #[⟨1, .data⟩], none⟩ (.pointer (some ⟨b, 0, none⟩)) ?_
              simp only [Act.put, List.setIfInBounds_toArray, List.set_cons_zero, List.set_cons_succ]
              refine tk 3 ⟨some 48, .fieldAddr 165 (.tmp 47) 0, 0, "read.go:54", #[⟨2, .data⟩], none⟩ (.pointer (some ⟨b, 0, none⟩)) ?_
              simp only [Act.put, List.setIfInBounds_toArray, List.set_cons_zero, List.set_cons_succ]
              refine tk 5 ⟨some 50, .move (.tmp 5), 159, "read.go:54", #[], none⟩ (.slice (some ⟨b, 0, none⟩) 3 c) ?_
              simp only [Act.put, List.setIfInBounds_toArray, List.set_cons_zero, List.set_cons_succ]
              refine tk 6 ⟨some 51, .indexAddr 159 (.tmp 50) (.const (.int .i64 1)), 0, "read.go:54", #[⟨5, .data⟩], none⟩ (.pointer (some ⟨b, 3, none⟩)) ?_
              simp only [Act.put, List.setIfInBounds_toArray, List.set_cons_zero, List.set_cons_succ]
              refine tk 7 ⟨some 52, .fieldAddr 165 (.tmp 51) 0, 0, "read.go:54", #[⟨6, .data⟩], none⟩ (.pointer (some ⟨b, 3, none⟩)) ?_
              simp only [Act.put, List.setIfInBounds_toArray, List.set_cons_zero, List.set_cons_succ]
              refine tk 9 ⟨some 54, .move (.tmp 5), 159, "read.go:54", #[], none⟩ (.slice (some ⟨b, 0, none⟩) 3 c) ?_
              simp only [Act.put, List.setIfInBounds_toArray, List.set_cons_zero, List.set_cons_succ]
              refine tk 10 ⟨some 55, .indexAddr 159 (.tmp 54) (.const (.int .i64 2)), 0, "read.go:54", #[⟨9, .data⟩], none⟩ (.pointer (some ⟨b, 6, none⟩)) ?_
              simp only [Act.put, List.setIfInBounds_toArray, List.set_cons_zero, List.set_cons_succ]
              refine tk 11 ⟨some 56, .fieldAddr 165 (.tmp 55) 0, 0, "read.go:54", #[⟨10, .data⟩], none⟩ (.pointer (some ⟨b, 6, none⟩)) ?_
              simp only [Act.put, List.setIfInBounds_toArray, List.set_cons_zero, List.set_cons_succ]
              refine wpAnyH_ready (rs := [4, 8, 12]) (by kernel_rfl) (by simp) (AllReadyH.cons (o := ⟨some 49, .load 9 (.tmp 48), 9, "read.go:54", #[⟨3, .data⟩], none⟩) rfl (fun KQ hK => ?_) (AllReadyH.cons (o := ⟨some 53, .load 9 (.tmp 52), 9, "read.go:54", #[⟨7, .data⟩], none⟩) rfl (fun KQ hK => ?_) (AllReadyH.cons (o := ⟨some 57, .load 9 (.tmp 56), 9, "read.go:54", #[⟨11, .data⟩], none⟩) rfl (fun KQ hK => ?_) AllReadyH.nil)))
              · have y0 : w3.cell? ⟨b, 0, none⟩ = some (.string ⟨x.text.toArray⟩) := Y3.out.wd.text 0 x rfl
                go_simp
                clear y0
                refine hK.out _ _ trivial (fun hHeld => ?_)
                clear hK KQ
                try simp only [Act.put, List.setIfInBounds_toArray, List.set_cons_zero, List.set_cons_succ]
                refine wpAnyH_ready (rs := [8, 12]) (by kernel_rfl) (by simp) (AllReadyH.cons (o := ⟨some 53, .load 9 (.tmp 52), 9, "read.go:54", #[⟨7, .data⟩], none⟩) rfl (fun KQ hK => ?_) (AllReadyH.cons (o := ⟨some 57, .load 9 (.tmp 56), 9, "read.go:54", #[⟨11, .data⟩], none⟩) rfl (fun KQ hK => ?_) AllReadyH.nil))
                · have y0 : w3.cell? ⟨b, 3, none⟩ = some (.string ⟨y.text.toArray⟩) := Y3.out.wd.text 1 y rfl
                  go_simp
                  clear y0
                  refine hK.out _ _ trivial (fun hHeld => ?_)
                  clear hK KQ
                  try simp only [Act.put, List.setIfInBounds_toArray, List.set_cons_zero, List.set_cons_succ]
                  refine wpAnyH_ready (rs := [12]) (by kernel_rfl) (by simp) (AllReadyH.cons (o := ⟨some 57, .load 9 (.tmp 56), 9, "read.go:54", #[⟨11, .data⟩], none⟩) rfl (fun KQ hK => ?_) AllReadyH.nil)
                  have y0 : w3.cell? ⟨b, 6, none⟩ = some (.string ⟨z.text.toArray⟩) := Y3.out.wd.text 2 z rfl
                  go_simp
                  clear y0
                  refine hK.out _ _ trivial (fun hHeld => ?_)
                  clear hK KQ
                  try simp only [Act.put, List.setIfInBounds_toArray, List.set_cons_zero, List.set_cons_succ]
                  refine wpAnyH_ready (rs := [13]) (by kernel_rfl) (by simp) (AllReadyH.cons (o := ⟨some 58, .call { callee := .value (.func 97), args := #[.tmp 45, .tmp 49, .tmp 53, .tmp 57], argTypes := #[158, 9, 9, 9] }, 87, "read.go:54", #[⟨0, .data⟩, ⟨4, .data⟩, ⟨8, .data⟩, ⟨12, .data⟩], none⟩) rfl (fun KQ hK => ?_) AllReadyH.nil)
                  go_simp
                  refine (HRO.out _ Y3.out.es Y3.out.s).mono ?_
                  rintro e w4 h4
                  obtain ⟨x9, rfl, h5⟩ := RdP.val h4
                  have Y4 := hid h5
                  clear h4 h5 Y3 HRO
                  go_wp2_with fail
                  refine hK.out _ _ trivial (fun hHeld => ?_)
                  clear hK KQ
                  try simp only [Act.put, List.setIfInBounds_toArray, List.set_cons_zero, List.set_cons_succ]
                  refine wpAnyH_ready (rs := [14]) (by kernel_rfl) (by simp) (AllReadyH.cons (o := ⟨some 4, .assign (.tmp 58), 87, "read.go:54", #[⟨13, .data⟩, ⟨13, .chain⟩, ⟨0, .phase⟩, ⟨1, .phase⟩, ⟨2, .phase⟩, ⟨3, .phase⟩, ⟨4, .phase⟩, ⟨5, .phase⟩, ⟨6, .phase⟩, ⟨7, .phase⟩, ⟨8, .phase⟩, ⟨9, .phase⟩, ⟨10, .phase⟩, ⟨11, .phase⟩, ⟨12, .phase⟩, ⟨13, .phase⟩], none⟩) rfl (fun KQ hK => ?_) AllReadyH.nil)
                  go_simp
                  refine hK.out _ _ trivial (fun hHeld => ?_)
                  clear hK KQ
                  try simp only [Act.put, List.setIfInBounds_toArray, List.set_cons_zero, List.set_cons_succ]
                  refine wpAnyH_done (by kernel_rfl) ?_ _
                  go_wp2_with fail
                  go_ret
                  rw [HR.out]
                  exact Y4.out
                · have y0 : w3.cell? ⟨b, 6, none⟩ = some (.string ⟨z.text.toArray⟩) := Y3.out.wd.text 2 z rfl
                  go_simp
                  clear y0
                  refine hK.out _ _ trivial (fun hHeld => ?_)
                  clear hK KQ
                  try simp only [Act.put, List.setIfInBounds_toArray, List.set_cons_zero, List.set_cons_succ]
                  refine wpAnyH_ready (rs := [8]) (by kernel_rfl) (by simp) (AllReadyH.cons (o := ⟨some 53, .load 9 (.tmp 52), 9, "read.go:54", #[⟨7, .data⟩], none⟩) rfl (fun KQ hK => ?_) AllReadyH.nil)
                  have y0 : w3.cell? ⟨b, 3, none⟩ = some (.string ⟨y.text.toArray⟩) := Y3.out.wd.text 1 y rfl
                  go_simp
                  clear y0
                  refine hK.out _ _ trivial (fun hHeld => ?_)
                  clear hK KQ
                  try simp only [Act.put, List.setIfInBounds_toArray, List.set_cons_zero, List.set_cons_succ]
                  refine wpAnyH_ready (rs := [13]) (by kernel_rfl) (by simp) (AllReadyH.cons (o := ⟨some 58, .call { callee := .value (.func 97), args := #[.tmp 45, .tmp 49, .tmp 53, .tmp 57], argTypes := #[158, 9, 9, 9] }, 87, "read.go:54", #[⟨0, .data⟩, ⟨4, .data⟩, ⟨8, .data⟩, ⟨12, .data⟩], none⟩) rfl (fun KQ hK => ?_) AllReadyH.nil)
                  go_simp
                  refine (HRO.out _ Y3.out.es Y3.out.s).mono ?_
                  rintro e w4 h4
                  obtain ⟨x9, rfl, h5⟩ := RdP.val h4
                  have Y4 := hid h5
                  clear h4 h5 Y3 HRO
                  go_wp2_with fail
                  refine hK.out _ _ trivial (fun hHeld => ?_)
                  clear hK KQ
                  try simp only [Act.put, List.setIfInBounds_toArray, List.set_cons_zero, List.set_cons_succ]
                  refine wpAnyH_ready (rs := [14]) (by kernel_rfl) (by simp) (AllReadyH.cons (o := ⟨some 4, .assign (.tmp 58), 87, "read.go:54", #[⟨13, .data⟩, ⟨13, .chain⟩, ⟨0, .phase⟩, ⟨1, .phase⟩, ⟨2, .phase⟩, ⟨3, .phase⟩, ⟨4, .phase⟩, ⟨5, .phase⟩, ⟨6, .phase⟩, ⟨7, .phase⟩, ⟨8, .phase⟩, ⟨9, .phase⟩, ⟨10, .phase⟩, ⟨11, .phase⟩, ⟨12, .phase⟩, ⟨13, .phase⟩], none⟩) rfl (fun KQ hK => ?_) AllReadyH.nil)
                  go_simp
                  refine hK.out _ _ trivial (fun hHeld => ?_)
                  clear hK KQ
                  try simp only [Act.put, List.setIfInBounds_toArray, List.set_cons_zero, List.set_cons_succ]
                  refine wpAnyH_done (by kernel_rfl) ?_ _
                  go_wp2_with fail
                  go_ret
                  rw [HR.out]
                  exact Y4.out
              · have y0 : w3.cell? ⟨b, 3, none⟩ = some (.string ⟨y.text.toArray⟩) := Y3.out.wd.text 1 y rfl
                go_simp
                clear y0
                refine hK.out _ _ trivial (fun hHeld => ?_)
                clear hK KQ
                try simp only [Act.put, List.setIfInBounds_toArray, List.set_cons_zero, List.set_cons_succ]
                refine wpAnyH_ready (rs := [4, 12]) (by kernel_rfl) (by simp) (AllReadyH.cons (o := ⟨some 49, .load 9 (.tmp 48), 9, "read.go:54", #[⟨3, .data⟩], none⟩) rfl (fun KQ hK => ?_) (AllReadyH.cons (o := ⟨some 57, .load 9 (.tmp 56), 9, "read.go:54", #[⟨11, .data⟩], none⟩) rfl (fun KQ hK => ?_) AllReadyH.nil))
                · have y0 : w3.cell? ⟨b, 0, none⟩ = some (.string ⟨x.text.toArray⟩) := Y3.out.wd.text 0 x rfl
                  go_simp
                  clear y0
                  refine hK.out _ _ trivial (fun hHeld => ?_)
                  clear hK KQ
                  try simp only [Act.put, List.setIfInBounds_toArray, List.set_cons_zero, List.set_cons_succ]
                  refine wpAnyH_ready (rs := [12]) (by kernel_rfl) (by simp) (AllReadyH.cons (o := ⟨some 57, .load 9 (.tmp 56), 9, "read.go:54", #[⟨11, .data⟩], none⟩) rfl (fun KQ hK => ?_) AllReadyH.nil)
                  have y0 : w3.cell? ⟨b, 6, none⟩ = some (.string ⟨z.text.toArray⟩) := Y3.out.wd.text 2 z rfl
                  go_simp
                  clear y0
                  refine hK.out _ _ trivial (fun hHeld => ?_)
                  clear hK KQ
                  try simp only [Act.put, List.setIfInBounds_toArray, List.set_cons_zero, List.set_cons_succ]
                  refine wpAnyH_ready (rs := [13]) (by kernel_rfl) (by simp) (AllReadyH.cons (o := ⟨some 58, .call { callee := .value (.func 97), args := #[.tmp 45, .tmp 49, .tmp 53, .tmp 57], argTypes := #[158, 9, 9, 9] }, 87, "read.go:54", #[⟨0, .data⟩, ⟨4, .data⟩, ⟨8, .data⟩, ⟨12, .data⟩], none⟩) rfl (fun KQ hK => ?_) AllReadyH.nil)
                  go_simp
                  refine (HRO.out _ Y3.out.es Y3.out.s).mono ?_
                  rintro e w4 h4
                  obtain ⟨x9, rfl, h5⟩ := RdP.val h4
                  have Y4 := hid h5
                  clear h4 h5 Y3 HRO
                  go_wp2_with fail
                  refine hK.out _ _ trivial (fun hHeld => ?_)
                  clear hK KQ
                  try simp only [Act.put, List.setIfInBounds_toArray, List.set_cons_zero, List.set_cons_succ]
                  refine wpAnyH_ready (rs := [14]) (by kernel_rfl) (by simp) (AllReadyH.cons (o := ⟨some 4, .assign (.tmp 58), 87, "read.go:54", #[⟨13, .data⟩, ⟨13, .chain⟩, ⟨0, .phase⟩, ⟨1, .phase⟩, ⟨2, .phase⟩, ⟨3, .phase⟩, ⟨4, .phase⟩, ⟨5, .phase⟩, ⟨6, .phase⟩, ⟨7, .phase⟩, ⟨8, .phase⟩, ⟨9, .phase⟩, ⟨10, .phase⟩, ⟨11, .phase⟩, ⟨12, .phase⟩, ⟨13, .phase⟩], none⟩) rfl (fun KQ hK => ?_) AllReadyH.nil)
                  go_simp
                  refine hK.out _ _ trivial (fun hHeld => ?_)
                  clear hK KQ
                  try simp only [Act.put, List.setIfInBounds_toArray, List.set_cons_zero, List.set_cons_succ]
                  refine wpAnyH_done (by kernel_rfl) ?_ _
                  go_wp2_with fail
                  go_ret
                  rw [HR.out]
                  exact Y4.out
                · have y0 : w3.cell? ⟨b, 6, none⟩ = some (.string ⟨z.text.toArray⟩) := Y3.out.wd.text 2 z rfl
                  go_simp
                  clear y0
                  refine hK.out _ _ trivial (fun hHeld => ?_)
                  clear hK KQ
                  try simp only [Act.put, List.setIfInBounds_toArray, List.set_cons_zero, List.set_cons_succ]
                  refine wpAnyH_ready (rs := [4]) (by kernel_rfl) (by simp) (AllReadyH.cons (o := ⟨some 49, .load 9 (.tmp 48), 9, "read.go:54", #[⟨3, .data⟩], none⟩) rfl (fun KQ hK => ?_) AllReadyH.nil)
                  have y0 : w3.cell? ⟨b, 0, none⟩ = some (.string ⟨x.text.toArray⟩) := Y3.out.wd.text 0 x rfl
                  go_simp
                  clear y0
                  refine hK.out _ _ trivial (fun hHeld => ?_)
                  clear hK KQ
                  try simp only [Act.put, List.setIfInBounds_toArray, List.set_cons_zero, List.set_cons_succ]
                  refine wpAnyH_ready (rs := [13]) (by kernel_rfl) (by simp) (AllReadyH.cons (o := ⟨some 58, .call { callee := .value (.func 97), args := #[.tmp 45, .tmp 49, .tmp 53, .tmp 57], argTypes := #[158, 9, 9, 9] }, 87, "read.go:54", #[⟨0, .data⟩, ⟨4, .data⟩, ⟨8, .data⟩, ⟨12, .data⟩], none⟩) rfl (fun KQ hK => ?_) AllReadyH.nil)
                  go_simp
                  refine (HRO.out _ Y3.out.es Y3.out.s).mono ?_
                  rintro e w4 h4
                  obtain ⟨x9, rfl, h5⟩ := RdP.val h4
                  have Y4 := hid h5
                  clear h4 h5 Y3 HRO
                  go_wp2_with fail
                  refine hK.out _ _ trivial (fun hHeld => ?_)
                  clear hK KQ
                  try simp only [Act.put, List.setIfInBounds_toArray, List.set_cons_zero, List.set_cons_succ]
                  refine wpAnyH_ready (rs := [14]) (by kernel_rfl) (by simp) (AllReadyH.cons (o := ⟨some 4, .assign (.tmp 58), 87, "read.go:54", #[⟨13, .data⟩, ⟨13, .chain⟩, ⟨0, .phase⟩, ⟨1, .phase⟩, ⟨2, .phase⟩, ⟨3, .phase⟩, ⟨4, .phase⟩, ⟨5, .phase⟩, ⟨6, .phase⟩, ⟨7, .phase⟩, ⟨8, .phase⟩, ⟨9, .phase⟩, ⟨10, .phase⟩, ⟨11, .phase⟩, ⟨12, .phase⟩, ⟨13, .phase⟩], none⟩) rfl (fun KQ hK => ?_) AllReadyH.nil)
                  go_simp
                  refine hK.out _ _ trivial (fun hHeld => ?_)
                  clear hK KQ
                  try simp only [Act.put, List.setIfInBounds_toArray, List.set_cons_zero, List.set_cons_succ]
                  refine wpAnyH_done (by kernel_rfl) ?_ _
                  go_wp2_with fail
                  go_ret
                  rw [HR.out]
                  exact Y4.out
              · have y0 : w3.cell? ⟨b, 6, none⟩ = some (.string ⟨z.text.toArray⟩) := Y3.out.wd.text 2 z rfl
                go_simp
                clear y0
                refine hK.out _ _ trivial (fun hHeld => ?_)
                clear hK KQ
                try simp only [Act.put, List.setIfInBounds_toArray, List.set_cons_zero, List.set_cons_succ]
                refine wpAnyH_ready (rs := [4, 8]) (by kernel_rfl) (by simp) (AllReadyH.cons (o := ⟨some 49, .load 9 (.tmp 48), 9, "read.go:54", #[⟨3, .data⟩], none⟩) rfl (fun KQ hK => ?_) (AllReadyH.cons (o := ⟨some 53, .load 9 (.tmp 52), 9, "read.go:54", #[⟨7, .data⟩], none⟩) rfl (fun KQ hK => ?_) AllReadyH.nil))
                · have y0 : w3.cell? ⟨b, 0, none⟩ = some (.string ⟨x.text.toArray⟩) := Y3.out.wd.text 0 x rfl
                  go_simp
                  clear y0
                  refine hK.out _ _ trivial (fun hHeld => ?_)
                  clear hK KQ
                  try simp only [Act.put, List.setIfInBounds_toArray, List.set_cons_zero, List.set_cons_succ]
                  refine wpAnyH_ready (rs := [8]) (by kernel_rfl) (by simp) (AllReadyH.cons (o := ⟨some 53, .load 9 (.tmp 52), 9, "read.go:54", #[⟨7, .data⟩], none⟩) rfl (fun KQ hK => ?_) AllReadyH.nil)
                  have y0 : w3.cell? ⟨b, 3, none⟩ = some (.string ⟨y.text.toArray⟩) := Y3.out.wd.text 1 y rfl
                  go_simp
                  clear y0
                  refine hK.out _ _ trivial (fun hHeld => ?_)
                  clear hK KQ
                  try simp only [Act.put, List.setIfInBounds_toArray, List.set_cons_zero, List.set_cons_succ]
                  refine wpAnyH_ready (rs := [13]) (by kernel_rfl) (by simp) (AllReadyH.cons (o := ⟨some 58, .call { callee := .value (.func 97), args := #[.tmp 45, .tmp 49, .tmp 53, .tmp 57], argTypes := #[158, 9, 9, 9] }, 87, "read.go:54", #[⟨0, .data⟩, ⟨4, .data⟩, ⟨8, .data⟩, ⟨12, .data⟩], none⟩) rfl (fun KQ hK => ?_) AllReadyH.nil)
                  go_simp
                  refine (HRO.out _ Y3.out.es Y3.out.s).mono ?_
                  rintro e w4 h4
                  obtain ⟨x9, rfl, h5⟩ := RdP.val h4
                  have Y4 := hid h5
                  clear h4 h5 Y3 HRO
                  go_wp2_with fail
                  refine hK.out _ _ trivial (fun hHeld => ?_)
                  clear hK KQ
                  try simp only [Act.put, List.setIfInBounds_toArray, List.set_cons_zero, List.set_cons_succ]
                  refine wpAnyH_ready (rs := [14]) (by kernel_rfl) (by simp) (AllReadyH.cons (o := ⟨some 4, .assign (.tmp 58), 87, "read.go:54", #[⟨13, .data⟩, ⟨13, .chain⟩, ⟨0, .phase⟩, ⟨1, .phase⟩, ⟨2, .phase⟩, ⟨3, .phase⟩, ⟨4, .phase⟩, ⟨5, .phase⟩, ⟨6, .phase⟩, ⟨7, .phase⟩, ⟨8, .phase⟩, ⟨9, .phase⟩, ⟨10, .phase⟩, ⟨11, .phase⟩, ⟨12, .phase⟩, ⟨13, .phase⟩], none⟩) rfl (fun KQ hK => ?_) AllReadyH.nil)
                  go_simp
                  refine hK.out _ _ trivial (fun hHeld => ?_)
                  clear hK KQ
                  try simp only [Act.put, List.setIfInBounds_toArray, List.set_cons_zero, List.set_cons_succ]
                  refine wpAnyH_done (by kernel_rfl) ?_ _
                  go_wp2_with fail
                  go_ret
                  rw [HR.out]
                  exact Y4.out
                · have y0 : w3.cell? ⟨b, 3, none⟩ = some (.string ⟨y.text.toArray⟩) := Y3.out.wd.text 1 y rfl
                  go_simp
                  clear y0
                  refine hK.out _ _ trivial (fun hHeld => ?_)
                  clear hK KQ
                  try simp only [Act.put, List.setIfInBounds_toArray, List.set_cons_zero, List.set_cons_succ]
                  refine wpAnyH_ready (rs := [4]) (by kernel_rfl) (by simp) (AllReadyH.cons (o := ⟨some 49, .load 9 (.tmp 48), 9, "read.go:54", #[⟨3, .data⟩], none⟩) rfl (fun KQ hK => ?_) AllReadyH.nil)
                  have y0 : w3.cell? ⟨b, 0, none⟩ = some (.string ⟨x.text.toArray⟩) := Y3.out.wd.text 0 x rfl
                  go_simp
                  clear y0
                  refine hK.out _ _ trivial (fun hHeld => ?_)
                  clear hK KQ
                  try simp only [Act.put, List.setIfInBounds_toArray, List.set_cons_zero, List.set_cons_succ]
                  refine wpAnyH_ready (rs := [13]) (by kernel_rfl) (by simp) (AllReadyH.cons (o := ⟨some 58, .call { callee := .value (.func 97), args := #[.tmp 45, .tmp 49, .tmp 53, .tmp 57], argTypes := #[158, 9, 9, 9] }, 87, "read.go:54", #[⟨0, .data⟩, ⟨4, .data⟩, ⟨8, .data⟩, ⟨12, .data⟩], none⟩) rfl (fun KQ hK => ?_) AllReadyH.nil)
                  go_simp
                  refine (HRO.out _ Y3.out.es Y3.out.s).mono ?_
                  rintro e w4 h4
                  obtain ⟨x9, rfl, h5⟩ := RdP.val h4
                  have Y4 := hid h5
                  clear h4 h5 Y3 HRO
                  go_wp2_with fail
                  refine hK.out _ _ trivial (fun hHeld => ?_)
                  clear hK KQ
                  try simp only [Act.put, List.setIfInBounds_toArray, List.set_cons_zero, List.set_cons_succ]
                  refine wpAnyH_ready (rs := [14]) (by kernel_rfl) (by simp) (AllReadyH.cons (o := ⟨some 4, .assign (.tmp 58), 87, "read.go:54", #[⟨13, .data⟩, ⟨13, .chain⟩, ⟨0, .phase⟩, ⟨1, .phase⟩, ⟨2, .phase⟩, ⟨3, .phase⟩, ⟨4, .phase⟩, ⟨5, .phase⟩, ⟨6, .phase⟩, ⟨7, .phase⟩, ⟨8, .phase⟩, ⟨9, .phase⟩, ⟨10, .phase⟩, ⟨11, .phase⟩, ⟨12, .phase⟩, ⟨13, .phase⟩], none⟩) rfl (fun KQ hK => ?_) AllReadyH.nil)
                  go_simp
                  refine hK.out _ _ trivial (fun hHeld => ?_)
                  clear hK KQ
                  try simp only [Act.put, List.setIfInBounds_toArray, List.set_cons_zero, List.set_cons_succ]
                  refine wpAnyH_done (by kernel_rfl) ?_ _
                  go_wp2_with fail
                  go_ret
                  rw [HR.out]
                  exact Y4.out
            · have HR := hid (HR0.out.trans (rdWords_else h0 l2 l3))
              have i2 : ((ws.length : Int) == 2) = false := by simp; omega
              have i3 : ((ws.length : Int) == 3) = false := by simp; omega
              clear l2 l3 h0 hq he hmax HZ
              go_wp2_with fail
              go_ret
              rw [HR.out]
              exact RdP.err Y2.out.s.bl
end Go.Proofs.YtbpdmkohihgnjaaDoor
namespace Go.Proofs
open Go.Shelf
def Tryd.lays146_ren : Go.Shelf.Ren := ⟨fun | 146 => 93 | 221 => 110 | 268 => 125 | 138 => 126 | 143 => 127 | 195 => 133 | 197 => 134 | 218 => 135 | 219 => 136 | 260 => 139 | 217 => 140 | 225 => 141 | 224 => 142 | 267 => 143 | 266 => 146 | 314 => 147 | n => n, fun | 9 => 9 | 31 => 130 | 3 => 3 | 4 => 4 | 0 => 0 | 105 => 221 | 21 => 21 | 5 => 5 | 46 => 32 | 119 => 227 | 139 => 230 | 138 => 229 | 146 => 231 | 51 => 22 | n => n, fun | 1 => 10 | 3 => 11 | 4 => 12 | n => n⟩
theorem Tryd.lays146 : Go.Proofs.Lays.n146 Tryd.prog Tryd.lays146_ren := {
  mixed := by kernel_rfl
  f138 := Tryd.func126.trans (congrArg some (by kernel_rfl))
  f143 := Tryd.func127.trans (congrArg some (by kernel_rfl))
  f146 := Tryd.func93.trans (congrArg some (by kernel_rfl))
  f195 := Tryd.func133.trans (congrArg some (by kernel_rfl))
  f197 := Tryd.func134.trans (congrArg some (by kernel_rfl))
  f217 := Tryd.func140.trans (congrArg some (by kernel_rfl))
  f218 := Tryd.func135.trans (congrArg some (by kernel_rfl))
  f219 := Tryd.func136.trans (congrArg some (by kernel_rfl))
  f221 := Tryd.func110.trans (congrArg some (by kernel_rfl))
  f224 := Tryd.func142.trans (congrArg some (by kernel_rfl))
  f225 := Tryd.func141.trans (congrArg some (by kernel_rfl))
  f260 := Tryd.func139.trans (congrArg some (by kernel_rfl))
  f266 := Tryd.func146.trans (congrArg some (by kernel_rfl))
  f267 := Tryd.func143.trans (congrArg some (by kernel_rfl))
  f268 := Tryd.func125.trans (congrArg some (by kernel_rfl))
  f314 := Tryd.func147.trans (congrArg some (by kernel_rfl))
  t0 := Tryd.underlying0
  a0 := Tryd.isAgg0
  z0 := Tryd.sizeOf0
  v0 := Tryd.zeroValue0
  t3 := Tryd.underlying3
  a3 := Tryd.isAgg3
  z3 := Tryd.sizeOf3
  v3 := Tryd.zeroValue3
  t4 := Tryd.underlying4
  a4 := Tryd.isAgg4
  z4 := Tryd.sizeOf4
  v4 := Tryd.zeroValue4
  t5 := Tryd.underlying5
  a5 := Tryd.isAgg5
  z5 := Tryd.sizeOf5
  v5 := Tryd.zeroValue5
  t9 := Tryd.underlying9
  a9 := Tryd.isAgg9
  z9 := Tryd.sizeOf9
  v9 := Tryd.zeroValue9
  t21 := Tryd.underlying21
  a21 := Tryd.isAgg21
  z21 := Tryd.sizeOf21
  v21 := Tryd.zeroValue21
  t31 := Tryd.underlying130
  a31 := Tryd.isAgg130
  z31 := Tryd.sizeOf130
  v31 := Tryd.zeroValue130
  t46 := Tryd.underlying32
  a46 := Tryd.isAgg32
  z46 := Tryd.sizeOf32
  v46 := Tryd.zeroValue32
  t51 := Tryd.underlying22
  a51 := Tryd.isAgg22
  z51 := Tryd.sizeOf22
  v51 := Tryd.zeroValue22
  t105 := Tryd.underlying221
  a105 := Tryd.isAgg221
  z105 := Tryd.sizeOf221
  v105 := Tryd.zeroValue221
  t119 := Tryd.underlying227
  a119 := Tryd.isAgg227
  z119 := Tryd.sizeOf227
  t138 := Tryd.underlying229
  a138 := Tryd.isAgg229
  z138 := Tryd.sizeOf229
  v138 := Tryd.zeroValue229
  t139 := Tryd.underlying230
  a139 := Tryd.isAgg230
  z139 := Tryd.sizeOf230
  v139 := Tryd.zeroValue230
  t146 := Tryd.underlying231
  a146 := Tryd.isAgg231
  z146 := Tryd.sizeOf231
  v146 := Tryd.zeroValue231
  g1 := by kernel_rfl
  g3 := by kernel_rfl
  g4 := by kernel_rfl }
open Go.RowKit Go.Lib in
theorem Tryd.strings_Split (s sep : ByteArray) (m : Int) (w : World) (hs : s.size < 4294967281) (hm : w.cell? ⟨10, 0, none⟩ = some (.int .i64 m)) (h1 : 1 ≤ sep.size) :
    Calls Tryd.prog 93 #[.string s, .string sep] w fun e w' =>
      e = .returned (.slice (some ⟨w.heap.size, 0, none⟩) (Lib.countB s sep + 1) (Lib.countB s sep + 1)) ∧ w' = w.alloc (.cells ((Lib.splitB sep 0 (Lib.countB s sep) s).map Value.string).toArray 9) := Any.strings_Split Tryd.lays146 (by kernel_rfl) s sep m w hs hm h1
end Go.Proofs
namespace Go.Proofs.YtbpdmkohihgnjaaDoor.L
open Go.RowKit
theorem keep_block {w w' : World} {B n g : Nat} {e e' : TypeId} {z : Nat} {v : Value} {xs : List Value} {cur : Array Value} {fr : Nat × Nat} (hown : w.ownsRow B e z v n xs) (h2 : w.grownBy w' v.ownBlock) (hg : w.heap[g]? = some (.cells cur e' fr)) (hne : e' ≠ e) : w'.heap[g]? = some (.cells cur e' fr) := by
  rw [h2.block g (Array.getElem?_eq_some_iff.1 hg).1 ?_]
  · exact hg
  · intro he
    rcases hown.2 with ⟨rfl, _⟩ | ⟨g', cap, cur', rfl, _, hg', _⟩
    · cases he
    · simp only [Value.ownBlock, Option.some.injEq] at he
      subst he
      rw [hg] at hg'
      injection hg' with hh
      injection hh with h1 h2 h3
      exact hne h2
theorem HW.grown {W w w' : World} {u : Value} {ws : List T.Wd} {v : Value} {n : Nat} {xs : List Value} {e : TypeId} {z : Nat} (h : HW W w u ws) (hown : w.ownsRow W.heap.size e z v n xs) (h2 : w.grownBy w' v.ownBlock) (hne : (165 : TypeId) ≠ e) : HW W w' u ws :=
  ⟨⟨h.own.1, h.own.2.imp id fun ⟨g, cap, cur, hv, hb, hg, r⟩ => ⟨g, cap, cur, hv, hb, keep_block hown h2 hg hne, r⟩⟩, h.below.grown h2 h.below.size fun g hg => (hown.lt g hg).1⟩
theorem HB.grown {W w w' : World} {u : Value} {l : List UInt8} {v : Value} {n : Nat} {xs : List Value} {e : TypeId} {z : Nat} (h : HB W w u l) (hown : w.ownsRow W.heap.size e z v n xs) (h2 : w.grownBy w' v.ownBlock) (hne : (5 : TypeId) ≠ e) : HB W w' u l :=
  ⟨⟨h.own.1, h.own.2.imp id fun ⟨g, cap, cur, hv, hb, hg, r⟩ => ⟨g, cap, cur, hv, hb, keep_block hown h2 hg hne, r⟩⟩, h.below.grown h2 h.below.size fun g hg => (hown.lt g hg).1⟩
end Go.Proofs.YtbpdmkohihgnjaaDoor.L
namespace Go.Proofs.YtbpdmkohihgnjaaDoor.L
open Go.RowKit

/-! ### Widths -/
namespace T
def mrg : List Nat → List (List UInt8) → List Nat
  | ws, [] => ws
  | [], c :: r => c.length :: mrg [] r
  | w :: ws, c :: r => max w c.length :: mrg ws r
def widths (rows : List (List (List UInt8))) : List Nat := rows.foldl mrg []
def trim (l : List UInt8) : List UInt8 := Lib.trimRightB l 32
def upTo (row : List (List UInt8)) : Nat := (row.reverse.dropWhile fun c => (trim c).isEmpty).length
def fillTo (ws : List Nat) (i : Nat) (c : List UInt8) : List UInt8 := c ++ List.replicate (ws.getD i 0 - c.length) 32 ++ [32, 32]
def fills (ws : List Nat) (row : List (List UInt8)) (k : Nat) : List UInt8 := ((List.range k).map fun i => fillTo ws i (row.getD i [])).flatten
def line (ws : List Nat) (row : List (List UInt8)) : List UInt8 := if upTo row = 0 then [] else fills ws row (upTo row - 1) ++ trim (row.getD (upTo row - 1) [])
def table (rows : List (List (List UInt8))) (ws : List Nat) : List UInt8 := (rows.map fun r => line ws r ++ [10]).flatten
def columns (rows : List (List (List UInt8))) : List UInt8 := table rows (widths rows)
end T
/-! ### Own lists of one-cell values -/
structure HV (W wr : World) (e : TypeId) (v : Value) (xs : List Value) : Prop where
  own : wr.ownsRow W.heap.size e 1 v xs.length xs
  below : Below W.heap.size W wr
theorem HV.nil {W w : World} (e : TypeId) (hb : Below W.heap.size W w) : HV W w e (.slice none 0 0) [] := ⟨World.ownsRow_nil w _ e 1, hb⟩
theorem HV.alloc {W wr : World} {e : TypeId} {v : Value} {l : List Value} (h : HV W wr e v l) (o : Obj) : HV W (wr.alloc o) e v l := ⟨h.own.alloc o, h.below.alloc h.below.size o⟩
theorem HV.drew {W wr : World} {e : TypeId} {v : Value} {l : List Value} (h : HV W wr e v l) : HV W wr.drew e v l := ⟨h.own, h.below.drew⟩
theorem HV.on {W wr w : World} {e : TypeId} {v : Value} {l : List Value} (h : HV W wr e v l) (hb : Below wr.heap.size wr w) : HV W w e v l := ⟨own_below h.own hb, h.below.trans (hb.mono h.below.size)⟩
theorem HV.form {W wr : World} {e : TypeId} {v : Value} {xs : List Value} (h : HV W wr e v xs) (hn : 0 < xs.length) : ∃ g cap cur, v = .slice (some ⟨g, 0, none⟩) xs.length cap ∧ W.heap.size ≤ g ∧ g < wr.heap.size ∧ wr.heap[g]? = some (.cells cur e (0, 0)) ∧ xs.length ≤ cap ∧ cap ≤ maxLen ∧ cur.size = cap ∧ cur.toList.take xs.length = xs := by
  rcases h.own.2 with ⟨_, h0⟩ | ⟨g, cap, cur, h1, h2, h3, h4, h5, h6, h7⟩
  · omega
  · exact ⟨g, cap, cur, h1, h2, (Array.getElem?_eq_some_iff.1 h3).1, h3, h4, h5, by omega, by rw [Nat.mul_one] at h7; exact h7⟩
theorem HV.any {W wr : World} {e : TypeId} {v : Value} {xs : List Value} (h : HV W wr e v xs) : ∃ ao cap, v = .slice ao xs.length cap := by
  obtain ⟨ao, cc, hv⟩ := own_form h.own
  exact ⟨ao, cc, hv⟩
theorem HV.cell {W wr : World} {e : TypeId} {g cap : Nat} {xs : List Value} {n : Nat} (h : HV W wr e (.slice (some ⟨g, 0, none⟩) n cap) xs) (j : Nat) (u : Value) (hj : xs[j]? = some u) : wr.cell? ⟨g, j, none⟩ = some u := by
  have := h.own.cells (g := g) rfl j u hj
  rw [Addr.add_mid, Nat.zero_add] at this
  exact this
theorem HV.free {W wr : World} {e : TypeId} {g cap : Nat} {xs : List Value} {n : Nat} (h : HV W wr e (.slice (some ⟨g, 0, none⟩) n cap) xs) (j : Nat) : wr.frozen? ⟨g, j, none⟩ = false := by
  rcases h.own.2 with ⟨h0, _⟩ | ⟨g', cap', cur, h1, h2, h3, _⟩
  · cases h0
  · cases h1
    exact Lib.frozen_of_heap h3 j
theorem HV.set {W wr : World} {e : TypeId} {g cap : Nat} {xs : List Value} {n : Nat} (h : HV W wr e (.slice (some ⟨g, 0, none⟩) n cap) xs) (j : Nat) (u : Value) : HV W (wr.setCell ⟨g, j, none⟩ u) e (.slice (some ⟨g, 0, none⟩) n cap) (xs.set j u) := by
  rcases h.own.2 with ⟨h0, _⟩ | ⟨g', cap', cur, h1, h2, h3, h4, h5, h6, h7⟩
  · cases h0
  · injection h1 with a1 a2 a3
    injection a1 with a1
    injection a1 with a1
    subst a1 a3
    refine ⟨⟨by simp, .inr ⟨g, cap, cur.setIfInBounds j u, ?_, h2, ?_, ?_, h5, by simpa using h6, ?_⟩⟩, h.below.setCell (p := ⟨g, j, none⟩) h2 u⟩
    · rw [List.length_set, a2]
    · exact heap_setCell_same wr g j _ e _ h3
    · rw [List.length_set]; exact h4
    · rw [List.length_set, Array.toList_setIfInBounds, List.take_set, h7]
end Go.Proofs.YtbpdmkohihgnjaaDoor.L
