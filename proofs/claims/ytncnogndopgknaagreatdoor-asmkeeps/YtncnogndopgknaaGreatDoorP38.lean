import Derived.Test.YtncnogndopgknaaGreatDoorP37
import Derived.Test.YtncnogndopgknaaGreatDoorP01
import Derived.Test.YtncnogndopgknaaGreatDoorP34
namespace Go.Proofs.YtncnogndopgknaaGreatDoor
open Go.RowKit
namespace A
end A
set_option maxRecDepth 40000 in
set_option maxHeartbeats 2000000 in
theorem print_any (W : World) (hT : TB W) (ao : Option Addr) (n c : Nat) (ws : List Nat) (hl : ws.length = n) (hat : AtW W ao ws) (hw : ∀ x ∈ ws, x < 4294967296) (base : Int) :
    Calls Tryz.prog 15 #[.slice ao n c, .int .u32 base] W fun e w' => e = .returned (.tuple #[.string ⟨(A.prt ws).toArray⟩, .int .i64 (A.prtE ws)]) ∧ Below W.heap.size W w' := by
  by_cases hn : n ≤ 2048
  · have HR : Hid (A.prt ws = A.txt ws (n + 1) ∧ A.prtE ws = 0) := hid (by unfold A.prt A.prtE; rw [hl, if_pos hn, if_pos hn]; exact ⟨rfl, rfl⟩)
    rw [HR.out.1, HR.out.2]
    have n1 : (n : Int) ≤ 2048 := by omega
    have HT : Hid (∀ x, Below W.heap.size W x → TB x) := hid (fun x hx => hT.on hx)
    have HA : Hid (AtW W ao ws) := hat
    have HLN : Hid (ws.length = n) := hl
    have HW : Hid (∀ x ∈ ws, x < 4294967296) := hw
    have H9 := hid (targetNames_any W hT ao n c ws hl hn hat hw)
    have HTL : Hid (∀ k, k ≤ n + 1 → (A.txt ws k).length ≤ 210000) := hid (fun k hk => by have := A.txt_len ws (by omega) k (by omega); omega)
    clear hT hat hl hw HR
    go_enter Tryz.func15, Tryz.ntmps15
    go_wp2_with (go_at_call 30; refine H9.out.mono ?_; rintro e V ⟨⟨g, rfl, hg, hc9⟩, hbV⟩)
    have HBV : Hid (Below W.heap.size W V ∧ Cel V g 9 (A.nms ws (n + 1))) := hid ⟨hbV, hc9⟩
    have HBL : Hid (BL V (V.alloc (.cells #[.pointer none, .slice none 0 0] 93)) V.heap.size (A.txt ws 0)) := hid (BL.fresh V)
    clear H9 hg hc9 hbV
    generalize V.alloc (.cells #[.pointer none, .slice none 0 0] 93) = X at *
    generalize hbb : V.heap.size = bb at HBL ⊢
    clear hbb
    go_loopw [8, 9, 17] (fun _ _ i wr => ∃ k : Nat, k ≤ n + 1 ∧ i = .int .i64 k ∧ Hid (BL V wr bb (A.txt ws k))) (fun _ _ i _ => n + 1 - (intOf i).toNat)
    case atStart => exact ⟨0, Nat.zero_le _, rfl, HBL⟩
    case round =>
      clear HBL
      obtain ⟨k, hk, rfl, HB⟩ := hrel
      by_cases hlt : k < n + 1
      · have c1 : (k : Int) < (n : Int) + 1 := by omega
        have hnc : wr.cell? ⟨g, k, none⟩ = some (.string ⟨(A.nmAt ws k).toArray⟩) := by
          rw [(HBV.out.2.on HB.out.below).cell k, A.nms_at ws (n + 1) k (by rw [HLN.out]; omega), if_pos hlt]
        have hnl := A.nmAt_len ws k (by omega)
        have HTX : Hid (A.txt ws (k + 1) = A.txt ws k ++ A.row ws k) := hid (A.txt_succ ws k)
        have HLK := hid (HTL.out k hk)
        have HRW : Hid (A.row ws k = (if A.nmAt ws k = [] then [] else A.nmAt ws k ++ [58, 10]) ++ (if k < n then A.lin (ws.getD k 0 : Nat) (A.lab ws k) ++ [10] else [])) := hid (by unfold A.row; rw [HLN.out])
        by_cases hkn : k < n
        · have c2 : (k : Int) < (n : Int) := by omega
          have hkl : k < ws.length := by rw [HLN.out]; exact hkn
          rcases HA.out with h0 | ⟨b, o, rfl, hb, hc⟩
          · rw [h0] at hkl; simp at hkl
          have HU : Hid (∀ x, Below V.heap.size V x → x.cell? ⟨b, o + k, none⟩ = some (.int .u32 ((ws.getD k 0 : Nat) : Int))) := hid (fun x hx => by
            rw [(HBV.out.1.trans (hx.mono HBV.out.1.size)).cell (p := ⟨b, o + k, none⟩) hb, hc k hkl, List.getD_eq_getElem?_getD, List.getElem?_eq_getElem hkl, Option.getD_some])
          have hu : ws.getD k 0 < 4294967296 := by
            rw [List.getD_eq_getElem?_getD, List.getElem?_eq_getElem hkl, Option.getD_some]
            exact HW.out _ (List.getElem_mem _)
          have H12 : Hid (∀ x, Below V.heap.size V x → Calls Tryz.prog 33 #[.slice (some ⟨b, o, none⟩) n c, .int .i64 (k : Int), .slice (some ⟨g, 0, none⟩) (n + 1) (n + 1)] x fun e w' => e = .returned (.string ⟨(A.lab ws k).toArray⟩) ∧ Below x.heap.size x w') := hid (fun x hx => labelOf_any x (HT.out x (HBV.out.1.trans (hx.mono HBV.out.1.size))) _ n c g ws HLN.out hn (HA.out.on (HBV.out.1.trans (hx.mono HBV.out.1.size))) HW.out (HBV.out.2.on hx) k hkn)
          have H11 : Hid (∀ x, Below V.heap.size V x → Calls Tryz.prog 32 #[.int .u32 ((ws.getD k 0 : Nat) : Int), .string ⟨(A.lab ws k).toArray⟩] x fun e w' => e = .returned (.string ⟨(A.lin (ws.getD k 0 : Nat) (A.lab ws k)).toArray⟩) ∧ Below x.heap.size x w') := hid (fun x hx => lineWith_any x (HT.out x (HBV.out.1.trans (hx.mono HBV.out.1.size))) _ (by omega) (by omega) _ (A.lab_len ws k (by rw [HLN.out]; omega)))
          have hll := A.lin_len (ws.getD k 0 : Nat) (A.lab ws k) (A.lab_len ws k (by rw [HLN.out]; omega))
          have x9 := bap (A.lin (ws.getD k 0 : Nat) (A.lab ws k)) [10]
          rw [if_pos hkn] at HRW
          clear hc hkl hu
          generalize A.lin (ws.getD k 0 : Nat) (A.lab ws k) = ln at *
          generalize A.lab ws k = lb at *
          generalize ws.getD k 0 = u at *
          generalize A.row ws k = rw6 at *
          have k0 : 0 ≤ (k : Int) := by omega
          by_cases hnm : A.nmAt ws k = []
          · rw [hnm] at hnc HRW
            rw [if_pos rfl, List.nil_append] at HRW
            have HB1 : Hid (BL V wr bb (A.txt ws k)) := HB
            have HLL : Hid ((A.txt ws k).length ≤ 210020) := hid (by have := HLK.out; omega)
            have HFin : Hid (A.txt ws (k + 1) = A.txt ws k ++ (ln ++ [10])) := hid (by rw [HTX.out, HRW.out])
            clear HB HLK HTX HRW hnl
            generalize A.txt ws k = tx at *
            go_wp2_with fail
            refine wp_region_held_drew (S := fun x => Below V.heap.size V x) (by kernel_rfl) (HB1.out.drew.below) (fun hHeld => ?_)
            refine tk 0 ⟨some 31, .move (.tmp 0), 24, "print.go:23", #[], none⟩ (.slice (some ⟨b, o, none⟩) n c) ?_
            simp only [Act.put, List.setIfInBounds_toArray, List.set_cons_zero, List.set_cons_succ]
            refine tk 1 ⟨some 32, .move (.tmp 8), 3, "print.go:23", #[], none⟩ (.int .i64 (k : Int)) ?_
            simp only [Act.put, List.setIfInBounds_toArray, List.set_cons_zero, List.set_cons_succ]
            refine tk 2 ⟨some 33, .indexAddr 24 (.tmp 31) (.tmp 32), 0, "print.go:23", #[⟨0, .data⟩, ⟨1, .data⟩], none⟩ (.pointer (some ⟨b, o + k, none⟩)) ?_
            simp only [Act.put, List.setIfInBounds_toArray, List.set_cons_zero, List.set_cons_succ]
            refine tk 3 ⟨some 34, .load 22 (.tmp 33), 22, "print.go:23", #[⟨2, .data⟩], none⟩ (.int .u32 (u : Int)) ?_ (hy := Or.inl ⟨by rfl, by intro w hSw; have hcc := HU.out w hSw; go_simp⟩)
            simp only [Act.put, List.setIfInBounds_toArray, List.set_cons_zero, List.set_cons_succ]
            refine tk 4 ⟨some 35, .move (.tmp 0), 24, "print.go:23", #[], none⟩ (.slice (some ⟨b, o, none⟩) n c) ?_
            simp only [Act.put, List.setIfInBounds_toArray, List.set_cons_zero, List.set_cons_succ]
            refine tk 5 ⟨some 36, .move (.tmp 8), 3, "print.go:23", #[], none⟩ (.int .i64 (k : Int)) ?_
            simp only [Act.put, List.setIfInBounds_toArray, List.set_cons_zero, List.set_cons_succ]
            refine tk 6 ⟨some 37, .move (.tmp 6), 88, "print.go:23", #[], none⟩ (.slice (some ⟨g, 0, none⟩) (n + 1) (n + 1)) ?_
            simp only [Act.put, List.setIfInBounds_toArray, List.set_cons_zero, List.set_cons_succ]
            refine wpAnyH_ready (rs := [7]) (by kernel_rfl) (by simp) (AllReadyH.cons (o := ⟨some 38, .call { callee := .value (.func 33), args := #[.tmp 35, .tmp 36, .tmp 37], argTypes := #[24, 3, 88] }, 9, "print.go:23", #[⟨4, .data⟩, ⟨5, .data⟩, ⟨6, .data⟩], none⟩) rfl (fun KQ hK => ?_) AllReadyH.nil)
            go_simp
            refine (H12.out _ HB1.out.drew.below).mono ?_
            rintro e w7 ⟨rfl, hb7⟩
            have HB7 : Hid (BL V w7 bb tx) := hid (HB1.out.drew.on hb7)
            go_wp2_with fail
            refine hK.out _ _ HB7.out.below (fun hHeld => ?_)
            clear hK KQ
            try simp only [Act.put, List.setIfInBounds_toArray, List.set_cons_zero, List.set_cons_succ]
            refine wpAnyH_ready (rs := [8]) (by kernel_rfl) (by simp) (AllReadyH.cons (o := ⟨some 39, .call { callee := .value (.func 32), args := #[.tmp 34, .tmp 38], argTypes := #[22, 9] }, 9, "print.go:23", #[⟨3, .data⟩, ⟨7, .data⟩, ⟨7, .chain⟩], none⟩) rfl (fun KQ hK => ?_) AllReadyH.nil)
            go_simp
            refine (H11.out _ HB7.out.below).mono ?_
            rintro e w8 ⟨rfl, hb8⟩
            have HB8 : Hid (BL V w8 bb tx) := hid (HB7.out.on hb8)
            go_wp2_with fail
            refine hK.out _ _ HB8.out.below (fun hHeld => ?_)
            clear hK KQ
            try simp only [Act.put, List.setIfInBounds_toArray, List.set_cons_zero, List.set_cons_succ]
            refine tk 9 ⟨some 40, .binOp .add 9 (.tmp 39) (.const (.string { data := #[10] })) 9, 9, "print.go:23", #[⟨8, .data⟩], none⟩ (.string ⟨(ln ++ [10]).toArray⟩) ?_ (hy := Or.inl ⟨by rfl, by intro w hSw; go_simp; omega⟩)
            simp only [Act.put, List.setIfInBounds_toArray, List.set_cons_zero, List.set_cons_succ]
            refine wpAnyH_ready (rs := [10]) (by kernel_rfl) (by simp) (AllReadyH.cons (o := ⟨some 41, .call { callee := .value (.func 31), args := #[.tmp 7, .tmp 40], argTypes := #[93, 9] }, 94, "print.go:23", #[⟨9, .data⟩, ⟨8, .chain⟩], none⟩) rfl (fun KQ hK => ?_) AllReadyH.nil)
            go_simp
            refine (write_any V w8 bb tx (ln ++ [10]) HB8.out (by have := HLL.out; simp only [List.length_append, List.length_cons, List.length_nil] at *; omega)).mono ?_
            rintro e w10 ⟨rfl, hB10⟩
            go_wp2_with fail
            refine hK.out _ _ hB10.below (fun hHeld => ?_)
            clear hK KQ
            try simp only [Act.put, List.setIfInBounds_toArray, List.set_cons_zero, List.set_cons_succ]
            refine wpAnyH_done (by kernel_rfl) ?_ _
            clear hHeld
            go_wp2_with fail
            go_roundw
            case measure => simp [intOf] <;> omega
            case rel => exact ⟨k + 1, by omega, by go_num, hid (by rw [HFin.out]; exact hB10)⟩
          · have q : (A.nmAt ws k).isEmpty = false := by cases h : A.nmAt ws k with | nil => exact absurd h hnm | cons a b => rfl
            rw [if_neg hnm] at HRW
            have x8 := bap (A.nmAt ws k) [58, 10]
            have HLL0 : Hid ((A.txt ws k).length + (A.nmAt ws k ++ [58, 10]).length ≤ 210020) := hid (by have := HLK.out; simp only [List.length_append, List.length_cons, List.length_nil]; omega)
            have HFin : Hid (A.txt ws (k + 1) = (A.txt ws k ++ (A.nmAt ws k ++ [58, 10])) ++ (ln ++ [10])) := hid (by rw [HTX.out, HRW.out]; simp)
            clear HLK HTX HRW hnm
            generalize A.txt ws k = tx at *
            generalize A.nmAt ws k = nm at *
            go_wp2_with (go_at_call 31; refine (write_any V wr bb tx (nm ++ [58, 10]) HB.out (by have := HLL0.out; omega)).mono ?_; rintro e w5 ⟨rfl, hB5⟩)
            have HB1 : Hid (BL V w5 bb (tx ++ (nm ++ [58, 10]))) := hB5
            have HLL : Hid ((tx ++ (nm ++ [58, 10])).length ≤ 210020) := hid (by rw [List.length_append]; exact HLL0.out)
            clear hB5 HLL0 x8 HB hnc hnl
            generalize tx ++ (nm ++ [58, 10]) = tx2 at *
            refine wp_region_held_drew (S := fun x => Below V.heap.size V x) (by kernel_rfl) (HB1.out.drew.below) (fun hHeld => ?_)
            refine tk 0 ⟨some 31, .move (.tmp 0), 24, "print.go:23", #[], none⟩ (.slice (some ⟨b, o, none⟩) n c) ?_
            simp only [Act.put, List.setIfInBounds_toArray, List.set_cons_zero, List.set_cons_succ]
            refine tk 1 ⟨some 32, .move (.tmp 8), 3, "print.go:23", #[], none⟩ (.int .i64 (k : Int)) ?_
            simp only [Act.put, List.setIfInBounds_toArray, List.set_cons_zero, List.set_cons_succ]
            refine tk 2 ⟨some 33, .indexAddr 24 (.tmp 31) (.tmp 32), 0, "print.go:23", #[⟨0, .data⟩, ⟨1, .data⟩], none⟩ (.pointer (some ⟨b, o + k, none⟩)) ?_
            simp only [Act.put, List.setIfInBounds_toArray, List.set_cons_zero, List.set_cons_succ]
            refine tk 3 ⟨some 34, .load 22 (.tmp 33), 22, "print.go:23", #[⟨2, .data⟩], none⟩ (.int .u32 (u : Int)) ?_ (hy := Or.inl ⟨by rfl, by intro w hSw; have hcc := HU.out w hSw; go_simp⟩)
            simp only [Act.put, List.setIfInBounds_toArray, List.set_cons_zero, List.set_cons_succ]
            refine tk 4 ⟨some 35, .move (.tmp 0), 24, "print.go:23", #[], none⟩ (.slice (some ⟨b, o, none⟩) n c) ?_
            simp only [Act.put, List.setIfInBounds_toArray, List.set_cons_zero, List.set_cons_succ]
            refine tk 5 ⟨some 36, .move (.tmp 8), 3, "print.go:23", #[], none⟩ (.int .i64 (k : Int)) ?_
            simp only [Act.put, List.setIfInBounds_toArray, List.set_cons_zero, List.set_cons_succ]
            refine tk 6 ⟨some 37, .move (.tmp 6), 88, "print.go:23", #[], none⟩ (.slice (some ⟨g, 0, none⟩) (n + 1) (n + 1)) ?_
            simp only [Act.put, List.setIfInBounds_toArray, List.set_cons_zero, List.set_cons_succ]
            refine wpAnyH_ready (rs := [7]) (by kernel_rfl) (by simp) (AllReadyH.cons (o := ⟨some 38, .call { callee := .value (.func 33), args := #[.tmp 35, .tmp 36, .tmp 37], argTypes := #[24, 3, 88] }, 9, "print.go:23", #[⟨4, .data⟩, ⟨5, .data⟩, ⟨6, .data⟩], none⟩) rfl (fun KQ hK => ?_) AllReadyH.nil)
            go_simp
            refine (H12.out _ HB1.out.drew.below).mono ?_
            rintro e w7 ⟨rfl, hb7⟩
            have HB7 : Hid (BL V w7 bb tx2) := hid (HB1.out.drew.on hb7)
            go_wp2_with fail
            refine hK.out _ _ HB7.out.below (fun hHeld => ?_)
            clear hK KQ
            try simp only [Act.put, List.setIfInBounds_toArray, List.set_cons_zero, List.set_cons_succ]
            refine wpAnyH_ready (rs := [8]) (by kernel_rfl) (by simp) (AllReadyH.cons (o := ⟨some 39, .call { callee := .value (.func 32), args := #[.tmp 34, .tmp 38], argTypes := #[22, 9] }, 9, "print.go:23", #[⟨3, .data⟩, ⟨7, .data⟩, ⟨7, .chain⟩], none⟩) rfl (fun KQ hK => ?_) AllReadyH.nil)
            go_simp
            refine (H11.out _ HB7.out.below).mono ?_
            rintro e w8 ⟨rfl, hb8⟩
            have HB8 : Hid (BL V w8 bb tx2) := hid (HB7.out.on hb8)
            go_wp2_with fail
            refine hK.out _ _ HB8.out.below (fun hHeld => ?_)
            clear hK KQ
            try simp only [Act.put, List.setIfInBounds_toArray, List.set_cons_zero, List.set_cons_succ]
            refine tk 9 ⟨some 40, .binOp .add 9 (.tmp 39) (.const (.string { data := #[10] })) 9, 9, "print.go:23", #[⟨8, .data⟩], none⟩ (.string ⟨(ln ++ [10]).toArray⟩) ?_ (hy := Or.inl ⟨by rfl, by intro w hSw; go_simp; omega⟩)
            simp only [Act.put, List.setIfInBounds_toArray, List.set_cons_zero, List.set_cons_succ]
            refine wpAnyH_ready (rs := [10]) (by kernel_rfl) (by simp) (AllReadyH.cons (o := ⟨some 41, .call { callee := .value (.func 31), args := #[.tmp 7, .tmp 40], argTypes := #[93, 9] }, 94, "print.go:23", #[⟨9, .data⟩, ⟨8, .chain⟩], none⟩) rfl (fun KQ hK => ?_) AllReadyH.nil)
            go_simp
            refine (write_any V w8 bb tx2 (ln ++ [10]) HB8.out (by have := HLL.out; simp only [List.length_append, List.length_cons, List.length_nil] at *; omega)).mono ?_
            rintro e w10 ⟨rfl, hB10⟩
            go_wp2_with fail
            refine hK.out _ _ hB10.below (fun hHeld => ?_)
            clear hK KQ
            try simp only [Act.put, List.setIfInBounds_toArray, List.set_cons_zero, List.set_cons_succ]
            refine wpAnyH_done (by kernel_rfl) ?_ _
            clear hHeld
            go_wp2_with fail
            go_roundw
            case measure => simp [intOf] <;> omega
            case rel => exact ⟨k + 1, by omega, by go_num, hid (by rw [HFin.out]; exact hB10)⟩
        · obtain rfl : k = n := by omega
          have c2 : ¬ ((k : Int) < (k : Int)) := by omega
          rw [if_neg hkn, List.append_nil] at HRW
          by_cases hnm : A.nmAt ws k = []
          · rw [hnm] at hnc HRW
            rw [if_pos rfl] at HRW
            have HFin : Hid (A.txt ws (k + 1) = A.txt ws k) := hid (by rw [HTX.out, HRW.out, List.append_nil])
            clear HLK HTX HRW hnl hkn
            go_wp2_with fail
            go_roundw
            case measure => simp [intOf] <;> omega
            case rel => exact ⟨k + 1, by omega, by go_num, hid (by rw [HFin.out]; exact HB.out)⟩
          · have q : (A.nmAt ws k).isEmpty = false := by cases h : A.nmAt ws k with | nil => exact absurd h hnm | cons a b => rfl
            rw [if_neg hnm] at HRW
            have x8 := bap (A.nmAt ws k) [58, 10]
            have HLL0 : Hid ((A.txt ws k).length + (A.nmAt ws k ++ [58, 10]).length ≤ 210020) := hid (by have := HLK.out; simp only [List.length_append, List.length_cons, List.length_nil]; omega)
            have HFin : Hid (A.txt ws (k + 1) = A.txt ws k ++ (A.nmAt ws k ++ [58, 10])) := hid (by rw [HTX.out, HRW.out])
            clear HLK HTX HRW hnm hkn
            generalize A.txt ws k = tx at *
            generalize A.nmAt ws k = nm at *
            go_wp2_with (go_at_call 31; refine (write_any V wr bb tx (nm ++ [58, 10]) HB.out (by have := HLL0.out; omega)).mono ?_; rintro e w5 ⟨rfl, hB5⟩)
            go_roundw
            case measure => simp [intOf] <;> omega
            case rel => exact ⟨k + 1, by omega, by go_num, hid (by rw [HFin.out]; exact hB5)⟩
      · obtain rfl : k = n + 1 := by omega
        clear hlt hk HTL
        have HS13 := hid (string_any V wr bb _ HB.out)
        go_wp2_with (go_at_call 34; refine HS13.out.mono ?_; rintro e w6 ⟨rfl, hb6⟩)
        go_ret2
        exact ⟨rfl, HBV.out.1.trans (hb6.mono HBV.out.1.size)⟩
  · have HR : Hid (A.prt ws = [] ∧ A.prtE ws = 66) := hid (by unfold A.prt A.prtE; rw [hl, if_neg hn, if_neg hn]; exact ⟨rfl, rfl⟩)
    rw [HR.out.1, HR.out.2]
    have n1 : (2048 : Int) < (n : Int) := by omega
    clear hT hat hl hw HR hn
    go_enter Tryz.func15, Tryz.ntmps15
    go_wp2_with fail
    go_ret2
    exact ⟨rfl, Below.refl _ _⟩
end Go.Proofs.YtncnogndopgknaaGreatDoor
namespace Go.Proofs.YtncnogndopgknaaGreatDoor
open Go.RowKit
set_option maxRecDepth 100000
set_option maxHeartbeats 4000000
namespace T
structure Pw (w : List UInt8) : Prop where
  ne : w ≠ []
  gap : ∀ c ∈ w, isGap c = false
  h1 : (w.headD 0).toNat ≠ 35
  h2 : (w.headD 0).toNat ≠ 34
theorem plainN_append (w t : List UInt8) (h : ∀ c ∈ w, isGap c = false) (ht : parted t = true) : plainN (w ++ t) = w.length := by
  induction w with
  | nil =>
    cases t with
    | nil => rfl
    | cons c t =>
      simp only [parted] at ht
      simp [plainN, ht]
  | cons c w ih =>
    rw [List.cons_append, plainN_pos _ (h c (by simp)), ih (fun x hx => h x (by simp [hx]))]
    rfl
theorem rd_word (w t : List UInt8) (p : Nat) (h : Pw w) (ht : parted t = true) : rd (w ++ t) p = cons ⟨w, false, p + 1⟩ (rd t (p + w.length)) := by
  obtain ⟨ne, gap, h1, h2⟩ := h
  cases w with
  | nil => exact absurd rfl ne
  | cons c w =>
    have hp := plainN_append (c :: w) t gap ht
    rw [List.cons_append] at hp ⊢
    rw [rd_plain (w ++ t) p (gap c (by simp)) h1 h2, hp]
    rw [← List.cons_append, List.take_left' rfl, List.drop_left' rfl]
def wdsAt : List (List UInt8) → Nat → List Wd
  | [], _ => []
  | w :: ws, p => ⟨w, false, p + 2⟩ :: wdsAt ws (p + 1 + w.length)
theorem rd_words : ∀ (ws : List (List UInt8)) (p : Nat), (∀ w ∈ ws, Pw w) → rd (ws.flatMap (32 :: ·)) p = .inr (wdsAt ws p)
  | [], p, _ => by rw [List.flatMap_nil, rd_nil]; rfl
  | w :: ws, p, h => by
    have hw := h w (by simp)
    have ih := rd_words ws (p + 1 + w.length) (fun x hx => h x (by simp [hx]))
    have ht : parted (ws.flatMap (32 :: ·)) = true := by
      cases ws with
      | nil => rfl
      | cons x xs => rfl
    rw [List.flatMap_cons, List.cons_append, rd_gap _ _ (by decide), rd_word w _ _ hw ht, ih]
    rfl
theorem rd_line (n : List UInt8) (ws : List (List UInt8)) (hn : Pw n) (h : ∀ w ∈ ws, Pw w) : rd (n ++ ws.flatMap (32 :: ·)) 0 = .inr (⟨n, false, 1⟩ :: wdsAt ws n.length) := by
  have ht : parted (ws.flatMap (32 :: ·)) = true := by
    cases ws with
    | nil => rfl
    | cons x xs => rfl
  rw [rd_word n _ 0 hn ht, rd_words ws _ h]
  simp only [Nat.zero_add]
  rfl
theorem rd_one (n : List UInt8) (hn : Pw n) : rd n 0 = .inr [⟨n, false, 1⟩] := by
  have := rd_line n [] hn (by simp)
  simpa [wdsAt] using this
def okb (c : UInt8) : Bool := isLet c || isDig c || c.toNat == 45 || c.toNat == 58
theorem okb_gap {c : UInt8} (h : okb c = true) : isGap c = false ∧ c.toNat ≠ 35 ∧ c.toNat ≠ 34 ∧ c ≠ 10 := by
  simp only [okb, isLet, isDig, Bool.or_eq_true, Bool.and_eq_true, decide_eq_true_eq, beq_iff_eq] at h
  refine ⟨?_, by omega, by omega, ?_⟩
  · simp only [isGap, Bool.or_eq_false_iff, beq_eq_false_iff_ne]
    omega
  · rintro rfl
    simp at h
theorem pw_of {w : List UInt8} (h0 : w ≠ []) (h : w.all okb = true) : Pw w := by
  rw [List.all_eq_true] at h
  cases w with
  | nil => exact absurd rfl h0
  | cons c t => exact ⟨h0, fun x hx => (okb_gap (h x hx)).1, (okb_gap (h c (by simp))).2.1, (okb_gap (h c (by simp))).2.2.1⟩
theorem dec_ok (u : Nat) : (Lib.decDigits u).all okb = true := by
  rw [List.all_eq_true]
  intro c hc
  have := List.all_eq_true.1 (decDigits_all u) c hc
  simp [okb, this]
theorem itoa_ok (n : Int) : (Lib.itoa n).all okb = true := by
  by_cases h : 0 ≤ n
  · obtain ⟨u, rfl⟩ := Int.eq_ofNat_of_zero_le h
    rw [Lib.itoa_nonneg]
    exact dec_ok u
  · obtain ⟨u, hu⟩ := Int.eq_ofNat_of_zero_le (show 0 ≤ -n by omega)
    obtain rfl : n = -(u : Int) := by omega
    rw [Lib.itoa_neg u (by omega), List.all_cons, dec_ok u]
    decide
theorem itoa_ne (n : Int) : Lib.itoa n ≠ [] := by
  by_cases h : 0 ≤ n
  · obtain ⟨u, rfl⟩ := Int.eq_ofNat_of_zero_le h
    rw [Lib.itoa_nonneg]
    exact decDigits_ne u
  · obtain ⟨u, hu⟩ := Int.eq_ofNat_of_zero_le (show 0 ≤ -n by omega)
    obtain rfl : n = -(u : Int) := by omega
    rw [Lib.itoa_neg u (by omega)]
    simp
theorem dec_name (u : Nat) (t : List UInt8) : name (Lib.decDigits u ++ t) = false := by
  have hn := decDigits_ne u
  have hd : isLet ((Lib.decDigits u ++ t).headD 0) = false := by
    rw [headD_append _ _ hn]
    cases hD : Lib.decDigits u with
    | nil => exact absurd hD hn
    | cons c r =>
      have := List.all_eq_true.1 (decDigits_all u) c (by rw [hD]; simp)
      simp only [isDig, Bool.and_eq_true, decide_eq_true_eq] at this
      have h97 : ¬ 97 ≤ c.toNat := by omega
      simp [isLet, h97]
  unfold name
  rw [hd]
  simp
theorem itoa_name (n : Int) : name (Lib.itoa n) = false := by
  by_cases h : 0 ≤ n
  · obtain ⟨u, rfl⟩ := Int.eq_ofNat_of_zero_le h
    rw [Lib.itoa_nonneg]
    have := dec_name u []
    simpa using this
  · obtain ⟨u, hu⟩ := Int.eq_ofNat_of_zero_le (show 0 ≤ -n by omega)
    obtain rfl : n = -(u : Int) := by omega
    rw [Lib.itoa_neg u (by omega)]
    unfold name
    have : isLet ((45 :: Lib.decDigits u).headD 0) = false := by rw [List.headD_cons]; decide
    rw [this]
    simp
end T
namespace S
open A
theorem u32_nat (n : Nat) (h : n < 4294967296) : u32 (n : Int) = n := by unfold u32; omega
theorem i32_u32 (v : Int) (h0 : -2147483648 ≤ v) (h1 : v ≤ 2147483647) : i32 (u32 v) = v := by
  unfold i32 u32
  split <;> omega
def vl (i : Ins) (l : Nat) : Nat := if l = 97 then i.a.toNat else if l = 98 then i.b.toNat else if l = 99 then i.c.toNat else if l = 107 then i.cond.toNat else u32 i.imm
theorem between_itoa (v lo hi : Int) (h0 : lo ≤ v) (h1 : v ≤ hi) (l0 : -2147483648 ≤ lo) (l1 : hi ≤ 2147483647) : between (Lib.itoa v) lo hi = some (u32 v) := by
  unfold between
  rw [T.signed_itoa v (by omega) (by omega)]
  simp only
  rw [if_pos ⟨h0, h1⟩]
theorem register_dec (a : Int) (h0 : 0 ≤ a) (h1 : a ≤ 14) : register (114 :: Lib.decDigits a.toNat) = some a.toNat := by
  obtain ⟨n, rfl⟩ := Int.eq_ofNat_of_zero_le h0
  have hb := between_itoa (n : Int) 0 14 h0 h1 (by decide) (by decide)
  rw [Lib.itoa_nonneg, u32_nat n (by omega)] at hb
  unfold register
  rw [if_pos (by simp [List.isPrefixOf])]
  exact hb
theorem cond_all : ∀ c < 7, condOf (condT.getD c []) = some c := by decide +kernel
theorem cndI_eq (c : Int) (h0 : 0 ≤ c) (h1 : c ≤ 6) : (cndI c).data.toList = condT.getD c.toNat [] := by
  unfold cndI cnd
  rw [if_pos (by omega)]
theorem rd_opnd (i : Ins) (L : List Nat) (hL : L ∈ nine) (hg : Good i L) (l : Nat) (hl : l ∈ L) (col : Nat) : readOperand l ⟨opnd i l [], false, col⟩ = some ⟨vl i l, [], 0⟩ := by
  have hb := good_bounds hL hg
  obtain ⟨a0, a1, b0, b1, c0, c1, k0, k1, m0, m1, _⟩ := hb
  have him := hg.2.2.2.2
  simp only [nine, List.mem_cons, List.not_mem_nil, or_false] at hL
  have hcase : l = 97 ∨ l = 98 ∨ l = 99 ∨ l = 107 ∨ l = 117 ∨ l = 115 ∨ l = 111 := by
    rcases hL with rfl | rfl | rfl | rfl | rfl | rfl | rfl | rfl | rfl <;> simp at hl <;> omega
  unfold readOperand
  simp only [Bool.false_eq_true, if_false]
  rcases hcase with rfl | rfl | rfl | rfl | rfl | rfl | rfl
  · simp only [opnd, vl, readNumber, Nat.reduceEqDiff, or_self, false_and, if_false, true_or, if_true]
    rw [register_dec i.a a0 a1]
    rfl
  · simp only [opnd, vl, readNumber, Nat.reduceEqDiff, or_self, false_and, if_false, true_or, or_true, if_true]
    rw [register_dec i.b b0 b1]
    rfl
  · simp only [opnd, vl, readNumber, Nat.reduceEqDiff, or_self, false_and, if_false, or_true, if_true]
    rw [register_dec i.c c0 c1]
    rfl
  · simp only [opnd, vl, readNumber, Nat.reduceEqDiff, or_self, false_and, if_false, if_true]
    rw [cndI_eq i.cond k0 k1, cond_all i.cond.toNat (by omega)]
    rfl
  · have hu : 0 ≤ i.imm ∧ i.imm ≤ 65535 := by
      rcases hL with rfl | rfl | rfl | rfl | rfl | rfl | rfl | rfl | rfl <;> simp at hl <;> simpa [Im] using him
    obtain ⟨n, hn⟩ := Int.eq_ofNat_of_zero_le hu.1
    simp only [opnd, vl, readNumber, Nat.reduceEqDiff, or_self, false_and, if_false, if_true]
    rw [hn, Lib.itoa_nonneg, u32_nat n (by omega)]
    unfold upTo
    rw [T.number_dec n (by omega)]
    simp only
    rw [if_pos (by omega)]
    rfl
  · have hu : -32768 ≤ i.imm ∧ i.imm ≤ 32767 := by
      rcases hL with rfl | rfl | rfl | rfl | rfl | rfl | rfl | rfl | rfl <;> simp at hl <;> simpa [Im] using him
    simp only [opnd, vl, readNumber, Nat.reduceEqDiff, or_self, false_and, if_false, true_or, if_true]
    rw [between_itoa i.imm (-32768) 32767 hu.1 hu.2 (by decide) (by decide)]
    rfl
  · have hu : -32768 ≤ i.imm ∧ i.imm ≤ 32767 := by
      rcases hL with rfl | rfl | rfl | rfl | rfl | rfl | rfl | rfl | rfl <;> simp at hl <;> simpa [Im] using him
    simp only [opnd, vl, readNumber, Nat.reduceEqDiff, or_self, and_false, if_false, true_or, or_true, if_true, ne_eq, not_true_eq_false, true_and]
    rw [T.itoa_name, if_neg (by decide), between_itoa i.imm (-32768) 32767 hu.1 hu.2 (by decide) (by decide)]
    rfl
theorem rd_lab (i : Ins) (lb : List UInt8) (h0 : lb ≠ []) (h1 : T.name lb = true) (col : Nat) : readOperand 111 ⟨opnd i 111 lb, false, col⟩ = some ⟨0, lb, col⟩ := by
  unfold readOperand
  simp only [Bool.false_eq_true, if_false, opnd, Nat.reduceEqDiff, ne_eq, h0, not_false_eq_true, if_true, true_or, h1, and_self]
theorem put_all (i : Ins) (L : List Nat) (hL : L ∈ nine) (hg : Good i L) : (L.zip (L.map fun l => (⟨vl i l, [], 0⟩ : Opn))).foldl (fun j x => putL j x.1 x.2.val) ⟨i.op, 0, 0, 0, 0, 0⟩ = i := by
  have hb := good_bounds hL hg
  obtain ⟨a0, a1, b0, b1, c0, c1, k0, k1, m0, m1, _⟩ := hb
  have hi := i32_u32 i.imm (by omega) (by omega)
  obtain ⟨g1, g2, g3, g4, g5⟩ := hg
  obtain ⟨op, cond, a, b, c, imm⟩ := i
  simp only at *
  simp only [nine, List.mem_cons, List.not_mem_nil, or_false] at hL
  rcases hL with rfl | rfl | rfl | rfl | rfl | rfl | rfl | rfl | rfl <;>
    (simp [Wi, Im] at g1 g2 g3 g4 g5; simp [putL, vl, hi]; try omega)
end S
end Go.Proofs.YtncnogndopgknaaGreatDoor
namespace Go.Proofs.YtncnogndopgknaaGreatDoor
open Go.RowKit
set_option maxRecDepth 100000
set_option maxHeartbeats 4000000
namespace S
open A
theorem kind_all : ∀ n < 25, 1 ≤ n → kindOf (nameT.getD n []) = some ⟨nameT.getD n [], shapeT.getD n [], 1, n⟩ := by decide +kernel
theorem name_def : ∀ n < 25, 1 ≤ n → Lib.hasSuffix (nameT.getD n []) [58] = false := by decide +kernel
theorem name_okb : ∀ n < 25, 1 ≤ n → (nameT.getD n []).all T.okb = true ∧ nameT.getD n [] ≠ [] ∧ nameT.getD n [] ≠ wordN ∧ nameT.getD n [] ≠ liN ∧ nameT.getD n [] ≠ zeroN ∧ (nameT.getD n []).length ≤ 4 := by decide +kernel
theorem cond_okb : ∀ n < 7, (condT.getD n []).all T.okb = true ∧ condT.getD n [] ≠ [] ∧ (condT.getD n []).length ≤ 2 := by decide +kernel
def osAt (f : Nat → List UInt8) (g : Nat → Nat → Opn) : List Nat → Nat → List Opn
  | [], _ => []
  | l :: L, p => g l (p + 2) :: osAt f g L (p + 1 + (f l).length)
theorem rd_ops (f : Nat → List UInt8) (g : Nat → Nat → Opn) (nc : Nat) : ∀ (L : List Nat) (p : Nat), (∀ l ∈ L, ∀ col, readOperand l ⟨f l, false, col⟩ = some (g l col)) → rdOps nc L (T.wdsAt (L.map f) p) = .inr (osAt f g L p)
  | [], p, _ => rfl
  | l :: L, p, h => by
    rw [List.map_cons, T.wdsAt, rdOps, h l (by simp)]
    simp only
    rw [rd_ops f g nc L _ (fun x hx => h x (by simp [hx]))]
    rfl
theorem osAt_const (f : Nat → List UInt8) (h : Nat → Opn) : ∀ (L : List Nat) (p : Nat), osAt f (fun l _ => h l) L p = L.map h
  | [], _ => rfl
  | l :: L, p => by rw [osAt, osAt_const f h L, List.map_cons]
theorem lats_none (k : Kd) (os : List Opn) (p line : Nat) (h : ∀ o ∈ os, o.lab = []) : lats k os p line = [] := by
  unfold lats
  rw [List.map_eq_nil_iff, List.filter_eq_nil_iff]
  intro i hi
  rw [List.mem_range] at hi
  simp only [List.getD_eq_getElem?_getD, List.getElem?_eq_getElem hi, Option.getD_some, decide_eq_true_eq, Decidable.not_not]
  exact h _ (List.getElem_mem hi)
structure Fix (t : Lt) (w : Nat) (lb : List UInt8) : Prop where
  lab : (t.ops.getD t.at' ⟨0, [], 0⟩).lab = lb
  ltr : (t.k.shape.map (·.toNat)).getD t.at' 0 = 111
  wd : words t.k (t.ops.set t.at' { t.ops.getD t.at' ⟨0, [], 0⟩ with val := u32 (dec w).imm }) = [w]
theorem ltr_shape (n : Nat) : (shapeT.getD n []).map (·.toNat) = ltr (shp n) := by
  unfold ltr shp
  rfl
theorem words_ins (n : Nat) (n1 : 1 ≤ n) (n2 : n < 25) (os : List Opn) : words ⟨nameT.getD n [], shapeT.getD n [], 1, n⟩ os = [(enc (((ltr (shp n)).zip os).foldl (fun j x => putL j x.1 x.2.val) ⟨n, 0, 0, 0, 0, 0⟩)).toNat] := by
  obtain ⟨_, _, a, b, c, _⟩ := name_okb n n2 n1
  unfold words insOf
  simp only [if_neg a, if_neg b, if_neg c, ltr_shape]
theorem stmt_ins (line : Nat) (st : St) (n : Nat) (n1 : 1 ≤ n) (n2 : n < 25) (room : st.ws.length < 2048) (rest : List T.Wd) (os : List Opn) (x : Nat) (hr : rdOps 1 (ltr (shp n)) rest = .inr os) (hw : words ⟨nameT.getD n [], shapeT.getD n [], 1, n⟩ os = [x]) :
    lay line st (⟨nameT.getD n [], false, 1⟩ :: rest) = .inr ⟨st.ws ++ [x], st.labs, st.lat ++ lats ⟨nameT.getD n [], shapeT.getD n [], 1, n⟩ os st.ws.length line⟩ := by
  have h1 : isDef ⟨nameT.getD n [], false, 1⟩ = false := by unfold isDef; rw [name_def n n2 n1]; rfl
  unfold lay
  rw [h1]
  simp only [Bool.false_eq_true, if_false]
  unfold stmt
  simp only [kind_all n n2 n1, Bool.false_eq_true, if_false, ltr_shape, hr, hw, List.length_cons, List.length_nil]
  rw [if_neg (by omega), if_neg (by omega)]
theorem lay_ins (line : Nat) (st : St) (w : Nat) (hw : decE w = 0) (room : st.ws.length < 2048) (q : Nat) :
    lay line st (⟨(namI (dec w).op).data.toList, false, 1⟩ :: T.wdsAt ((ltr (shpI (dec w).op)).map fun l => opnd (dec w) l []) q) = .inr ⟨st.ws ++ [w], st.labs, st.lat⟩ := by
  obtain ⟨he, hc⟩ := dec_yes hw
  obtain ⟨n, hn, n1, n2, hL, hg⟩ := chk_zero hc
  have hput := put_all (dec w) _ hL hg
  have hrd := rd_ops (fun l => opnd (dec w) l []) (fun l _ => ⟨vl (dec w) l, [], 0⟩) 1 (ltr (shp n)) q (fun l hl col => rd_opnd (dec w) _ hL hg l hl col)
  rw [osAt_const] at hrd
  rw [hn] at hput
  generalize hi : dec (w : Int) = i at *
  have e1 : (namI i.op).data.toList = nameT.getD n [] := by unfold namI; rw [hn, if_pos (by omega)]; rfl
  have e2 : shpI i.op = shp n := by unfold shpI; rw [hn, if_pos (by omega)]; rfl
  rw [e1, e2]
  have hwd := words_ins n n1 n2 ((ltr (shp n)).map fun l => ⟨vl i l, [], 0⟩)
  rw [hput, he] at hwd
  rw [stmt_ins line st n n1 n2 room _ _ w hrd (by rw [hwd]; rfl), lats_none _ _ _ _ (by simp), List.append_nil]
theorem lay_jump (line : Nat) (st : St) (w : Nat) (hw : decE w = 0) (hj : (dec w).op = 21 ∨ (dec w).op = 22) (lb : List UInt8) (l0 : lb ≠ []) (l1 : T.name lb = true) (room : st.ws.length < 2048) (q : Nat) :
    ∃ x t, lay line st (⟨(namI (dec w).op).data.toList, false, 1⟩ :: T.wdsAt ((ltr (shpI (dec w).op)).map fun l => opnd (dec w) l lb) q) = .inr ⟨st.ws ++ [x], st.labs, st.lat ++ [t]⟩ ∧ t.place = st.ws.length ∧ Fix t w lb := by
  obtain ⟨he, hc⟩ := dec_yes hw
  obtain ⟨n, hn, n1, n2, hL, hg⟩ := chk_zero hc
  have hput := put_all (dec w) _ hL hg
  have hrd := rd_ops (fun l => opnd (dec w) l lb) (fun l col => if l = 111 then ⟨0, lb, col⟩ else ⟨vl (dec w) l, [], 0⟩) 1 (ltr (shp n)) q (fun l hl col => by
    by_cases h : l = 111
    · subst h
      rw [if_pos rfl]
      exact rd_lab (dec w) lb l0 l1 col
    · rw [if_neg h]
      have := rd_opnd (dec w) _ hL hg l hl col
      rw [← this]
      simp only [opnd, h, false_and, if_false])
  rw [hn] at hput
  have him : vl (dec w) 111 = u32 (dec w).imm := rfl
  have hfx : ∀ t : Lt, t.k = ⟨nameT.getD n [], shapeT.getD n [], 1, n⟩ → words t.k (t.ops.set t.at' { t.ops.getD t.at' ⟨0, [], 0⟩ with val := u32 (dec w).imm }) = [(enc (((ltr (shp n)).zip (t.ops.set t.at' { t.ops.getD t.at' ⟨0, [], 0⟩ with val := u32 (dec w).imm })).foldl (fun j x => putL j x.1 x.2.val) ⟨n, 0, 0, 0, 0, 0⟩)).toNat] := fun t ht => by rw [ht]; exact words_ins n n1 n2 _
  generalize hi : dec (w : Int) = i at *
  have e1 : (namI i.op).data.toList = nameT.getD n [] := by unfold namI; rw [hn, if_pos (by omega)]; rfl
  have e2 : shpI i.op = shp n := by unfold shpI; rw [hn, if_pos (by omega)]; rfl
  rw [e1, e2]
  have hn2 : n = 21 ∨ n = 22 := by omega
  rcases hn2 with rfl | rfl
  · have hs : ltr (shp 21) = [107, 111] := by decide
    rw [hs] at hrd hput hfx
    simp only [osAt, Nat.reduceEqDiff, if_false, if_true] at hrd
    generalize q + 1 + (opnd i 107 lb).length + 2 = col at hrd
    have hst := stmt_ins line st 21 n1 n2 room _ _ _ (by rw [hs]; exact hrd) (words_ins 21 n1 n2 _)
    have hla : lats ⟨nameT.getD 21 [], shapeT.getD 21 [], 1, 21⟩ [⟨vl i 107, [], 0⟩, ⟨0, lb, col⟩] st.ws.length line = [⟨⟨nameT.getD 21 [], shapeT.getD 21 [], 1, 21⟩, [⟨vl i 107, [], 0⟩, ⟨0, lb, col⟩], 1, st.ws.length, line⟩] := by
      simp [lats, List.range_succ, l0]
    rw [hla] at hst
    refine ⟨_, ⟨⟨nameT.getD 21 [], shapeT.getD 21 [], 1, 21⟩, [⟨vl i 107, [], 0⟩, ⟨0, lb, col⟩], 1, st.ws.length, line⟩, hst, rfl, ⟨rfl, by show ((shapeT.getD 21 []).map (·.toNat)).getD 1 0 = 111; decide, ?_⟩⟩
    rw [hi, hfx _ rfl]
    have : enc i = (w : Int) := he
    rw [← hput] at this
    simp only [List.map_cons, List.map_nil, List.zip_cons_cons, List.zip_nil_right, List.foldl_cons, List.foldl_nil, him] at this
    simp only [List.set_cons_succ, List.set_cons_zero, List.zip_cons_cons, List.zip_nil_right, List.foldl_cons, List.foldl_nil]
    rw [this]
    rfl
  · have hs : ltr (shp 22) = [111] := by decide
    rw [hs] at hrd hput hfx
    simp only [osAt, if_true] at hrd
    generalize q + 2 = col at hrd
    have hst := stmt_ins line st 22 n1 n2 room _ _ _ (by rw [hs]; exact hrd) (words_ins 22 n1 n2 _)
    have hla : lats ⟨nameT.getD 22 [], shapeT.getD 22 [], 1, 22⟩ [⟨0, lb, col⟩] st.ws.length line = [⟨⟨nameT.getD 22 [], shapeT.getD 22 [], 1, 22⟩, [⟨0, lb, col⟩], 0, st.ws.length, line⟩] := by
      simp [lats, List.range_succ, l0]
    rw [hla] at hst
    refine ⟨_, ⟨⟨nameT.getD 22 [], shapeT.getD 22 [], 1, 22⟩, [⟨0, lb, col⟩], 0, st.ws.length, line⟩, hst, rfl, ⟨rfl, by show ((shapeT.getD 22 []).map (·.toNat)).getD 0 0 = 111; decide, ?_⟩⟩
    rw [hi, hfx _ rfl]
    have : enc i = (w : Int) := he
    rw [← hput] at this
    simp only [List.map_cons, List.map_nil, List.zip_cons_cons, List.zip_nil_right, List.foldl_cons, List.foldl_nil, him] at this
    simp only [List.set_cons_zero, List.zip_cons_cons, List.zip_nil_right, List.foldl_cons, List.foldl_nil]
    rw [this]
    rfl
theorem hexed_okb (w : Nat) : (T.hexed8 w).all T.okb = true ∧ T.hexed8 w ≠ [] ∧ T.name (T.hexed8 w) = false := by
  refine ⟨?_, by simp [T.hexed8], ?_⟩
  · unfold T.hexed8
    rw [List.all_append]
    rw [T.hexT8_hx, T.hx]
    rw [Bool.and_eq_true]
    refine ⟨by decide, ?_⟩
    rw [List.all_map, List.all_eq_true]
    intro i _
    have hd : ∀ d < 16, T.okb (T.hexD d) = true := by decide +kernel
    exact hd _ (Nat.mod_lt _ (by decide))
  · unfold T.name T.hexed8
    have : T.isLet (([48, 120] ++ T.hexT8 w 8 : List UInt8).headD 0) = false := by rw [List.cons_append, List.headD_cons]; decide
    rw [this]
    simp
theorem lay_word (line : Nat) (st : St) (w : Nat) (hw : w < 4294967296) (room : st.ws.length < 2048) (q : Nat) :
    lay line st (⟨wordN, false, 1⟩ :: T.wdsAt [T.hexed8 w] q) = .inr ⟨st.ws ++ [w], st.labs, st.lat⟩ := by
  have h1 : isDef ⟨wordN, false, 1⟩ = false := by decide
  have hk : kindOf wordN = some ⟨wordN, [120], 1, 0⟩ := by decide
  have hx := (hexed_okb w).2.2
  have hr : ∀ col, readOperand 120 ⟨T.hexed8 w, false, col⟩ = some ⟨w, [], 0⟩ := fun col => by
    unfold readOperand
    simp only [Bool.false_eq_true, if_false, hx, and_false]
    unfold readNumber upTo
    rw [T.number_hex w hw]
    simp only [Nat.reduceEqDiff, or_self, if_false]
    rw [if_pos (by omega)]
    rfl
  unfold lay
  rw [h1]
  simp only [Bool.false_eq_true, if_false]
  unfold stmt
  simp only [hk, Bool.false_eq_true, if_false, T.wdsAt]
  rw [if_neg (by omega)]
  have hro : rdOps 1 [120] [⟨T.hexed8 w, false, q + 2⟩] = .inr [⟨w, [], 0⟩] := by
    rw [rdOps, hr]
    rfl
  rw [show ([120] : List UInt8).map (·.toNat) = [120] from rfl, hro]
  have hwd : words ⟨wordN, [120], 1, 0⟩ [⟨w, [], 0⟩] = [w] := by unfold words; rw [if_pos rfl]; rfl
  simp only [hwd, List.length_cons, List.length_nil]
  rw [if_neg (by omega), lats_none _ _ _ _ (by simp), List.append_nil]
theorem opnd_okb (i : Ins) (L : List Nat) (hL : L ∈ nine) (hg : Good i L) (lb : List UInt8) (hlb : lb.all T.okb = true) (l : Nat) : (opnd i l lb).all T.okb = true ∧ opnd i l lb ≠ [] := by
  have hb := good_bounds hL hg
  obtain ⟨a0, a1, b0, b1, c0, c1, k0, k1, m0, m1, _⟩ := hb
  have hd : ∀ u : Nat, (114 :: Lib.decDigits u).all T.okb = true := fun u => by rw [List.all_cons, T.dec_ok]; decide
  unfold opnd
  split
  · exact ⟨hd _, by simp⟩
  · split
    · exact ⟨hd _, by simp⟩
    · split
      · exact ⟨hd _, by simp⟩
      · split
        · rw [cndI_eq i.cond k0 k1]
          exact ⟨(cond_okb _ (by omega)).1, (cond_okb _ (by omega)).2.1⟩
        · split
          · rename_i h; exact ⟨hlb, h.2⟩
          · exact ⟨T.itoa_ok _, T.itoa_ne _⟩
theorem rd_lin (w : Nat) (hw : decE w = 0) (lb : List UInt8) (hlb : lb.all T.okb = true) :
    T.rd (lin w lb) 0 = .inr (⟨(namI (dec w).op).data.toList, false, 1⟩ :: T.wdsAt ((ltr (shpI (dec w).op)).map fun l => opnd (dec w) l lb) (namI (dec w).op).data.toList.length) := by
  obtain ⟨he, hc⟩ := dec_yes hw
  obtain ⟨n, hn, n1, n2, hL, hg⟩ := chk_zero hc
  have e1 : (namI (dec w).op).data.toList = nameT.getD n [] := by unfold namI; rw [hn, if_pos (by omega)]; rfl
  have hnm := name_okb n n2 n1
  unfold lin
  rw [if_pos hw]
  unfold lineOf opnds
  have hfm : (ltr (shpI (dec w).op)).flatMap (fun l => 32 :: opnd (dec w) l lb) = ((ltr (shpI (dec w).op)).map fun l => opnd (dec w) l lb).flatMap (32 :: ·) := by rw [List.flatMap_map]
  rw [hfm]
  refine T.rd_line _ _ ?_ ?_
  · rw [e1]; exact T.pw_of hnm.2.1 hnm.1
  · intro x hx
    rw [List.mem_map] at hx
    obtain ⟨l, _, rfl⟩ := hx
    have := opnd_okb (dec w) _ hL hg lb hlb l
    exact T.pw_of this.2 this.1
theorem rd_hex (w : Nat) (hw : decE w ≠ 0) (lb : List UInt8) : T.rd (lin w lb) 0 = .inr (⟨wordN, false, 1⟩ :: T.wdsAt [T.hexed8 w] 4) := by
  have hx := hexed_okb w
  unfold lin
  rw [if_neg hw, Int.toNat_natCast]
  have : ([119, 111, 114, 100, 32] ++ T.hexed8 w : List UInt8) = wordN ++ [T.hexed8 w].flatMap (32 :: ·) := by simp [wordN]
  rw [this]
  refine T.rd_line wordN [T.hexed8 w] (T.pw_of (by decide) (by decide)) ?_
  intro x hx'
  rw [List.mem_singleton] at hx'
  subst hx'
  exact T.pw_of hx.2.1 hx.1
theorem line_w (n : Nat) (st : St) (w : Nat) (hw : w < 4294967296) (lb : List UInt8) (hlb : lb.all T.okb = true) (hj : lb ≠ [] → T.name lb = true ∧ decE w = 0 ∧ ((dec w).op = 21 ∨ (dec w).op = 22)) (room : st.ws.length < 2048) :
    ∃ wds x L', T.rd (lin w lb) 0 = .inr wds ∧ lay n st wds = .inr ⟨st.ws ++ [x], st.labs, st.lat ++ L'⟩ ∧ ((L' = [] ∧ x = w) ∨ ∃ t, L' = [t] ∧ t.place = st.ws.length ∧ Fix t w lb ∧ lb ≠ []) := by
  by_cases hl : lb = []
  · subst hl
    by_cases hd : decE w = 0
    · exact ⟨_, w, [], rd_lin w hd [] rfl, by rw [lay_ins n st w hd room, List.append_nil], .inl ⟨rfl, rfl⟩⟩
    · exact ⟨_, w, [], rd_hex w hd [], by rw [lay_word n st w hw room, List.append_nil], .inl ⟨rfl, rfl⟩⟩
  · obtain ⟨h1, hd, h2⟩ := hj hl
    obtain ⟨x, t, h3, h4, h5⟩ := lay_jump n st w hd h2 lb hl h1 room (namI (dec w).op).data.toList.length
    exact ⟨_, x, [t], rd_lin w hd lb hlb, h3, .inr ⟨t, rfl, h4, h5, hl⟩⟩
end S
end Go.Proofs.YtncnogndopgknaaGreatDoor
