/- asm's Print (4). -/
import Derived.Test.YtncnogndopgknaaDoorLb6
import Derived.Test.YtncnogndopgknaaDoorBld
namespace Go.Proofs.YtncnogndopgknaaDoor
open Go.RowKit
namespace A
def prt (ws : List Nat) : List UInt8 := if ws.length ≤ 2048 then txt ws (ws.length + 1) else []
def prtE (ws : List Nat) : Int := if ws.length ≤ 2048 then 0 else 66
end A
set_option maxRecDepth 40000 in
set_option maxHeartbeats 2000000 in
theorem print_any (W : World) (hT : TB W) (ao : Option Addr) (n c : Nat) (ws : List Nat) (hl : ws.length = n) (hat : AtW W ao ws) (hw : ∀ x ∈ ws, x < 4294967296) (base : Int) :
    Calls Tryd.prog 4 #[.slice ao n c, .int .u32 base] W fun e w' => e = .returned (.tuple #[.string ⟨(A.prt ws).toArray⟩, .int .i64 (A.prtE ws)]) ∧ Below W.heap.size W w' := by
  by_cases hn : n ≤ 2048
  · have HR : Hid (A.prt ws = A.txt ws (n + 1) ∧ A.prtE ws = 0) := hid (by unfold A.prt A.prtE; rw [hl, if_pos hn, if_pos hn]; exact ⟨rfl, rfl⟩)
    rw [HR.out.1, HR.out.2]
    have n1 : (n : Int) ≤ 2048 := by omega
    have HT : Hid (∀ x, Below W.heap.size W x → TB x) := hid (fun x hx => hT.on hx)
    have HA : Hid (AtW W ao ws) := hat
    have HLN : Hid (ws.length = n) := hl
    have HW : Hid (∀ x ∈ ws, x < 4294967296) := hw
    have H9 := hid (targetNames_any W hT ao n c ws hl hn hat hw)
    have HTL : Hid (∀ k, k ≤ n + 1 → (A.txt ws k).length ≤ 210000) := hid (fun k hk => by have := A.txt_len ws (by omega) k (by omega); omega)
    clear hT hat hl hw HR
    go_enter Tryd.func4, Tryd.ntmps4
    go_wp2_with (go_at_call 9; refine H9.out.mono ?_; rintro e V ⟨⟨g, rfl, hg, hc9⟩, hbV⟩)
    have HBV : Hid (Below W.heap.size W V ∧ Cel V g 9 (A.nms ws (n + 1))) := hid ⟨hbV, hc9⟩
    have HBL : Hid (BL V (V.alloc (.cells #[.pointer none, .slice none 0 0] 37)) V.heap.size (A.txt ws 0)) := hid (BL.fresh V)
    clear H9 hg hc9 hbV
    generalize V.alloc (.cells #[.pointer none, .slice none 0 0] 37) = X at *
    generalize hbb : V.heap.size = bb at HBL ⊢
    clear hbb
    go_loopw [8, 9, 17] (fun _ _ i wr => ∃ k : Nat, k ≤ n + 1 ∧ i = .int .i64 k ∧ Hid (BL V wr bb (A.txt ws k))) (fun _ _ i _ => n + 1 - (intOf i).toNat)
    case atStart => exact ⟨0, Nat.zero_le _, rfl, HBL⟩
    case round =>
      clear HBL
      obtain ⟨k, hk, rfl, HB⟩ := hrel
      by_cases hlt : k < n + 1
      · have c1 : (k : Int) < (n : Int) + 1 := by omega
        have hnc : wr.cell? ⟨g, k, none⟩ = some (.string ⟨(A.nmAt ws k).toArray⟩) := by
          rw [(HBV.out.2.on HB.out.below).cell k, A.nms_at ws (n + 1) k (by rw [HLN.out]; omega), if_pos hlt]
        have hnl := A.nmAt_len ws k (by omega)
        have HTX : Hid (A.txt ws (k + 1) = A.txt ws k ++ A.row ws k) := hid (A.txt_succ ws k)
        have HLK := hid (HTL.out k hk)
        have HRW : Hid (A.row ws k = (if A.nmAt ws k = [] then [] else A.nmAt ws k ++ [58, 10]) ++ (if k < n then A.lin (ws.getD k 0 : Nat) (A.lab ws k) ++ [10] else [])) := hid (by unfold A.row; rw [HLN.out])
        by_cases hkn : k < n
        · have c2 : (k : Int) < (n : Int) := by omega
          have hkl : k < ws.length := by rw [HLN.out]; exact hkn
          rcases HA.out with h0 | ⟨b, o, rfl, hb, hc⟩
          · rw [h0] at hkl; simp at hkl
          have HU : Hid (∀ x, Below V.heap.size V x → x.cell? ⟨b, o + k, none⟩ = some (.int .u32 ((ws.getD k 0 : Nat) : Int))) := hid (fun x hx => by
            rw [(HBV.out.1.trans (hx.mono HBV.out.1.size)).cell (p := ⟨b, o + k, none⟩) hb, hc k hkl, List.getD_eq_getElem?_getD, List.getElem?_eq_getElem hkl, Option.getD_some])
          have hu : ws.getD k 0 < 4294967296 := by
            rw [List.getD_eq_getElem?_getD, List.getElem?_eq_getElem hkl, Option.getD_some]
            exact HW.out _ (List.getElem_mem _)
          have H12 : Hid (∀ x, Below V.heap.size V x → Calls Tryd.prog 12 #[.slice (some ⟨b, o, none⟩) n c, .int .i64 (k : Int), .slice (some ⟨g, 0, none⟩) (n + 1) (n + 1)] x fun e w' => e = .returned (.string ⟨(A.lab ws k).toArray⟩) ∧ Below x.heap.size x w') := hid (fun x hx => labelOf_any x (HT.out x (HBV.out.1.trans (hx.mono HBV.out.1.size))) _ n c g ws HLN.out hn (HA.out.on (HBV.out.1.trans (hx.mono HBV.out.1.size))) HW.out (HBV.out.2.on hx) k hkn)
          have H11 : Hid (∀ x, Below V.heap.size V x → Calls Tryd.prog 11 #[.int .u32 ((ws.getD k 0 : Nat) : Int), .string ⟨(A.lab ws k).toArray⟩] x fun e w' => e = .returned (.string ⟨(A.lin (ws.getD k 0 : Nat) (A.lab ws k)).toArray⟩) ∧ Below x.heap.size x w') := hid (fun x hx => lineWith_any x (HT.out x (HBV.out.1.trans (hx.mono HBV.out.1.size))) _ (by omega) (by omega) _ (A.lab_len ws k (by rw [HLN.out]; omega)))
          have hll := A.lin_len (ws.getD k 0 : Nat) (A.lab ws k) (A.lab_len ws k (by rw [HLN.out]; omega))
          have x9 := bap (A.lin (ws.getD k 0 : Nat) (A.lab ws k)) [10]
          rw [if_pos hkn] at HRW
          clear hc hkl hu
          generalize A.lin (ws.getD k 0 : Nat) (A.lab ws k) = ln at *
          generalize A.lab ws k = lb at *
          generalize ws.getD k 0 = u at *
          generalize A.row ws k = rw6 at *
          have k0 : 0 ≤ (k : Int) := by omega
          by_cases hnm : A.nmAt ws k = []
          · rw [hnm] at hnc HRW
            rw [if_pos rfl, List.nil_append] at HRW
            have HB1 : Hid (BL V wr bb (A.txt ws k)) := HB
            have HLL : Hid ((A.txt ws k).length ≤ 210020) := hid (by have := HLK.out; omega)
            have HFin : Hid (A.txt ws (k + 1) = A.txt ws k ++ (ln ++ [10])) := hid (by rw [HTX.out, HRW.out])
            clear HB HLK HTX HRW hnl
            generalize A.txt ws k = tx at *
            go_wp2_with fail
            refine wp_region_held_drew (S := fun x => Below V.heap.size V x) (by kernel_rfl) (HB1.out.drew.below) (fun hHeld => ?_)
            refine wpAnyH_take (i := 0) (oi := { dst := some 31, op := Op.move (Operand.tmp 0), type := 22, pos := "print.go:23", after := #[], guard := none }) (v := .slice (some ⟨b, o, none⟩) n c) rfl (by kernel_rfl) (by kernel_rfl) (by kernel_rfl) (fun _ _ _ h => h) (Or.inl ⟨by rfl, by intro w hSw; go_simp⟩) (by assumption) ?_
            simp only [Act.put, List.setIfInBounds_toArray, List.set_cons_zero, List.set_cons_succ]
            refine wpAnyH_take (i := 1) (oi := { dst := some 32, op := Op.move (Operand.tmp 8), type := 3, pos := "print.go:23", after := #[], guard := none }) (v := .int .i64 (k : Int)) rfl (by kernel_rfl) (by kernel_rfl) (by kernel_rfl) (fun _ _ _ h => h) (Or.inl ⟨by rfl, by intro w hSw; go_simp⟩) (by assumption) ?_
            simp only [Act.put, List.setIfInBounds_toArray, List.set_cons_zero, List.set_cons_succ]
            refine wpAnyH_take (i := 2) (oi := { dst := some 33, op := Op.indexAddr 22 (Operand.tmp 31) (Operand.tmp 32), type := 0, pos := "print.go:23", after := #[{ on := 0, ground := Ground.data }, { on := 1, ground := Ground.data }], guard := none }) (v := .pointer (some ⟨b, o + k, none⟩)) rfl (by kernel_rfl) (by kernel_rfl) (by kernel_rfl) (fun _ _ _ h => h) (Or.inl ⟨by rfl, by intro w hSw; go_simp⟩) (by assumption) ?_
            simp only [Act.put, List.setIfInBounds_toArray, List.set_cons_zero, List.set_cons_succ]
            refine wpAnyH_take (i := 3) (oi := { dst := some 34, op := Op.load 23 (Operand.tmp 33), type := 23, pos := "print.go:23", after := #[{ on := 2, ground := Ground.data }], guard := none }) (v := .int .u32 (u : Int)) rfl (by kernel_rfl) (by kernel_rfl) (by kernel_rfl) (fun _ _ _ h => h) (Or.inl ⟨by rfl, by intro w hSw; have hcc := HU.out w hSw; go_simp⟩) (by assumption) ?_
            simp only [Act.put, List.setIfInBounds_toArray, List.set_cons_zero, List.set_cons_succ]
            refine wpAnyH_take (i := 4) (oi := { dst := some 35, op := Op.move (Operand.tmp 0), type := 22, pos := "print.go:23", after := #[], guard := none }) (v := .slice (some ⟨b, o, none⟩) n c) rfl (by kernel_rfl) (by kernel_rfl) (by kernel_rfl) (fun _ _ _ h => h) (Or.inl ⟨by rfl, by intro w hSw; go_simp⟩) (by assumption) ?_
            simp only [Act.put, List.setIfInBounds_toArray, List.set_cons_zero, List.set_cons_succ]
            refine wpAnyH_take (i := 5) (oi := { dst := some 36, op := Op.move (Operand.tmp 8), type := 3, pos := "print.go:23", after := #[], guard := none }) (v := .int .i64 (k : Int)) rfl (by kernel_rfl) (by kernel_rfl) (by kernel_rfl) (fun _ _ _ h => h) (Or.inl ⟨by rfl, by intro w hSw; go_simp⟩) (by assumption) ?_
            simp only [Act.put, List.setIfInBounds_toArray, List.set_cons_zero, List.set_cons_succ]
            refine wpAnyH_take (i := 6) (oi := { dst := some 37, op := Op.move (Operand.tmp 6), type := 32, pos := "print.go:23", after := #[], guard := none }) (v := .slice (some ⟨g, 0, none⟩) (n + 1) (n + 1)) rfl (by kernel_rfl) (by kernel_rfl) (by kernel_rfl) (fun _ _ _ h => h) (Or.inl ⟨by rfl, by intro w hSw; go_simp⟩) (by assumption) ?_
            simp only [Act.put, List.setIfInBounds_toArray, List.set_cons_zero, List.set_cons_succ]
            refine wpAnyH_ready (rs := [7]) (by kernel_rfl) (by simp) (AllReadyH.cons (o := { dst := some 38, op := Op.call { callee := Callee.value (Operand.func 12), args := #[Operand.tmp 35, Operand.tmp 36, Operand.tmp 37], argTypes := #[22, 3, 32] }, type := 9, pos := "print.go:23", after := #[{ on := 4, ground := Ground.data }, { on := 5, ground := Ground.data }, { on := 6, ground := Ground.data }], guard := none }) rfl (fun KQ hK => ?_) AllReadyH.nil)
            go_simp
            refine (H12.out _ HB1.out.drew.below).mono ?_
            rintro e w7 ⟨rfl, hb7⟩
            have HB7 : Hid (BL V w7 bb tx) := hid (HB1.out.drew.on hb7)
            go_wp2_with fail
            refine hK.out _ _ HB7.out.below (fun hHeld => ?_)
            clear hK KQ
            try simp only [Act.put, List.setIfInBounds_toArray, List.set_cons_zero, List.set_cons_succ]
            refine wpAnyH_ready (rs := [8]) (by kernel_rfl) (by simp) (AllReadyH.cons (o := { dst := some 39, op := Op.call { callee := Callee.value (Operand.func 11), args := #[Operand.tmp 34, Operand.tmp 38], argTypes := #[23, 9] }, type := 9, pos := "print.go:23", after := #[{ on := 3, ground := Ground.data }, { on := 7, ground := Ground.data }, { on := 7, ground := Ground.chain }], guard := none }) rfl (fun KQ hK => ?_) AllReadyH.nil)
            go_simp
            refine (H11.out _ HB7.out.below).mono ?_
            rintro e w8 ⟨rfl, hb8⟩
            have HB8 : Hid (BL V w8 bb tx) := hid (HB7.out.on hb8)
            go_wp2_with fail
            refine hK.out _ _ HB8.out.below (fun hHeld => ?_)
            clear hK KQ
            try simp only [Act.put, List.setIfInBounds_toArray, List.set_cons_zero, List.set_cons_succ]
            refine wpAnyH_take (i := 9) (oi := { dst := some 40, op := Op.binOp BinOp.add 9 (Operand.tmp 39) (Operand.const (Value.string { data := #[10] })) 9, type := 9, pos := "print.go:23", after := #[{ on := 8, ground := Ground.data }], guard := none }) (v := .string ⟨(ln ++ [10]).toArray⟩) rfl (by kernel_rfl) (by kernel_rfl) (by kernel_rfl) (fun _ _ _ h => h) (Or.inl ⟨by rfl, by intro w hSw; go_simp; omega⟩) (by assumption) ?_
            simp only [Act.put, List.setIfInBounds_toArray, List.set_cons_zero, List.set_cons_succ]
            refine wpAnyH_ready (rs := [10]) (by kernel_rfl) (by simp) (AllReadyH.cons (o := { dst := some 41, op := Op.call { callee := Callee.value (Operand.func 10), args := #[Operand.tmp 7, Operand.tmp 40], argTypes := #[37, 9] }, type := 40, pos := "print.go:23", after := #[{ on := 9, ground := Ground.data }, { on := 8, ground := Ground.chain }], guard := none }) rfl (fun KQ hK => ?_) AllReadyH.nil)
            go_simp
            refine (write_any V w8 bb tx (ln ++ [10]) HB8.out (by have := HLL.out; simp only [List.length_append, List.length_cons, List.length_nil] at *; omega)).mono ?_
            rintro e w10 ⟨rfl, hB10⟩
            go_wp2_with fail
            refine hK.out _ _ hB10.below (fun hHeld => ?_)
            clear hK KQ
            try simp only [Act.put, List.setIfInBounds_toArray, List.set_cons_zero, List.set_cons_succ]
            refine wpAnyH_done (by kernel_rfl) ?_ _
            clear hHeld
            go_wp2_with fail
            go_roundw
            case measure => simp [intOf] <;> omega
            case rel => exact ⟨k + 1, by omega, by go_num, hid (by rw [HFin.out]; exact hB10)⟩
          · have q : (A.nmAt ws k).isEmpty = false := by cases h : A.nmAt ws k with | nil => exact absurd h hnm | cons a b => rfl
            rw [if_neg hnm] at HRW
            have x8 := bap (A.nmAt ws k) [58, 10]
            have HLL0 : Hid ((A.txt ws k).length + (A.nmAt ws k ++ [58, 10]).length ≤ 210020) := hid (by have := HLK.out; simp only [List.length_append, List.length_cons, List.length_nil]; omega)
            have HFin : Hid (A.txt ws (k + 1) = (A.txt ws k ++ (A.nmAt ws k ++ [58, 10])) ++ (ln ++ [10])) := hid (by rw [HTX.out, HRW.out]; simp)
            clear HLK HTX HRW hnm
            generalize A.txt ws k = tx at *
            generalize A.nmAt ws k = nm at *
            go_wp2_with (go_at_call 10; refine (write_any V wr bb tx (nm ++ [58, 10]) HB.out (by have := HLL0.out; omega)).mono ?_; rintro e w5 ⟨rfl, hB5⟩)
            have HB1 : Hid (BL V w5 bb (tx ++ (nm ++ [58, 10]))) := hB5
            have HLL : Hid ((tx ++ (nm ++ [58, 10])).length ≤ 210020) := hid (by rw [List.length_append]; exact HLL0.out)
            clear hB5 HLL0 x8 HB hnc hnl
            generalize tx ++ (nm ++ [58, 10]) = tx2 at *
            refine wp_region_held_drew (S := fun x => Below V.heap.size V x) (by kernel_rfl) (HB1.out.drew.below) (fun hHeld => ?_)
            refine wpAnyH_take (i := 0) (oi := { dst := some 31, op := Op.move (Operand.tmp 0), type := 22, pos := "print.go:23", after := #[], guard := none }) (v := .slice (some ⟨b, o, none⟩) n c) rfl (by kernel_rfl) (by kernel_rfl) (by kernel_rfl) (fun _ _ _ h => h) (Or.inl ⟨by rfl, by intro w hSw; go_simp⟩) (by assumption) ?_
            simp only [Act.put, List.setIfInBounds_toArray, List.set_cons_zero, List.set_cons_succ]
            refine wpAnyH_take (i := 1) (oi := { dst := some 32, op := Op.move (Operand.tmp 8), type := 3, pos := "print.go:23", after := #[], guard := none }) (v := .int .i64 (k : Int)) rfl (by kernel_rfl) (by kernel_rfl) (by kernel_rfl) (fun _ _ _ h => h) (Or.inl ⟨by rfl, by intro w hSw; go_simp⟩) (by assumption) ?_
            simp only [Act.put, List.setIfInBounds_toArray, List.set_cons_zero, List.set_cons_succ]
            refine wpAnyH_take (i := 2) (oi := { dst := some 33, op := Op.indexAddr 22 (Operand.tmp 31) (Operand.tmp 32), type := 0, pos := "print.go:23", after := #[{ on := 0, ground := Ground.data }, { on := 1, ground := Ground.data }], guard := none }) (v := .pointer (some ⟨b, o + k, none⟩)) rfl (by kernel_rfl) (by kernel_rfl) (by kernel_rfl) (fun _ _ _ h => h) (Or.inl ⟨by rfl, by intro w hSw; go_simp⟩) (by assumption) ?_
            simp only [Act.put, List.setIfInBounds_toArray, List.set_cons_zero, List.set_cons_succ]
            refine wpAnyH_take (i := 3) (oi := { dst := some 34, op := Op.load 23 (Operand.tmp 33), type := 23, pos := "print.go:23", after := #[{ on := 2, ground := Ground.data }], guard := none }) (v := .int .u32 (u : Int)) rfl (by kernel_rfl) (by kernel_rfl) (by kernel_rfl) (fun _ _ _ h => h) (Or.inl ⟨by rfl, by intro w hSw; have hcc := HU.out w hSw; go_simp⟩) (by assumption) ?_
            simp only [Act.put, List.setIfInBounds_toArray, List.set_cons_zero, List.set_cons_succ]
            refine wpAnyH_take (i := 4) (oi := { dst := some 35, op := Op.move (Operand.tmp 0), type := 22, pos := "print.go:23", after := #[], guard := none }) (v := .slice (some ⟨b, o, none⟩) n c) rfl (by kernel_rfl) (by kernel_rfl) (by kernel_rfl) (fun _ _ _ h => h) (Or.inl ⟨by rfl, by intro w hSw; go_simp⟩) (by assumption) ?_
            simp only [Act.put, List.setIfInBounds_toArray, List.set_cons_zero, List.set_cons_succ]
            refine wpAnyH_take (i := 5) (oi := { dst := some 36, op := Op.move (Operand.tmp 8), type := 3, pos := "print.go:23", after := #[], guard := none }) (v := .int .i64 (k : Int)) rfl (by kernel_rfl) (by kernel_rfl) (by kernel_rfl) (fun _ _ _ h => h) (Or.inl ⟨by rfl, by intro w hSw; go_simp⟩) (by assumption) ?_
            simp only [Act.put, List.setIfInBounds_toArray, List.set_cons_zero, List.set_cons_succ]
            refine wpAnyH_take (i := 6) (oi := { dst := some 37, op := Op.move (Operand.tmp 6), type := 32, pos := "print.go:23", after := #[], guard := none }) (v := .slice (some ⟨g, 0, none⟩) (n + 1) (n + 1)) rfl (by kernel_rfl) (by kernel_rfl) (by kernel_rfl) (fun _ _ _ h => h) (Or.inl ⟨by rfl, by intro w hSw; go_simp⟩) (by assumption) ?_
            simp only [Act.put, List.setIfInBounds_toArray, List.set_cons_zero, List.set_cons_succ]
            refine wpAnyH_ready (rs := [7]) (by kernel_rfl) (by simp) (AllReadyH.cons (o := { dst := some 38, op := Op.call { callee := Callee.value (Operand.func 12), args := #[Operand.tmp 35, Operand.tmp 36, Operand.tmp 37], argTypes := #[22, 3, 32] }, type := 9, pos := "print.go:23", after := #[{ on := 4, ground := Ground.data }, { on := 5, ground := Ground.data }, { on := 6, ground := Ground.data }], guard := none }) rfl (fun KQ hK => ?_) AllReadyH.nil)
            go_simp
            refine (H12.out _ HB1.out.drew.below).mono ?_
            rintro e w7 ⟨rfl, hb7⟩
            have HB7 : Hid (BL V w7 bb tx2) := hid (HB1.out.drew.on hb7)
            go_wp2_with fail
            refine hK.out _ _ HB7.out.below (fun hHeld => ?_)
            clear hK KQ
            try simp only [Act.put, List.setIfInBounds_toArray, List.set_cons_zero, List.set_cons_succ]
            refine wpAnyH_ready (rs := [8]) (by kernel_rfl) (by simp) (AllReadyH.cons (o := { dst := some 39, op := Op.call { callee := Callee.value (Operand.func 11), args := #[Operand.tmp 34, Operand.tmp 38], argTypes := #[23, 9] }, type := 9, pos := "print.go:23", after := #[{ on := 3, ground := Ground.data }, { on := 7, ground := Ground.data }, { on := 7, ground := Ground.chain }], guard := none }) rfl (fun KQ hK => ?_) AllReadyH.nil)
            go_simp
            refine (H11.out _ HB7.out.below).mono ?_
            rintro e w8 ⟨rfl, hb8⟩
            have HB8 : Hid (BL V w8 bb tx2) := hid (HB7.out.on hb8)
            go_wp2_with fail
            refine hK.out _ _ HB8.out.below (fun hHeld => ?_)
            clear hK KQ
            try simp only [Act.put, List.setIfInBounds_toArray, List.set_cons_zero, List.set_cons_succ]
            refine wpAnyH_take (i := 9) (oi := { dst := some 40, op := Op.binOp BinOp.add 9 (Operand.tmp 39) (Operand.const (Value.string { data := #[10] })) 9, type := 9, pos := "print.go:23", after := #[{ on := 8, ground := Ground.data }], guard := none }) (v := .string ⟨(ln ++ [10]).toArray⟩) rfl (by kernel_rfl) (by kernel_rfl) (by kernel_rfl) (fun _ _ _ h => h) (Or.inl ⟨by rfl, by intro w hSw; go_simp; omega⟩) (by assumption) ?_
            simp only [Act.put, List.setIfInBounds_toArray, List.set_cons_zero, List.set_cons_succ]
            refine wpAnyH_ready (rs := [10]) (by kernel_rfl) (by simp) (AllReadyH.cons (o := { dst := some 41, op := Op.call { callee := Callee.value (Operand.func 10), args := #[Operand.tmp 7, Operand.tmp 40], argTypes := #[37, 9] }, type := 40, pos := "print.go:23", after := #[{ on := 9, ground := Ground.data }, { on := 8, ground := Ground.chain }], guard := none }) rfl (fun KQ hK => ?_) AllReadyH.nil)
            go_simp
            refine (write_any V w8 bb tx2 (ln ++ [10]) HB8.out (by have := HLL.out; simp only [List.length_append, List.length_cons, List.length_nil] at *; omega)).mono ?_
            rintro e w10 ⟨rfl, hB10⟩
            go_wp2_with fail
            refine hK.out _ _ hB10.below (fun hHeld => ?_)
            clear hK KQ
            try simp only [Act.put, List.setIfInBounds_toArray, List.set_cons_zero, List.set_cons_succ]
            refine wpAnyH_done (by kernel_rfl) ?_ _
            clear hHeld
            go_wp2_with fail
            go_roundw
            case measure => simp [intOf] <;> omega
            case rel => exact ⟨k + 1, by omega, by go_num, hid (by rw [HFin.out]; exact hB10)⟩
        · obtain rfl : k = n := by omega
          have c2 : ¬ ((k : Int) < (k : Int)) := by omega
          rw [if_neg hkn, List.append_nil] at HRW
          by_cases hnm : A.nmAt ws k = []
          · rw [hnm] at hnc HRW
            rw [if_pos rfl] at HRW
            have HFin : Hid (A.txt ws (k + 1) = A.txt ws k) := hid (by rw [HTX.out, HRW.out, List.append_nil])
            clear HLK HTX HRW hnl hkn
            go_wp2_with fail
            go_roundw
            case measure => simp [intOf] <;> omega
            case rel => exact ⟨k + 1, by omega, by go_num, hid (by rw [HFin.out]; exact HB.out)⟩
          · have q : (A.nmAt ws k).isEmpty = false := by cases h : A.nmAt ws k with | nil => exact absurd h hnm | cons a b => rfl
            rw [if_neg hnm] at HRW
            have x8 := bap (A.nmAt ws k) [58, 10]
            have HLL0 : Hid ((A.txt ws k).length + (A.nmAt ws k ++ [58, 10]).length ≤ 210020) := hid (by have := HLK.out; simp only [List.length_append, List.length_cons, List.length_nil]; omega)
            have HFin : Hid (A.txt ws (k + 1) = A.txt ws k ++ (A.nmAt ws k ++ [58, 10])) := hid (by rw [HTX.out, HRW.out])
            clear HLK HTX HRW hnm hkn
            generalize A.txt ws k = tx at *
            generalize A.nmAt ws k = nm at *
            go_wp2_with (go_at_call 10; refine (write_any V wr bb tx (nm ++ [58, 10]) HB.out (by have := HLL0.out; omega)).mono ?_; rintro e w5 ⟨rfl, hB5⟩)
            go_roundw
            case measure => simp [intOf] <;> omega
            case rel => exact ⟨k + 1, by omega, by go_num, hid (by rw [HFin.out]; exact hB5)⟩
      · obtain rfl : k = n + 1 := by omega
        clear hlt hk HTL
        have HS13 := hid (string_any V wr bb _ HB.out)
        go_wp2_with (go_at_call 13; refine HS13.out.mono ?_; rintro e w6 ⟨rfl, hb6⟩)
        go_ret2
        exact ⟨rfl, HBV.out.1.trans (hb6.mono HBV.out.1.size)⟩
  · have HR : Hid (A.prt ws = [] ∧ A.prtE ws = 66) := hid (by unfold A.prt A.prtE; rw [hl, if_neg hn, if_neg hn]; exact ⟨rfl, rfl⟩)
    rw [HR.out.1, HR.out.2]
    have n1 : (2048 : Int) < (n : Int) := by omega
    clear hT hat hl hw HR hn
    go_enter Tryd.func4, Tryd.ntmps4
    go_wp2_with fail
    go_ret2
    exact ⟨rfl, Below.refl _ _⟩
end Go.Proofs.YtncnogndopgknaaDoor
