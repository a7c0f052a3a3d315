/- The law's plays (11): kind 4 (Tens, Hexed, Minus). -/
import Derived.Test.YtbjinmlelchmgaaGreatDoorPy5
import Derived.Test.YtbjinmlelchmgaaGreatDoorRf8
import Derived.Test.YtbjinmlelchmgaaGreatDoorRf9
import Derived.Test.YtbjinmlelchmgaaGreatDoorFmt
import Derived.Test.YtbjinmlelchmgaaGreatDoorHexd
import Derived.Test.YtbjinmlelchmgaaGreatDoorHead
namespace Go.Proofs.YtbjinmlelchmgaaGreatDoor
open Go.RowKit
set_option maxRecDepth 40000 in
set_option maxHeartbeats 4000000 in
theorem plays4 (W : World) (s : ByteArray) (p i : Int) (u : Nat) (ab ar : Option Addr) (nb cb nr cr : Nat) (hu : u < 4294967296) (hi0 : -2147483648 ≤ i) (hi1 : i ≤ 2147483647) (htab : PowTab W) :
    Calls Tryz.prog 11 #[.agg #[.int .i64 4, .string s, .int .i64 p, .slice ab nb cb, .int .u32 (u : Int), .int .i32 i, .slice ar nr cr]] W fun e w' => e = .returned (.bool true) ∧ Below W.heap.size W w' := by
  have H1 : Hid (∀ w, Below (W.alloc (.cells #[.int .i64 4, .string s, .int .i64 p, .slice ab nb cb, .int .u32 (u : Int), .int .i32 i, .slice ar nr cr] 34)).heap.size (W.alloc (.cells #[.int .i64 4, .string s, .int .i64 p, .slice ab nb cb, .int .u32 (u : Int), .int .i32 i, .slice ar nr cr] 34)) w → Calls Tryz.prog 29 #[.int .u32 (u : Int)] w fun e w' => e = .returned (.string (⟨(Lib.decDigits u).toArray⟩ : ByteArray)) ∧ Below (W.alloc (.cells #[.int .i64 4, .string s, .int .i64 p, .slice ab nb cb, .int .u32 (u : Int), .int .i32 i, .slice ar nr cr] 34)).heap.size (W.alloc (.cells #[.int .i64 4, .string s, .int .i64 p, .slice ab nb cb, .int .u32 (u : Int), .int .i32 i, .slice ar nr cr] 34)) w') := hid (fun w hw => (tens_text u (by omega) w (PowTab.on htab (box_up hw))).mono (by rintro e w' ⟨rfl, hb⟩; exact ⟨rfl, hw.trans (hb.mono hw.size)⟩))
  have H2 : Hid (∀ w, Below (W.alloc (.cells #[.int .i64 4, .string s, .int .i64 p, .slice ab nb cb, .int .u32 (u : Int), .int .i32 i, .slice ar nr cr] 34)).heap.size (W.alloc (.cells #[.int .i64 4, .string s, .int .i64 p, .slice ab nb cb, .int .u32 (u : Int), .int .i32 i, .slice ar nr cr] 34)) w → Calls Tryz.prog 37 #[.int .u32 (u : Int)] w fun e w' => e = .returned (.string (⟨(Lib.decDigits u).toArray⟩ : ByteArray)) ∧ Below (W.alloc (.cells #[.int .i64 4, .string s, .int .i64 p, .slice ab nb cb, .int .u32 (u : Int), .int .i32 i, .slice ar nr cr] 34)).heap.size (W.alloc (.cells #[.int .i64 4, .string s, .int .i64 p, .slice ab nb cb, .int .u32 (u : Int), .int .i32 i, .slice ar nr cr] 34)) w') := hid (fun w hw => (rTens_any w u (by omega)).mono (by rintro e w' ⟨rfl, rfl⟩; exact ⟨rfl, hw⟩))
  have H3 : Hid (∀ w, Below (W.alloc (.cells #[.int .i64 4, .string s, .int .i64 p, .slice ab nb cb, .int .u32 (u : Int), .int .i32 i, .slice ar nr cr] 34)).heap.size (W.alloc (.cells #[.int .i64 4, .string s, .int .i64 p, .slice ab nb cb, .int .u32 (u : Int), .int .i32 i, .slice ar nr cr] 34)) w → Calls Tryz.prog 38 #[.int .u32 (u : Int)] w fun e w' => e = .returned (.string (⟨(T.hexed8 u).toArray⟩ : ByteArray)) ∧ Below (W.alloc (.cells #[.int .i64 4, .string s, .int .i64 p, .slice ab nb cb, .int .u32 (u : Int), .int .i32 i, .slice ar nr cr] 34)).heap.size (W.alloc (.cells #[.int .i64 4, .string s, .int .i64 p, .slice ab nb cb, .int .u32 (u : Int), .int .i32 i, .slice ar nr cr] 34)) w') := hid (fun w hw => (hexed_text w u hu).mono (by rintro e w' ⟨rfl, hb⟩; exact ⟨rfl, hw.trans (hb.mono hw.size)⟩))
  have H4 : Hid (∀ w, Below (W.alloc (.cells #[.int .i64 4, .string s, .int .i64 p, .slice ab nb cb, .int .u32 (u : Int), .int .i32 i, .slice ar nr cr] 34)).heap.size (W.alloc (.cells #[.int .i64 4, .string s, .int .i64 p, .slice ab nb cb, .int .u32 (u : Int), .int .i32 i, .slice ar nr cr] 34)) w → Calls Tryz.prog 39 #[.int .u32 (u : Int)] w fun e w' => e = .returned (.string (⟨(T.hexed8 u).toArray⟩ : ByteArray)) ∧ Below (W.alloc (.cells #[.int .i64 4, .string s, .int .i64 p, .slice ab nb cb, .int .u32 (u : Int), .int .i32 i, .slice ar nr cr] 34)).heap.size (W.alloc (.cells #[.int .i64 4, .string s, .int .i64 p, .slice ab nb cb, .int .u32 (u : Int), .int .i32 i, .slice ar nr cr] 34)) w') := hid (fun w hw => (rHexed_any w u hu).mono (by rintro e w' ⟨rfl, rfl⟩; exact ⟨rfl, hw⟩))
  have H5 : Hid (∀ w, Below (W.alloc (.cells #[.int .i64 4, .string s, .int .i64 p, .slice ab nb cb, .int .u32 (u : Int), .int .i32 i, .slice ar nr cr] 34)).heap.size (W.alloc (.cells #[.int .i64 4, .string s, .int .i64 p, .slice ab nb cb, .int .u32 (u : Int), .int .i32 i, .slice ar nr cr] 34)) w → Calls Tryz.prog 40 #[.int .i32 i] w fun e w' => e = .returned (.string (⟨(Lib.itoa i).toArray⟩ : ByteArray)) ∧ Below (W.alloc (.cells #[.int .i64 4, .string s, .int .i64 p, .slice ab nb cb, .int .u32 (u : Int), .int .i32 i, .slice ar nr cr] 34)).heap.size (W.alloc (.cells #[.int .i64 4, .string s, .int .i64 p, .slice ab nb cb, .int .u32 (u : Int), .int .i32 i, .slice ar nr cr] 34)) w') := hid (fun w hw => (minus_text i hi0 hi1 w (PowTab.on htab (box_up hw))).mono (by rintro e w' ⟨rfl, hb⟩; exact ⟨rfl, hw.trans (hb.mono hw.size)⟩))
  have H6 : Hid (∀ w, Below (W.alloc (.cells #[.int .i64 4, .string s, .int .i64 p, .slice ab nb cb, .int .u32 (u : Int), .int .i32 i, .slice ar nr cr] 34)).heap.size (W.alloc (.cells #[.int .i64 4, .string s, .int .i64 p, .slice ab nb cb, .int .u32 (u : Int), .int .i32 i, .slice ar nr cr] 34)) w → Calls Tryz.prog 41 #[.int .i32 i] w fun e w' => e = .returned (.string (⟨(Lib.itoa i).toArray⟩ : ByteArray)) ∧ Below (W.alloc (.cells #[.int .i64 4, .string s, .int .i64 p, .slice ab nb cb, .int .u32 (u : Int), .int .i32 i, .slice ar nr cr] 34)).heap.size (W.alloc (.cells #[.int .i64 4, .string s, .int .i64 p, .slice ab nb cb, .int .u32 (u : Int), .int .i32 i, .slice ar nr cr] 34)) w') := hid (fun w hw => (rMinus_any w i hi0 hi1).mono (by rintro e w' ⟨rfl, rfl⟩; exact ⟨rfl, hw⟩))
  have HC4 : Hid (∀ w, Below (W.alloc (.cells #[.int .i64 4, .string s, .int .i64 p, .slice ab nb cb, .int .u32 (u : Int), .int .i32 i, .slice ar nr cr] 34)).heap.size (W.alloc (.cells #[.int .i64 4, .string s, .int .i64 p, .slice ab nb cb, .int .u32 (u : Int), .int .i32 i, .slice ar nr cr] 34)) w → w.cell? ⟨W.heap.size, 4, none⟩ = some (.int .u32 (u : Int))) := hid (fun w hw => box_cell hw 4 _ rfl)
  have HC5 : Hid (∀ w, Below (W.alloc (.cells #[.int .i64 4, .string s, .int .i64 p, .slice ab nb cb, .int .u32 (u : Int), .int .i32 i, .slice ar nr cr] 34)).heap.size (W.alloc (.cells #[.int .i64 4, .string s, .int .i64 p, .slice ab nb cb, .int .u32 (u : Int), .int .i32 i, .slice ar nr cr] 34)) w → w.cell? ⟨W.heap.size, 5, none⟩ = some (.int .i32 i)) := hid (fun w hw => box_cell hw 5 _ rfl)
  have HUP : Hid (∀ w, Below (W.alloc (.cells #[.int .i64 4, .string s, .int .i64 p, .slice ab nb cb, .int .u32 (u : Int), .int .i32 i, .slice ar nr cr] 34)).heap.size (W.alloc (.cells #[.int .i64 4, .string s, .int .i64 p, .slice ab nb cb, .int .u32 (u : Int), .int .i32 i, .slice ar nr cr] 34)) w → Below W.heap.size W w) := hid (fun w hw => box_up hw)
  generalize (⟨(Lib.decDigits u).toArray⟩ : ByteArray) = q1 at *
  generalize (⟨(T.hexed8 u).toArray⟩ : ByteArray) = q2 at *
  generalize (⟨(Lib.itoa i).toArray⟩ : ByteArray) = q3 at *
  clear hu hi0 hi1 htab
  go_enter Tryz.func11, Tryz.ntmps11
  go_wp2_with fail
  refine wp_region_held_drew (S := fun x => Below (W.alloc (.cells #[.int .i64 4, .string s, .int .i64 p, .slice ab nb cb, .int .u32 (u : Int), .int .i32 i, .slice ar nr cr] 34)).heap.size (W.alloc (.cells #[.int .i64 4, .string s, .int .i64 p, .slice ab nb cb, .int .u32 (u : Int), .int .i32 i, .slice ar nr cr] 34)) x) (by kernel_rfl) ((Below.refl _ _).drew) (fun hHeld => ?_)
  refine wpAnyH_take (i := 0) (oi := { dst := some 139, op := Op.fieldAddr 34 (Operand.tmp 1) 4, type := 0, pos := "law.go:100", after := #[], guard := none }) (v := .pointer (some ⟨W.heap.size, 4, none⟩)) rfl (by kernel_rfl) (by kernel_rfl) (by kernel_rfl) (fun _ _ _ h => h) (Or.inl ⟨by rfl, by intro w hSw; go_simp⟩) (by assumption) ?_
  simp only [Act.put, List.setIfInBounds_toArray, List.set_cons_zero, List.set_cons_succ]
  refine wpAnyH_take (i := 1) (oi := { dst := some 140, op := Op.load 31 (Operand.tmp 139), type := 31, pos := "law.go:100", after := #[{ on := 0, ground := Ground.data }], guard := none }) (v := .int .u32 (u : Int)) rfl (by kernel_rfl) (by kernel_rfl) (by kernel_rfl) (fun _ _ _ h => h) (Or.inl ⟨by rfl, by intro w hSw; have hcc := HC4.out w hSw; go_simp⟩) (by assumption) ?_
  simp only [Act.put, List.setIfInBounds_toArray, List.set_cons_zero, List.set_cons_succ]
  refine wpAnyH_take (i := 3) (oi := { dst := some 142, op := Op.fieldAddr 34 (Operand.tmp 1) 4, type := 0, pos := "law.go:100", after := #[], guard := none }) (v := .pointer (some ⟨W.heap.size, 4, none⟩)) rfl (by kernel_rfl) (by kernel_rfl) (by kernel_rfl) (fun _ _ _ h => h) (Or.inl ⟨by rfl, by intro w hSw; go_simp⟩) (by assumption) ?_
  simp only [Act.put, List.setIfInBounds_toArray, List.set_cons_zero, List.set_cons_succ]
  refine wpAnyH_take (i := 4) (oi := { dst := some 143, op := Op.load 31 (Operand.tmp 142), type := 31, pos := "law.go:100", after := #[{ on := 3, ground := Ground.data }], guard := none }) (v := .int .u32 (u : Int)) rfl (by kernel_rfl) (by kernel_rfl) (by kernel_rfl) (fun _ _ _ h => h) (Or.inl ⟨by rfl, by intro w hSw; have hcc := HC4.out w hSw; go_simp⟩) (by assumption) ?_
  simp only [Act.put, List.setIfInBounds_toArray, List.set_cons_zero, List.set_cons_succ]
  refine wpAnyH_ready (rs := [2]) (by kernel_rfl) (by simp) (AllReadyH.cons (o := { dst := some 141, op := Op.call { callee := Callee.value (Operand.func 29), args := #[Operand.tmp 140], argTypes := #[31] }, type := 9, pos := "law.go:100", after := #[{ on := 1, ground := Ground.data }], guard := none }) rfl (fun KQ hK => ?_) AllReadyH.nil)
  go_simp
  refine (H1.out _ ((Below.refl _ _).drew)).mono ?_
  rintro e w9 ⟨rfl, hx1⟩
  go_wp2_with fail
  refine hK.out _ _ hx1 (fun hHeld => ?_)
  clear hK KQ
  try simp only [Act.put, List.setIfInBounds_toArray, List.set_cons_zero, List.set_cons_succ]
  refine wpAnyH_ready (rs := [5]) (by kernel_rfl) (by simp) (AllReadyH.cons (o := { dst := some 144, op := Op.call { callee := Callee.value (Operand.func 37), args := #[Operand.tmp 143], argTypes := #[31] }, type := 9, pos := "law.go:100", after := #[{ on := 4, ground := Ground.data }, { on := 2, ground := Ground.chain }], guard := none }) rfl (fun KQ hK => ?_) AllReadyH.nil)
  go_simp
  refine (H2.out _ hx1).mono ?_
  rintro e w9 ⟨rfl, hx2⟩
  go_wp2_with fail
  refine hK.out _ _ hx2 (fun hHeld => ?_)
  clear hK KQ
  try simp only [Act.put, List.setIfInBounds_toArray, List.set_cons_zero, List.set_cons_succ]
  refine wpAnyH_take (i := 6) (oi := { dst := some 145, op := Op.binOp BinOp.eql 9 (Operand.tmp 141) (Operand.tmp 144) 9, type := 4, pos := "law.go:100", after := #[{ on := 2, ground := Ground.data }, { on := 5, ground := Ground.data }], guard := none }) (v := .bool true) rfl (by kernel_rfl) (by kernel_rfl) (by kernel_rfl) (fun _ _ _ h => h) (Or.inl ⟨by rfl, by intro w hSw; go_simp⟩) (by assumption) ?_
  simp only [Act.put, List.setIfInBounds_toArray, List.set_cons_zero, List.set_cons_succ]
  refine wpAnyH_take (i := 7) (oi := { dst := some 146, op := Op.move (Operand.tmp 145), type := 4, pos := "law.go:100", after := #[{ on := 6, ground := Ground.data }, { on := 5, ground := Ground.chain }], guard := none }) (v := .bool true) rfl (by kernel_rfl) (by kernel_rfl) (by kernel_rfl) (fun _ _ _ h => h) (Or.inl ⟨by rfl, by intro w hSw; go_simp⟩) (by assumption) ?_
  simp only [Act.put, List.setIfInBounds_toArray, List.set_cons_zero, List.set_cons_succ]
  refine wpAnyH_take (i := 8) (oi := { dst := some 147, op := Op.fieldAddr 34 (Operand.tmp 1) 4, type := 0, pos := "law.go:100", after := #[{ on := 7, ground := Ground.guard }], guard := some (7, true) }) (v := .pointer (some ⟨W.heap.size, 4, none⟩)) rfl (by kernel_rfl) (by kernel_rfl) (by kernel_rfl) (fun _ _ _ h => h) (Or.inl ⟨by rfl, by intro w hSw; go_simp⟩) (by assumption) ?_
  simp only [Act.put, List.setIfInBounds_toArray, List.set_cons_zero, List.set_cons_succ]
  refine wpAnyH_take (i := 9) (oi := { dst := some 148, op := Op.load 31 (Operand.tmp 147), type := 31, pos := "law.go:100", after := #[{ on := 8, ground := Ground.data }, { on := 7, ground := Ground.guard }], guard := some (7, true) }) (v := .int .u32 (u : Int)) rfl (by kernel_rfl) (by kernel_rfl) (by kernel_rfl) (fun _ _ _ h => h) (Or.inl ⟨by rfl, by intro w hSw; have hcc := HC4.out w hSw; go_simp⟩) (by assumption) ?_
  simp only [Act.put, List.setIfInBounds_toArray, List.set_cons_zero, List.set_cons_succ]
  refine wpAnyH_take (i := 11) (oi := { dst := some 150, op := Op.fieldAddr 34 (Operand.tmp 1) 4, type := 0, pos := "law.go:100", after := #[{ on := 7, ground := Ground.guard }], guard := some (7, true) }) (v := .pointer (some ⟨W.heap.size, 4, none⟩)) rfl (by kernel_rfl) (by kernel_rfl) (by kernel_rfl) (fun _ _ _ h => h) (Or.inl ⟨by rfl, by intro w hSw; go_simp⟩) (by assumption) ?_
  simp only [Act.put, List.setIfInBounds_toArray, List.set_cons_zero, List.set_cons_succ]
  refine wpAnyH_take (i := 12) (oi := { dst := some 151, op := Op.load 31 (Operand.tmp 150), type := 31, pos := "law.go:100", after := #[{ on := 11, ground := Ground.data }, { on := 7, ground := Ground.guard }], guard := some (7, true) }) (v := .int .u32 (u : Int)) rfl (by kernel_rfl) (by kernel_rfl) (by kernel_rfl) (fun _ _ _ h => h) (Or.inl ⟨by rfl, by intro w hSw; have hcc := HC4.out w hSw; go_simp⟩) (by assumption) ?_
  simp only [Act.put, List.setIfInBounds_toArray, List.set_cons_zero, List.set_cons_succ]
  refine wpAnyH_ready (rs := [10]) (by kernel_rfl) (by simp) (AllReadyH.cons (o := { dst := some 149, op := Op.call { callee := Callee.value (Operand.func 38), args := #[Operand.tmp 148], argTypes := #[31] }, type := 9, pos := "law.go:100", after := #[{ on := 9, ground := Ground.data }, { on := 7, ground := Ground.chain }, { on := 7, ground := Ground.guard }], guard := some (7, true) }) rfl (fun KQ hK => ?_) AllReadyH.nil)
  go_simp
  refine (H3.out _ hx2).mono ?_
  rintro e w9 ⟨rfl, hx3⟩
  go_wp2_with fail
  refine hK.out _ _ hx3 (fun hHeld => ?_)
  clear hK KQ
  try simp only [Act.put, List.setIfInBounds_toArray, List.set_cons_zero, List.set_cons_succ]
  refine wpAnyH_ready (rs := [13]) (by kernel_rfl) (by simp) (AllReadyH.cons (o := { dst := some 152, op := Op.call { callee := Callee.value (Operand.func 39), args := #[Operand.tmp 151], argTypes := #[31] }, type := 9, pos := "law.go:100", after := #[{ on := 12, ground := Ground.data }, { on := 10, ground := Ground.chain }, { on := 7, ground := Ground.guard }], guard := some (7, true) }) rfl (fun KQ hK => ?_) AllReadyH.nil)
  go_simp
  refine (H4.out _ hx3).mono ?_
  rintro e w9 ⟨rfl, hx4⟩
  go_wp2_with fail
  refine hK.out _ _ hx4 (fun hHeld => ?_)
  clear hK KQ
  try simp only [Act.put, List.setIfInBounds_toArray, List.set_cons_zero, List.set_cons_succ]
  refine wpAnyH_take (i := 14) (oi := { dst := some 153, op := Op.binOp BinOp.eql 9 (Operand.tmp 149) (Operand.tmp 152) 9, type := 4, pos := "law.go:100", after := #[{ on := 10, ground := Ground.data }, { on := 13, ground := Ground.data }, { on := 7, ground := Ground.guard }], guard := some (7, true) }) (v := .bool true) rfl (by kernel_rfl) (by kernel_rfl) (by kernel_rfl) (fun _ _ _ h => h) (Or.inl ⟨by rfl, by intro w hSw; go_simp⟩) (by assumption) ?_
  simp only [Act.put, List.setIfInBounds_toArray, List.set_cons_zero, List.set_cons_succ]
  refine wpAnyH_take (i := 15) (oi := { dst := some 154, op := Op.pick (Operand.tmp 146) (Operand.tmp 153) (Operand.const (Value.bool false)), type := 4, pos := "law.go:100", after := #[{ on := 7, ground := Ground.data }, { on := 14, ground := Ground.data }], guard := none }) (v := .bool true) rfl (by kernel_rfl) (by kernel_rfl) (by kernel_rfl) (fun _ _ _ h => h) (Or.inl ⟨by rfl, by intro w hSw; go_simp⟩) (by assumption) ?_
  simp only [Act.put, List.setIfInBounds_toArray, List.set_cons_zero, List.set_cons_succ]
  refine wpAnyH_take (i := 16) (oi := { dst := some 155, op := Op.move (Operand.tmp 154), type := 4, pos := "law.go:100", after := #[{ on := 15, ground := Ground.data }, { on := 13, ground := Ground.chain }], guard := none }) (v := .bool true) rfl (by kernel_rfl) (by kernel_rfl) (by kernel_rfl) (fun _ _ _ h => h) (Or.inl ⟨by rfl, by intro w hSw; go_simp⟩) (by assumption) ?_
  simp only [Act.put, List.setIfInBounds_toArray, List.set_cons_zero, List.set_cons_succ]
  refine wpAnyH_take (i := 17) (oi := { dst := some 156, op := Op.fieldAddr 34 (Operand.tmp 1) 5, type := 0, pos := "law.go:100", after := #[{ on := 16, ground := Ground.guard }], guard := some (16, true) }) (v := .pointer (some ⟨W.heap.size, 5, none⟩)) rfl (by kernel_rfl) (by kernel_rfl) (by kernel_rfl) (fun _ _ _ h => h) (Or.inl ⟨by rfl, by intro w hSw; go_simp⟩) (by assumption) ?_
  simp only [Act.put, List.setIfInBounds_toArray, List.set_cons_zero, List.set_cons_succ]
  refine wpAnyH_take (i := 18) (oi := { dst := some 157, op := Op.load 21 (Operand.tmp 156), type := 21, pos := "law.go:100", after := #[{ on := 17, ground := Ground.data }, { on := 16, ground := Ground.guard }], guard := some (16, true) }) (v := .int .i32 i) rfl (by kernel_rfl) (by kernel_rfl) (by kernel_rfl) (fun _ _ _ h => h) (Or.inl ⟨by rfl, by intro w hSw; have hcc := HC5.out w hSw; go_simp⟩) (by assumption) ?_
  simp only [Act.put, List.setIfInBounds_toArray, List.set_cons_zero, List.set_cons_succ]
  refine wpAnyH_take (i := 20) (oi := { dst := some 159, op := Op.fieldAddr 34 (Operand.tmp 1) 5, type := 0, pos := "law.go:100", after := #[{ on := 16, ground := Ground.guard }], guard := some (16, true) }) (v := .pointer (some ⟨W.heap.size, 5, none⟩)) rfl (by kernel_rfl) (by kernel_rfl) (by kernel_rfl) (fun _ _ _ h => h) (Or.inl ⟨by rfl, by intro w hSw; go_simp⟩) (by assumption) ?_
  simp only [Act.put, List.setIfInBounds_toArray, List.set_cons_zero, List.set_cons_succ]
  refine wpAnyH_take (i := 21) (oi := { dst := some 160, op := Op.load 21 (Operand.tmp 159), type := 21, pos := "law.go:100", after := #[{ on := 20, ground := Ground.data }, { on := 16, ground := Ground.guard }], guard := some (16, true) }) (v := .int .i32 i) rfl (by kernel_rfl) (by kernel_rfl) (by kernel_rfl) (fun _ _ _ h => h) (Or.inl ⟨by rfl, by intro w hSw; have hcc := HC5.out w hSw; go_simp⟩) (by assumption) ?_
  simp only [Act.put, List.setIfInBounds_toArray, List.set_cons_zero, List.set_cons_succ]
  refine wpAnyH_ready (rs := [19]) (by kernel_rfl) (by simp) (AllReadyH.cons (o := { dst := some 158, op := Op.call { callee := Callee.value (Operand.func 40), args := #[Operand.tmp 157], argTypes := #[21] }, type := 9, pos := "law.go:100", after := #[{ on := 18, ground := Ground.data }, { on := 16, ground := Ground.chain }, { on := 16, ground := Ground.guard }], guard := some (16, true) }) rfl (fun KQ hK => ?_) AllReadyH.nil)
  go_simp
  refine (H5.out _ hx4).mono ?_
  rintro e w9 ⟨rfl, hx5⟩
  go_wp2_with fail
  refine hK.out _ _ hx5 (fun hHeld => ?_)
  clear hK KQ
  try simp only [Act.put, List.setIfInBounds_toArray, List.set_cons_zero, List.set_cons_succ]
  refine wpAnyH_ready (rs := [22]) (by kernel_rfl) (by simp) (AllReadyH.cons (o := { dst := some 161, op := Op.call { callee := Callee.value (Operand.func 41), args := #[Operand.tmp 160], argTypes := #[21] }, type := 9, pos := "law.go:100", after := #[{ on := 21, ground := Ground.data }, { on := 19, ground := Ground.chain }, { on := 16, ground := Ground.guard }], guard := some (16, true) }) rfl (fun KQ hK => ?_) AllReadyH.nil)
  go_simp
  refine (H6.out _ hx5).mono ?_
  rintro e w9 ⟨rfl, hx6⟩
  go_wp2_with fail
  refine hK.out _ _ hx6 (fun hHeld => ?_)
  clear hK KQ
  try simp only [Act.put, List.setIfInBounds_toArray, List.set_cons_zero, List.set_cons_succ]
  refine wpAnyH_take (i := 23) (oi := { dst := some 162, op := Op.binOp BinOp.eql 9 (Operand.tmp 158) (Operand.tmp 161) 9, type := 4, pos := "law.go:100", after := #[{ on := 19, ground := Ground.data }, { on := 22, ground := Ground.data }, { on := 16, ground := Ground.guard }], guard := some (16, true) }) (v := .bool true) rfl (by kernel_rfl) (by kernel_rfl) (by kernel_rfl) (fun _ _ _ h => h) (Or.inl ⟨by rfl, by intro w hSw; go_simp⟩) (by assumption) ?_
  simp only [Act.put, List.setIfInBounds_toArray, List.set_cons_zero, List.set_cons_succ]
  refine wpAnyH_take (i := 24) (oi := { dst := some 163, op := Op.pick (Operand.tmp 155) (Operand.tmp 162) (Operand.const (Value.bool false)), type := 4, pos := "law.go:100", after := #[{ on := 16, ground := Ground.data }, { on := 23, ground := Ground.data }], guard := none }) (v := .bool true) rfl (by kernel_rfl) (by kernel_rfl) (by kernel_rfl) (fun _ _ _ h => h) (Or.inl ⟨by rfl, by intro w hSw; go_simp⟩) (by assumption) ?_
  simp only [Act.put, List.setIfInBounds_toArray, List.set_cons_zero, List.set_cons_succ]
  refine wpAnyH_ready (rs := [25]) (by kernel_rfl) (by simp) (AllReadyH.cons (o := { dst := some 2, op := Op.assign (Operand.tmp 163), type := 4, pos := "law.go:100", after := #[{ on := 24, ground := Ground.data }, { on := 22, ground := Ground.chain }, { on := 0, ground := Ground.phase }, { on := 1, ground := Ground.phase }, { on := 2, ground := Ground.phase }, { on := 3, ground := Ground.phase }, { on := 4, ground := Ground.phase }, { on := 5, ground := Ground.phase }, { on := 6, ground := Ground.phase }, { on := 7, ground := Ground.phase }, { on := 8, ground := Ground.phase }, { on := 9, ground := Ground.phase }, { on := 10, ground := Ground.phase }, { on := 11, ground := Ground.phase }, { on := 12, ground := Ground.phase }, { on := 13, ground := Ground.phase }, { on := 14, ground := Ground.phase }, { on := 15, ground := Ground.phase }, { on := 16, ground := Ground.phase }, { on := 17, ground := Ground.phase }, { on := 18, ground := Ground.phase }, { on := 19, ground := Ground.phase }, { on := 20, ground := Ground.phase }, { on := 21, ground := Ground.phase }, { on := 22, ground := Ground.phase }, { on := 23, ground := Ground.phase }, { on := 24, ground := Ground.phase }], guard := none }) rfl (fun KQ hK => ?_) AllReadyH.nil)
  go_simp
  refine hK.out _ _ hx6 (fun hHeld => ?_)
  clear hK KQ
  try simp only [Act.put, List.setIfInBounds_toArray, List.set_cons_zero, List.set_cons_succ]
  refine wpAnyH_done (by kernel_rfl) ?_ _
  clear hHeld
  have HX := hid (HUP.out _ hx6)
  clear hx1 hx2 hx3 hx4 hx5 hx6
  go_wp2_with fail
  go_ret
  exact ⟨rfl, HX.out⟩
end Go.Proofs.YtbjinmlelchmgaaGreatDoor
