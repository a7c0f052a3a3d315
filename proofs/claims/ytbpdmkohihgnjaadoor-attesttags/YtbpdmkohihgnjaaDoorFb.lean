/- Format 17. -/
import Derived.Test.YtbpdmkohihgnjaaDoorFa
import Derived.Test.YtbpdmkohihgnjaaDoorJg
namespace Go.Proofs.YtbpdmkohihgnjaaDoor
open Go.RowKit
set_option maxHeartbeats 4000000
set_option maxRecDepth 100000
/-- The hex of eight words. -/
def hexB (xs : List Int) : ByteArray := strOfNums (V.hexD xs)
theorem hexB_size {xs : List Int} (h : xs.length = 8) : (hexB xs).size = 64 := by unfold hexB; rw [strOfNums_size, V.hexD_length, h]
def qB0 : ByteArray := lineB [⟨#[113, 117, 111, 116, 101, 32, 49]⟩]
def qB1 (m : List Int) : ByteArray := lineB [⟨#[109, 101, 97, 115, 117, 114, 101, 109, 101, 110, 116]⟩, hexB m]
def qB2 (d : List Int) : ByteArray := lineB [⟨#[100, 97, 116, 97]⟩, hexB d]
def qB3 (t : List Int) : ByteArray := lineB [⟨#[116, 97, 103]⟩, hexB t]
/-- A quote's text. -/
def fmtQ (m d t : List Int) : ByteArray := ((qB0 ++ qB1 m) ++ qB2 d) ++ qB3 t
theorem line2 (a b : ByteArray) : (Lib.join ([a, b].map (·.data.toList)) [32]) = a.data.toList ++ ([32] ++ b.data.toList) := by simp [Lib.join, List.intercalate]
theorem sizeL (l : List UInt8) : (⟨l.toArray⟩ : ByteArray).size = l.length := by show l.toArray.size = l.length; exact List.size_toArray
theorem lenD (a : ByteArray) : a.data.toList.length = a.size := by show a.data.toList.length = a.data.size; exact Array.length_toList
theorem size10 : (⟨#[10]⟩ : ByteArray).size = 1 := rfl
theorem line2_size (a b : ByteArray) : (lineB [a, b]).size = a.size + b.size + 2 := by
  unfold lineB
  rw [ByteArray.size_append, sizeL, line2, List.length_append, List.length_append, lenD, lenD, size10, List.length_singleton]
  omega
theorem qB0_size : qB0.size = 8 := by unfold qB0 lineB; rw [ByteArray.size_append, sizeL, size10, List.map_cons, List.map_nil, Lib.join_one]; rfl
theorem qB1_size {m : List Int} (h : m.length = 8) : (qB1 m).size = 77 := by unfold qB1; rw [line2_size, hexB_size h]; rfl
theorem qB2_size {m : List Int} (h : m.length = 8) : (qB2 m).size = 70 := by unfold qB2; rw [line2_size, hexB_size h]; rfl
theorem qB3_size {m : List Int} (h : m.length = 8) : (qB3 m).size = 69 := by unfold qB3; rw [line2_size, hexB_size h]; rfl
theorem fmtQ_size {m d t : List Int} (hm : m.length = 8) (hd : d.length = 8) (ht : t.length = 8) : (fmtQ m d t).size = 224 := by
  unfold fmtQ
  rw [ByteArray.size_append, ByteArray.size_append, ByteArray.size_append, qB0_size, qB1_size hm, qB2_size hd, qB3_size ht]
structure FS (W : World) (m d t : List Int) (w : World) : Prop where
  bl : Below W.heap.size W w
  tb : TabW w
  q : Blk w W.heap.size .u32 38 (quoL m d t)
theorem FS.on {W : World} {m d t : List Int} {w w' : World} (h : FS W m d t w) (hb : Below w.heap.size w w') : FS W m d t w' := ⟨below_on h.bl hb, h.tb.below hb (by have := h.q.lt; omega), h.q.on hb⟩
theorem range_row {w : World} {g o : Nat} {xs : List Int} (h : w.rangeAt g o (xs.map (Value.int .u32))) : V.Row w .u32 g o xs := fun i hi => by
  refine h i _ ?_
  rw [List.getElem?_map, List.getElem?_eq_getElem hi]
  simp [List.getD_eq_getElem?_getD, List.getElem?_eq_getElem hi]
theorem hexAt {W : World} {m d t : List Int} {w : World} (h : FS W m d t w) (o : Nat) (xs : List Int) (hx : xs.length = 8) (wx : Wds xs) (hr : w.rangeAt W.heap.size o (xs.map (Value.int .u32))) :
    Calls Tryd.prog 46 #[.slice (some ⟨W.heap.size, o, none⟩) 8 8] w fun e W' => e = .returned (.string (hexB xs)) ∧ Below w.heap.size w W' :=
  V.hexAll_any w h.tb W.heap.size o 8 8 xs hx wx (range_row hr) (by decide) h.q.lt (by have := h.q.lt; omega)
theorem lineAt (w : World) (g n : Nat) (xs : List ByteArray) (hn : xs.length = n) (hN : xs.length ≤ 1000) (hl : (Lib.join (xs.map (·.data.toList)) [32]).length ≤ 1000000) (hc : Cel w g 9 (xs.map Value.string)) :
    Calls Tryd.prog 45 #[.slice (some ⟨g, 0, none⟩) n n] w fun e w' => e = .returned (.string (lineB xs)) ∧ Below w.heap.size w w' :=
  layLine_any g n n xs w hn (fun j x hx => by rw [hc.cell j, List.getElem?_map, hx]; rfl) hc.lt hN (by omega) hl
attribute [-simp] Tryd.isAgg23 Tryd.zeroValue23 Tryd.isAgg38 Tryd.zeroValue38
theorem format_any (W : World) (hT : TabW W) (h0 : 0 < W.heap.size) (m d t : List Int) (hm : m.length = 8) (hd : d.length = 8) (ht : t.length = 8) (wm : Wds m) (wd : Wds d) (wt : Wds t) :
    Calls Tryd.prog 17 #[Ag (quoL m d t)] W fun e W' => e = .returned (.string (fmtQ m d t)) ∧ Below W.heap.size W W' := by
  obtain ⟨X, hX⟩ : ∃ X, X = W.alloc (Obj.cells (List.map (Value.int IntKind.u32) (quoL m d t)).toArray 38) := ⟨_, rfl⟩
  have Y0 : Hid (FS W m d t X.drew) := hid (by
    have HB : Below W.heap.size W X := by rw [hX]; exact below_one W _
    refine ⟨HB.drew, hT.below HB.drew h0, ?_⟩
    rw [hX]; exact Blk.new W .u32 38 (quoL m d t))
  have H0 : Hid (∀ w, FS W m d t w → Calls Tryd.prog 46 #[.slice (some ⟨W.heap.size, 0, none⟩) 8 8] w fun e W' => e = .returned (.string (hexB m)) ∧ Below w.heap.size w W') := hid fun w h => hexAt h 0 m hm wm (quo0 (cel_range (blk_cel h.q)))
  have H8 : Hid (∀ w, FS W m d t w → Calls Tryd.prog 46 #[.slice (some ⟨W.heap.size, 8, none⟩) 8 8] w fun e W' => e = .returned (.string (hexB d)) ∧ Below w.heap.size w W') := hid fun w h => hexAt h 8 d hd wd (by have := quo8 (cel_range (blk_cel h.q)) hm; rwa [Nat.zero_add] at this)
  have H16 : Hid (∀ w, FS W m d t w → Calls Tryd.prog 46 #[.slice (some ⟨W.heap.size, 16, none⟩) 8 8] w fun e W' => e = .returned (.string (hexB t)) ∧ Below w.heap.size w W') := hid fun w h => hexAt h 16 t ht wt (by have := quo16 (cel_range (blk_cel h.q)) hm hd; rwa [Nat.zero_add] at this)
  have K0 : Hid (∀ w g, Cel w g 9 [.string ⟨#[113, 117, 111, 116, 101, 32, 49]⟩] → Calls Tryd.prog 45 #[.slice (some ⟨g, 0, none⟩) 1 1] w fun e w' => e = .returned (.string qB0) ∧ Below w.heap.size w w') := hid fun w g hc => lineAt w g 1 [⟨#[113, 117, 111, 116, 101, 32, 49]⟩] rfl (by decide) (by decide) hc
  have K1 : Hid (∀ w g, Cel w g 9 [.string ⟨#[109, 101, 97, 115, 117, 114, 101, 109, 101, 110, 116]⟩, .string (hexB m)] → Calls Tryd.prog 45 #[.slice (some ⟨g, 0, none⟩) 2 2] w fun e w' => e = .returned (.string (qB1 m)) ∧ Below w.heap.size w w') := hid fun w g hc => lineAt w g 2 [⟨#[109, 101, 97, 115, 117, 114, 101, 109, 101, 110, 116]⟩, hexB m] rfl (by show 2 ≤ 1000; decide) (by rw [line2, List.length_append, List.length_append, lenD, lenD, hexB_size hm]; decide) hc
  have K2 : Hid (∀ w g, Cel w g 9 [.string ⟨#[100, 97, 116, 97]⟩, .string (hexB d)] → Calls Tryd.prog 45 #[.slice (some ⟨g, 0, none⟩) 2 2] w fun e w' => e = .returned (.string (qB2 d)) ∧ Below w.heap.size w w') := hid fun w g hc => lineAt w g 2 [⟨#[100, 97, 116, 97]⟩, hexB d] rfl (by show 2 ≤ 1000; decide) (by rw [line2, List.length_append, List.length_append, lenD, lenD, hexB_size hd]; decide) hc
  have K3 : Hid (∀ w g, Cel w g 9 [.string ⟨#[116, 97, 103]⟩, .string (hexB t)] → Calls Tryd.prog 45 #[.slice (some ⟨g, 0, none⟩) 2 2] w fun e w' => e = .returned (.string (qB3 t)) ∧ Below w.heap.size w w') := hid fun w g hc => lineAt w g 2 [⟨#[116, 97, 103]⟩, hexB t] rfl (by show 2 ≤ 1000; decide) (by rw [line2, List.length_append, List.length_append, lenD, lenD, hexB_size ht]; decide) hc
  have s0 := qB0_size
  have s1 := qB1_size hm
  have s2 := qB2_size hd
  have s3 := qB3_size ht
  have HF := hid (show fmtQ m d t = ((qB0 ++ qB1 m) ++ qB2 d) ++ qB3 t from rfl)
  generalize fmtQ m d t = F at *
  generalize qB0 = B0 at *
  generalize qB1 m = B1 at *
  generalize qB2 d = B2 at *
  generalize qB3 t = B3 at *
  generalize hexB m = x1 at *
  generalize hexB d = x2 at *
  generalize hexB t = x3 at *
  have u0 : B0.size ≤ 1000 := by omega
  have u1 : B1.size ≤ 1000 := by omega
  have u2 : B2.size ≤ 1000 := by omega
  have u3 : B3.size ≤ 1000 := by omega
  have u4 : (B0 ++ B1).size ≤ 2000 := by rw [ByteArray.size_append]; omega
  have u5 : ((B0 ++ B1) ++ B2).size ≤ 3000 := by rw [ByteArray.size_append, ByteArray.size_append]; omega
  clear hT h0 wm wd wt hm hd ht s0 s1 s2 s3
  unfold Ag
  go_enter Tryd.func17, Tryd.ntmps17
  go_upto_region 1 with fail
  rw [← hX]
  clear hX
  refine wp_region_held_drew (S := fun w => FS W m d t w) (by kernel_rfl) Y0.out (fun hHeld => ?_)
  generalize World.drew _ = w0 at *
  refine wpAnyH_take (i := 2) (oi := { dst := some 5, op := Op.fieldAddr 38 (Operand.tmp 1) 0, type := 0, pos := "quote.go:32", after := #[], guard := none }) (v := .pointer (some ⟨W.heap.size, 0, none⟩)) rfl (by kernel_rfl) (by kernel_rfl) (by kernel_rfl) (fun _ _ _ h => h) (Or.inl ⟨by rfl, by intro w hSw; go_simp⟩) (by assumption) ?_
  simp only [Act.put, List.setIfInBounds_toArray, List.set_cons_zero, List.set_cons_succ]
  refine wpAnyH_take (i := 3) (oi := { dst := some 6, op := Op.slice 23 (Operand.tmp 5) none none none, type := 25, pos := "quote.go:32", after := #[{ on := 2, ground := Ground.data }], guard := none }) (v := .slice (some ⟨W.heap.size, 0, none⟩) 8 8) rfl (by kernel_rfl) (by kernel_rfl) (by kernel_rfl) (fun _ _ _ h => h) (Or.inl ⟨by rfl, by intro w hSw; go_simp⟩) (by assumption) ?_
  simp only [Act.put, List.setIfInBounds_toArray, List.set_cons_zero, List.set_cons_succ]
  refine wpAnyH_take (i := 8) (oi := { dst := some 11, op := Op.fieldAddr 38 (Operand.tmp 1) 1, type := 0, pos := "quote.go:32", after := #[], guard := none }) (v := .pointer (some ⟨W.heap.size, 8, none⟩)) rfl (by kernel_rfl) (by kernel_rfl) (by kernel_rfl) (fun _ _ _ h => h) (Or.inl ⟨by rfl, by intro w hSw; go_simp⟩) (by assumption) ?_
  simp only [Act.put, List.setIfInBounds_toArray, List.set_cons_zero, List.set_cons_succ]
  refine wpAnyH_take (i := 9) (oi := { dst := some 12, op := Op.slice 23 (Operand.tmp 11) none none none, type := 25, pos := "quote.go:32", after := #[{ on := 8, ground := Ground.data }], guard := none }) (v := .slice (some ⟨W.heap.size, 8, none⟩) 8 8) rfl (by kernel_rfl) (by kernel_rfl) (by kernel_rfl) (fun _ _ _ h => h) (Or.inl ⟨by rfl, by intro w hSw; go_simp⟩) (by assumption) ?_
  simp only [Act.put, List.setIfInBounds_toArray, List.set_cons_zero, List.set_cons_succ]
  refine wpAnyH_take (i := 14) (oi := { dst := some 17, op := Op.fieldAddr 38 (Operand.tmp 1) 2, type := 0, pos := "quote.go:32", after := #[], guard := none }) (v := .pointer (some ⟨W.heap.size, 16, none⟩)) rfl (by kernel_rfl) (by kernel_rfl) (by kernel_rfl) (fun _ _ _ h => h) (Or.inl ⟨by rfl, by intro w hSw; go_simp⟩) (by assumption) ?_
  simp only [Act.put, List.setIfInBounds_toArray, List.set_cons_zero, List.set_cons_succ]
  refine wpAnyH_take (i := 15) (oi := { dst := some 18, op := Op.slice 23 (Operand.tmp 17) none none none, type := 25, pos := "quote.go:32", after := #[{ on := 14, ground := Ground.data }], guard := none }) (v := .slice (some ⟨W.heap.size, 16, none⟩) 8 8) rfl (by kernel_rfl) (by kernel_rfl) (by kernel_rfl) (fun _ _ _ h => h) (Or.inl ⟨by rfl, by intro w hSw; go_simp⟩) (by assumption) ?_
  simp only [Act.put, List.setIfInBounds_toArray, List.set_cons_zero, List.set_cons_succ]
  refine wpAnyH_ready (rs := [0]) (by kernel_rfl) (by simp) (AllReadyH.cons (o := { dst := some 3, op := Op.buildSlice 130 1 #[(0, Operand.const (Value.string { data := #[113, 117, 111, 116, 101, 32, 49] }))], type := 130, pos := "quote.go:32", after := #[], guard := none }) rfl (fun KQ hK => ?_) AllReadyH.nil)
  go_simp
  have Y1 := hid (Y0.out.on (below_one w0 (.cells #[.string ⟨#[113, 117, 111, 116, 101, 32, 49]⟩] 9)))
  have HL1 : Hid (Cel (w0.alloc (.cells #[.string ⟨#[113, 117, 111, 116, 101, 32, 49]⟩] 9)) w0.heap.size 9 [.string ⟨#[113, 117, 111, 116, 101, 32, 49]⟩]) := hid (heap_alloc_new _ _)
  clear Y0
  generalize World.alloc _ _ = w1 at *
  generalize w0.heap.size = g1 at *
  refine hK.out _ _ Y1.out (fun hHeld => ?_)
  clear hK KQ
  try simp only [Act.put, List.setIfInBounds_toArray, List.set_cons_zero, List.set_cons_succ]
  refine wpAnyH_ready (rs := [1]) (by kernel_rfl) (by simp) (AllReadyH.cons (o := { dst := some 4, op := Op.call { callee := Callee.value (Operand.func 45), args := #[Operand.tmp 3], argTypes := #[130] }, type := 9, pos := "quote.go:32", after := #[{ on := 0, ground := Ground.data }], guard := none }) rfl (fun KQ hK => ?_) AllReadyH.nil)
  go_simp
  refine (K0.out _ _ HL1.out).mono ?_
  rintro e w2 ⟨rfl, hb2⟩
  have Y2 := hid (Y1.out.on hb2)
  clear hb2 Y1
  go_wp2_with fail
  refine hK.out _ _ Y2.out (fun hHeld => ?_)
  clear hK KQ
  try simp only [Act.put, List.setIfInBounds_toArray, List.set_cons_zero, List.set_cons_succ]
  refine wpAnyH_ready (rs := [4]) (by kernel_rfl) (by simp) (AllReadyH.cons (o := { dst := some 7, op := Op.call { callee := Callee.value (Operand.func 46), args := #[Operand.tmp 6], argTypes := #[25] }, type := 9, pos := "quote.go:33", after := #[{ on := 3, ground := Ground.data }, { on := 1, ground := Ground.chain }], guard := none }) rfl (fun KQ hK => ?_) AllReadyH.nil)
  go_simp
  refine (H0.out _ Y2.out).mono ?_
  rintro e w3 ⟨rfl, hb3⟩
  have Y3 := hid (Y2.out.on hb3)
  clear hb3 Y2
  go_wp2_with fail
  refine hK.out _ _ Y3.out (fun hHeld => ?_)
  clear hK KQ
  try simp only [Act.put, List.setIfInBounds_toArray, List.set_cons_zero, List.set_cons_succ]
  refine wpAnyH_ready (rs := [5]) (by kernel_rfl) (by simp) (AllReadyH.cons (o := { dst := some 8, op := Op.buildSlice 130 2 #[(0, Operand.const (Value.string { data := #[109, 101, 97, 115, 117, 114, 101, 109, 101, 110, 116] })), (1, Operand.tmp 7)], type := 130, pos := "quote.go:32", after := #[{ on := 4, ground := Ground.data }], guard := none }) rfl (fun KQ hK => ?_) AllReadyH.nil)
  go_simp
  have Y4 := hid (Y3.out.on (below_one w3 (.cells #[.string ⟨#[109, 101, 97, 115, 117, 114, 101, 109, 101, 110, 116]⟩, .string x1] 9)))
  have HL4 : Hid (Cel (w3.alloc (.cells #[.string ⟨#[109, 101, 97, 115, 117, 114, 101, 109, 101, 110, 116]⟩, .string x1] 9)) w3.heap.size 9 [.string ⟨#[109, 101, 97, 115, 117, 114, 101, 109, 101, 110, 116]⟩, .string x1]) := hid (heap_alloc_new _ _)
  clear Y3
  generalize World.alloc _ _ = w4 at *
  generalize w3.heap.size = g4 at *
  refine hK.out _ _ Y4.out (fun hHeld => ?_)
  clear hK KQ
  try simp only [Act.put, List.setIfInBounds_toArray, List.set_cons_zero, List.set_cons_succ]
  refine wpAnyH_ready (rs := [6]) (by kernel_rfl) (by simp) (AllReadyH.cons (o := { dst := some 9, op := Op.call { callee := Callee.value (Operand.func 45), args := #[Operand.tmp 8], argTypes := #[130] }, type := 9, pos := "quote.go:33", after := #[{ on := 5, ground := Ground.data }, { on := 4, ground := Ground.chain }], guard := none }) rfl (fun KQ hK => ?_) AllReadyH.nil)
  go_simp
  refine (K1.out _ _ HL4.out).mono ?_
  rintro e w5 ⟨rfl, hb5⟩
  have Y5 := hid (Y4.out.on hb5)
  clear hb5 Y4
  go_wp2_with fail
  refine hK.out _ _ Y5.out (fun hHeld => ?_)
  clear hK KQ
  try simp only [Act.put, List.setIfInBounds_toArray, List.set_cons_zero, List.set_cons_succ]
  refine wpAnyH_take (i := 7) (oi := { dst := some 10, op := Op.binOp BinOp.add 9 (Operand.tmp 4) (Operand.tmp 9) 9, type := 9, pos := "quote.go:32", after := #[{ on := 1, ground := Ground.data }, { on := 6, ground := Ground.data }], guard := none }) (v := .string (B0 ++ B1)) rfl (by kernel_rfl) (by kernel_rfl) (by kernel_rfl) (fun _ _ _ h => h) (Or.inl ⟨by rfl, by intro w hSw; go_simp <;> omega⟩) (by assumption) ?_
  simp only [Act.put, List.setIfInBounds_toArray, List.set_cons_zero, List.set_cons_succ]
  refine wpAnyH_ready (rs := [10]) (by kernel_rfl) (by simp) (AllReadyH.cons (o := { dst := some 13, op := Op.call { callee := Callee.value (Operand.func 46), args := #[Operand.tmp 12], argTypes := #[25] }, type := 9, pos := "quote.go:34", after := #[{ on := 9, ground := Ground.data }, { on := 6, ground := Ground.chain }], guard := none }) rfl (fun KQ hK => ?_) AllReadyH.nil)
  go_simp
  refine (H8.out _ Y5.out).mono ?_
  rintro e w6 ⟨rfl, hb6⟩
  have Y6 := hid (Y5.out.on hb6)
  clear hb6 Y5
  go_wp2_with fail
  refine hK.out _ _ Y6.out (fun hHeld => ?_)
  clear hK KQ
  try simp only [Act.put, List.setIfInBounds_toArray, List.set_cons_zero, List.set_cons_succ]
  refine wpAnyH_ready (rs := [11]) (by kernel_rfl) (by simp) (AllReadyH.cons (o := { dst := some 14, op := Op.buildSlice 130 2 #[(0, Operand.const (Value.string { data := #[100, 97, 116, 97] })), (1, Operand.tmp 13)], type := 130, pos := "quote.go:32", after := #[{ on := 10, ground := Ground.data }], guard := none }) rfl (fun KQ hK => ?_) AllReadyH.nil)
  go_simp
  have Y7 := hid (Y6.out.on (below_one w6 (.cells #[.string ⟨#[100, 97, 116, 97]⟩, .string x2] 9)))
  have HL7 : Hid (Cel (w6.alloc (.cells #[.string ⟨#[100, 97, 116, 97]⟩, .string x2] 9)) w6.heap.size 9 [.string ⟨#[100, 97, 116, 97]⟩, .string x2]) := hid (heap_alloc_new _ _)
  clear Y6
  generalize World.alloc _ _ = w7 at *
  generalize w6.heap.size = g7 at *
  refine hK.out _ _ Y7.out (fun hHeld => ?_)
  clear hK KQ
  try simp only [Act.put, List.setIfInBounds_toArray, List.set_cons_zero, List.set_cons_succ]
  refine wpAnyH_ready (rs := [12]) (by kernel_rfl) (by simp) (AllReadyH.cons (o := { dst := some 15, op := Op.call { callee := Callee.value (Operand.func 45), args := #[Operand.tmp 14], argTypes := #[130] }, type := 9, pos := "quote.go:34", after := #[{ on := 11, ground := Ground.data }, { on := 10, ground := Ground.chain }], guard := none }) rfl (fun KQ hK => ?_) AllReadyH.nil)
  go_simp
  refine (K2.out _ _ HL7.out).mono ?_
  rintro e w8 ⟨rfl, hb8⟩
  have Y8 := hid (Y7.out.on hb8)
  clear hb8 Y7
  go_wp2_with fail
  refine hK.out _ _ Y8.out (fun hHeld => ?_)
  clear hK KQ
  try simp only [Act.put, List.setIfInBounds_toArray, List.set_cons_zero, List.set_cons_succ]
  refine wpAnyH_take (i := 13) (oi := { dst := some 16, op := Op.binOp BinOp.add 9 (Operand.tmp 10) (Operand.tmp 15) 9, type := 9, pos := "quote.go:32", after := #[{ on := 7, ground := Ground.data }, { on := 12, ground := Ground.data }], guard := none }) (v := .string ((B0 ++ B1) ++ B2)) rfl (by kernel_rfl) (by kernel_rfl) (by kernel_rfl) (fun _ _ _ h => h) (Or.inl ⟨by rfl, by intro w hSw; go_simp <;> omega⟩) (by assumption) ?_
  simp only [Act.put, List.setIfInBounds_toArray, List.set_cons_zero, List.set_cons_succ]
  refine wpAnyH_ready (rs := [16]) (by kernel_rfl) (by simp) (AllReadyH.cons (o := { dst := some 19, op := Op.call { callee := Callee.value (Operand.func 46), args := #[Operand.tmp 18], argTypes := #[25] }, type := 9, pos := "quote.go:35", after := #[{ on := 15, ground := Ground.data }, { on := 12, ground := Ground.chain }], guard := none }) rfl (fun KQ hK => ?_) AllReadyH.nil)
  go_simp
  refine (H16.out _ Y8.out).mono ?_
  rintro e w9 ⟨rfl, hb9⟩
  have Y9 := hid (Y8.out.on hb9)
  clear hb9 Y8
  go_wp2_with fail
  refine hK.out _ _ Y9.out (fun hHeld => ?_)
  clear hK KQ
  try simp only [Act.put, List.setIfInBounds_toArray, List.set_cons_zero, List.set_cons_succ]
  refine wpAnyH_ready (rs := [17]) (by kernel_rfl) (by simp) (AllReadyH.cons (o := { dst := some 20, op := Op.buildSlice 130 2 #[(0, Operand.const (Value.string { data := #[116, 97, 103] })), (1, Operand.tmp 19)], type := 130, pos := "quote.go:32", after := #[{ on := 16, ground := Ground.data }], guard := none }) rfl (fun KQ hK => ?_) AllReadyH.nil)
  go_simp
  have Y10 := hid (Y9.out.on (below_one w9 (.cells #[.string ⟨#[116, 97, 103]⟩, .string x3] 9)))
  have HL10 : Hid (Cel (w9.alloc (.cells #[.string ⟨#[116, 97, 103]⟩, .string x3] 9)) w9.heap.size 9 [.string ⟨#[116, 97, 103]⟩, .string x3]) := hid (heap_alloc_new _ _)
  clear Y9
  generalize World.alloc _ _ = w10 at *
  generalize w9.heap.size = g10 at *
  refine hK.out _ _ Y10.out (fun hHeld => ?_)
  clear hK KQ
  try simp only [Act.put, List.setIfInBounds_toArray, List.set_cons_zero, List.set_cons_succ]
  refine wpAnyH_ready (rs := [18]) (by kernel_rfl) (by simp) (AllReadyH.cons (o := { dst := some 21, op := Op.call { callee := Callee.value (Operand.func 45), args := #[Operand.tmp 20], argTypes := #[130] }, type := 9, pos := "quote.go:35", after := #[{ on := 17, ground := Ground.data }, { on := 16, ground := Ground.chain }], guard := none }) rfl (fun KQ hK => ?_) AllReadyH.nil)
  go_simp
  refine (K3.out _ _ HL10.out).mono ?_
  rintro e w11 ⟨rfl, hb11⟩
  have Y11 := hid (Y10.out.on hb11)
  clear hb11 Y10
  go_wp2_with fail
  refine hK.out _ _ Y11.out (fun hHeld => ?_)
  clear hK KQ
  try simp only [Act.put, List.setIfInBounds_toArray, List.set_cons_zero, List.set_cons_succ]
  refine wpAnyH_take (i := 19) (oi := { dst := some 22, op := Op.binOp BinOp.add 9 (Operand.tmp 16) (Operand.tmp 21) 9, type := 9, pos := "quote.go:32", after := #[{ on := 13, ground := Ground.data }, { on := 18, ground := Ground.data }], guard := none }) (v := .string (((B0 ++ B1) ++ B2) ++ B3)) rfl (by kernel_rfl) (by kernel_rfl) (by kernel_rfl) (fun _ _ _ h => h) (Or.inl ⟨by rfl, by intro w hSw; go_simp <;> omega⟩) (by assumption) ?_
  simp only [Act.put, List.setIfInBounds_toArray, List.set_cons_zero, List.set_cons_succ]
  refine wpAnyH_ready (rs := [20]) (by kernel_rfl) (by simp) (AllReadyH.cons (o := { dst := some 2, op := Op.assign (Operand.tmp 22), type := 9, pos := "quote.go:32", after := #[{ on := 19, ground := Ground.data }, { on := 18, ground := Ground.chain }, { on := 0, ground := Ground.phase }, { on := 1, ground := Ground.phase }, { on := 2, ground := Ground.phase }, { on := 3, ground := Ground.phase }, { on := 4, ground := Ground.phase }, { on := 5, ground := Ground.phase }, { on := 6, ground := Ground.phase }, { on := 7, ground := Ground.phase }, { on := 8, ground := Ground.phase }, { on := 9, ground := Ground.phase }, { on := 10, ground := Ground.phase }, { on := 11, ground := Ground.phase }, { on := 12, ground := Ground.phase }, { on := 13, ground := Ground.phase }, { on := 14, ground := Ground.phase }, { on := 15, ground := Ground.phase }, { on := 16, ground := Ground.phase }, { on := 17, ground := Ground.phase }, { on := 18, ground := Ground.phase }, { on := 19, ground := Ground.phase }], guard := none }) rfl (fun KQ hK => ?_) AllReadyH.nil)
  go_simp
  refine hK.out _ _ Y11.out (fun hHeld => ?_)
  clear hK KQ
  try simp only [Act.put, List.setIfInBounds_toArray, List.set_cons_zero, List.set_cons_succ]
  refine wpAnyH_done (by kernel_rfl) ?_ _
  go_wp2_with fail
  go_ret
  exact ⟨by rw [HF.out]; rfl, Y11.out.bl⟩
end Go.Proofs.YtbpdmkohihgnjaaDoor
