/- The document's Format 28. -/
import Derived.Test.YtbpdmkohihgnjaaDoorTb
import Derived.Test.YtbpdmkohihgnjaaDoorFd
namespace Go.Proofs.YtbpdmkohihgnjaaDoor
open Go.RowKit
set_option maxHeartbeats 4000000
set_option maxRecDepth 100000
def fmtD (x1 x2 x3 : ByteArray) : ByteArray := ((((((⟨#[113, 117, 111, 116, 101, 32, 49, 10, 109, 101, 97, 115, 117, 114, 101, 109, 101, 110, 116, 32]⟩ : ByteArray) ++ x1) ++ (⟨#[10, 100, 97, 116, 97, 32]⟩ : ByteArray)) ++ x2) ++ (⟨#[10, 116, 97, 103, 32]⟩ : ByteArray)) ++ x3) ++ (⟨#[10]⟩ : ByteArray)
theorem fmtD_eq (m d t : List Int) : fmtD (hexB m) (hexB d) (hexB t) = fmtQ m d t := by
  refine bytes_ext ?_
  rw [fmt_list]
  unfold fmtD hl
  simp only [data_app, List.append_assoc]
structure F0 (W : World) (m d t : List Int) (w : World) : Prop where
  bl : Below W.heap.size W w
  q : Blk w W.heap.size .u32 61 (quoL m d t)
theorem F0.on {W : World} {m d t : List Int} {w w' : World} (h : F0 W m d t w) (hb : Below w.heap.size w w') : F0 W m d t w' := ⟨below_on h.bl hb, h.q.on hb⟩
theorem rhexAt {w : World} {g : Nat} (o : Nat) (xs : List Int) (hg : g < w.heap.size) (hx : xs.length = 8) (wx : Wds xs) (hr : w.rangeAt g o (xs.map (Value.int .u32))) :
    Calls Tryd.prog 58 #[.slice (some ⟨g, o, none⟩) 8 8] w fun e W' => e = .returned (.string (hexB xs)) ∧ Below w.heap.size w W' :=
  V.rhexAll_any w (some ⟨g, o, none⟩) 8 8 xs hx wx (.inr ⟨g, o, rfl, hg, range_row hr⟩) (by decide)
attribute [-simp] Tryd.isAgg23 Tryd.zeroValue23 Tryd.isAgg61 Tryd.zeroValue61
theorem rformat_any (W : World) (m d t : List Int) (hm : m.length = 8) (hd : d.length = 8) (ht : t.length = 8) (wm : Wds m) (wd : Wds d) (wt : Wds t) :
    Calls Tryd.prog 28 #[Ag (quoL m d t)] W fun e W' => e = .returned (.string (fmtQ m d t)) ∧ Below W.heap.size W W' := by
  obtain ⟨X, hX⟩ : ∃ X, X = W.alloc (Obj.cells (List.map (Value.int IntKind.u32) (quoL m d t)).toArray 61) := ⟨_, rfl⟩
  have Y0 : Hid (F0 W m d t X.drew) := hid (by
    have HB : Below W.heap.size W X := by rw [hX]; exact below_one W _
    refine ⟨HB.drew, ?_⟩
    rw [hX]; exact Blk.new W .u32 61 (quoL m d t))
  have H0 : Hid (∀ w, F0 W m d t w → Calls Tryd.prog 58 #[.slice (some ⟨W.heap.size, 0, none⟩) 8 8] w fun e W' => e = .returned (.string (hexB m)) ∧ Below w.heap.size w W') := hid fun w h => rhexAt 0 m h.q.lt hm wm (quo0 (cel_range (blk_cel h.q)))
  have H8 : Hid (∀ w, F0 W m d t w → Calls Tryd.prog 58 #[.slice (some ⟨W.heap.size, 8, none⟩) 8 8] w fun e W' => e = .returned (.string (hexB d)) ∧ Below w.heap.size w W') := hid fun w h => rhexAt 8 d h.q.lt hd wd (by have := quo8 (cel_range (blk_cel h.q)) hm; rwa [Nat.zero_add] at this)
  have H16 : Hid (∀ w, F0 W m d t w → Calls Tryd.prog 58 #[.slice (some ⟨W.heap.size, 16, none⟩) 8 8] w fun e W' => e = .returned (.string (hexB t)) ∧ Below w.heap.size w W') := hid fun w h => rhexAt 16 t h.q.lt ht wt (by have := quo16 (cel_range (blk_cel h.q)) hm hd; rwa [Nat.zero_add] at this)
  have HF := hid (fmtD_eq m d t).symm
  have u1 : (hexB m).size = 64 := hexB_size hm
  have u2 : (hexB d).size = 64 := hexB_size hd
  have u3 : (hexB t).size = 64 := hexB_size ht
  generalize fmtQ m d t = F at *
  generalize hexB m = x1 at *
  generalize hexB d = x2 at *
  generalize hexB t = x3 at *
  unfold fmtD at HF
  have c1 : (⟨#[113, 117, 111, 116, 101, 32, 49, 10, 109, 101, 97, 115, 117, 114, 101, 109, 101, 110, 116, 32]⟩ : ByteArray).size = 20 := rfl
  have c2 : (⟨#[10, 100, 97, 116, 97, 32]⟩ : ByteArray).size = 6 := rfl
  have c3 : (⟨#[10, 116, 97, 103, 32]⟩ : ByteArray).size = 5 := rfl
  have c4 : (⟨#[10]⟩ : ByteArray).size = 1 := rfl
  have a1 : ((⟨#[113, 117, 111, 116, 101, 32, 49, 10, 109, 101, 97, 115, 117, 114, 101, 109, 101, 110, 116, 32]⟩ : ByteArray) ++ x1).size = 84 := by rw [ByteArray.size_append, c1, u1]
  have a2 : (((⟨#[113, 117, 111, 116, 101, 32, 49, 10, 109, 101, 97, 115, 117, 114, 101, 109, 101, 110, 116, 32]⟩ : ByteArray) ++ x1) ++ (⟨#[10, 100, 97, 116, 97, 32]⟩ : ByteArray)).size = 90 := by rw [ByteArray.size_append, a1, c2]
  have a3 : ((((⟨#[113, 117, 111, 116, 101, 32, 49, 10, 109, 101, 97, 115, 117, 114, 101, 109, 101, 110, 116, 32]⟩ : ByteArray) ++ x1) ++ (⟨#[10, 100, 97, 116, 97, 32]⟩ : ByteArray)) ++ x2).size = 154 := by rw [ByteArray.size_append, a2, u2]
  have a4 : (((((⟨#[113, 117, 111, 116, 101, 32, 49, 10, 109, 101, 97, 115, 117, 114, 101, 109, 101, 110, 116, 32]⟩ : ByteArray) ++ x1) ++ (⟨#[10, 100, 97, 116, 97, 32]⟩ : ByteArray)) ++ x2) ++ (⟨#[10, 116, 97, 103, 32]⟩ : ByteArray)).size = 159 := by rw [ByteArray.size_append, a3, c3]
  have a5 : ((((((⟨#[113, 117, 111, 116, 101, 32, 49, 10, 109, 101, 97, 115, 117, 114, 101, 109, 101, 110, 116, 32]⟩ : ByteArray) ++ x1) ++ (⟨#[10, 100, 97, 116, 97, 32]⟩ : ByteArray)) ++ x2) ++ (⟨#[10, 116, 97, 103, 32]⟩ : ByteArray)) ++ x3).size = 223 := by rw [ByteArray.size_append, a4, u3]
  have HS := hid (And.intro c1 (And.intro c2 (And.intro c3 (And.intro c4 (And.intro u1 (And.intro u2 (And.intro u3 (And.intro a1 (And.intro a2 (And.intro a3 (And.intro a4 a5)))))))))))
  clear c1 c2 c3 c4 u1 u2 u3 a1 a2 a3 a4 a5 wm wd wt hm hd ht
  unfold Ag
  go_enter Tryd.func28, Tryd.ntmps28
  go_upto_region 1 with fail
  rw [← hX]
  clear hX
  refine wp_region_held_drew (S := fun w => F0 W m d t w) (by kernel_rfl) Y0.out (fun hHeld => ?_)
  generalize World.drew _ = w0 at *
  refine wpAnyH_take (i := 0) (oi := { dst := some 3, op := Op.fieldAddr 61 (Operand.tmp 1) 0, type := 0, pos := "ref.go:58", after := #[], guard := none }) (v := .pointer (some ⟨W.heap.size, 0, none⟩)) rfl (by kernel_rfl) (by kernel_rfl) (by kernel_rfl) (fun _ _ _ h => h) (Or.inl ⟨by rfl, by intro w hSw; go_simp⟩) (by assumption) ?_
  simp only [Act.put, List.setIfInBounds_toArray, List.set_cons_zero, List.set_cons_succ]
  refine wpAnyH_take (i := 1) (oi := { dst := some 4, op := Op.slice 23 (Operand.tmp 3) none none none, type := 25, pos := "ref.go:58", after := #[{ on := 0, ground := Ground.data }], guard := none }) (v := .slice (some ⟨W.heap.size, 0, none⟩) 8 8) rfl (by kernel_rfl) (by kernel_rfl) (by kernel_rfl) (fun _ _ _ h => h) (Or.inl ⟨by rfl, by intro w hSw; go_simp⟩) (by assumption) ?_
  simp only [Act.put, List.setIfInBounds_toArray, List.set_cons_zero, List.set_cons_succ]
  refine wpAnyH_take (i := 5) (oi := { dst := some 8, op := Op.fieldAddr 61 (Operand.tmp 1) 1, type := 0, pos := "ref.go:58", after := #[], guard := none }) (v := .pointer (some ⟨W.heap.size, 8, none⟩)) rfl (by kernel_rfl) (by kernel_rfl) (by kernel_rfl) (fun _ _ _ h => h) (Or.inl ⟨by rfl, by intro w hSw; go_simp⟩) (by assumption) ?_
  simp only [Act.put, List.setIfInBounds_toArray, List.set_cons_zero, List.set_cons_succ]
  refine wpAnyH_take (i := 6) (oi := { dst := some 9, op := Op.slice 23 (Operand.tmp 8) none none none, type := 25, pos := "ref.go:58", after := #[{ on := 5, ground := Ground.data }], guard := none }) (v := .slice (some ⟨W.heap.size, 8, none⟩) 8 8) rfl (by kernel_rfl) (by kernel_rfl) (by kernel_rfl) (fun _ _ _ h => h) (Or.inl ⟨by rfl, by intro w hSw; go_simp⟩) (by assumption) ?_
  simp only [Act.put, List.setIfInBounds_toArray, List.set_cons_zero, List.set_cons_succ]
  refine wpAnyH_take (i := 10) (oi := { dst := some 13, op := Op.fieldAddr 61 (Operand.tmp 1) 2, type := 0, pos := "ref.go:58", after := #[], guard := none }) (v := .pointer (some ⟨W.heap.size, 16, none⟩)) rfl (by kernel_rfl) (by kernel_rfl) (by kernel_rfl) (fun _ _ _ h => h) (Or.inl ⟨by rfl, by intro w hSw; go_simp⟩) (by assumption) ?_
  simp only [Act.put, List.setIfInBounds_toArray, List.set_cons_zero, List.set_cons_succ]
  refine wpAnyH_take (i := 11) (oi := { dst := some 14, op := Op.slice 23 (Operand.tmp 13) none none none, type := 25, pos := "ref.go:58", after := #[{ on := 10, ground := Ground.data }], guard := none }) (v := .slice (some ⟨W.heap.size, 16, none⟩) 8 8) rfl (by kernel_rfl) (by kernel_rfl) (by kernel_rfl) (fun _ _ _ h => h) (Or.inl ⟨by rfl, by intro w hSw; go_simp⟩) (by assumption) ?_
  simp only [Act.put, List.setIfInBounds_toArray, List.set_cons_zero, List.set_cons_succ]
  refine wpAnyH_ready (rs := [2]) (by kernel_rfl) (by simp) (AllReadyH.cons (o := { dst := some 5, op := Op.call { callee := Callee.value (Operand.func 58), args := #[Operand.tmp 4], argTypes := #[25] }, type := 9, pos := "ref.go:58", after := #[{ on := 1, ground := Ground.data }], guard := none }) rfl (fun KQ hK => ?_) AllReadyH.nil)
  go_simp
  refine (H0.out _ Y0.out).mono ?_
  rintro e w1 ⟨rfl, hb1⟩
  have Y1 := hid (Y0.out.on hb1)
  clear hb1 Y0
  go_wp2_with fail
  refine hK.out _ _ Y1.out (fun hHeld => ?_)
  clear hK KQ
  try simp only [Act.put, List.setIfInBounds_toArray, List.set_cons_zero, List.set_cons_succ]
  refine wpAnyH_take (i := 3) (oi := { dst := some 6, op := Op.binOp BinOp.add 9 (Operand.const (Value.string { data := #[113, 117, 111, 116, 101, 32, 49, 10, 109, 101, 97, 115, 117, 114, 101, 109, 101, 110, 116, 32] })) (Operand.tmp 5) 9, type := 9, pos := "ref.go:58", after := #[{ on := 2, ground := Ground.data }], guard := none }) (v := .string ((⟨#[113, 117, 111, 116, 101, 32, 49, 10, 109, 101, 97, 115, 117, 114, 101, 109, 101, 110, 116, 32]⟩ : ByteArray) ++ x1)) rfl (by kernel_rfl) (by kernel_rfl) (by kernel_rfl) (fun _ _ _ h => h) (Or.inl ⟨by rfl, by intro w hSw; obtain ⟨c1, c2, c3, c4, u1, u2, u3, a1, a2, a3, a4, a5⟩ := HS.out; have z1 : ((⟨#[113, 117, 111, 116, 101, 32, 49, 10, 109, 101, 97, 115, 117, 114, 101, 109, 101, 110, 116, 32]⟩ : ByteArray)).size ≤ 1000 := (by omega); have z2 : (x1).size ≤ 1000 := (by omega); go_simp <;> omega⟩) (by assumption) ?_
  simp only [Act.put, List.setIfInBounds_toArray, List.set_cons_zero, List.set_cons_succ]
  refine wpAnyH_take (i := 4) (oi := { dst := some 7, op := Op.binOp BinOp.add 9 (Operand.tmp 6) (Operand.const (Value.string { data := #[10, 100, 97, 116, 97, 32] })) 9, type := 9, pos := "ref.go:58", after := #[{ on := 3, ground := Ground.data }], guard := none }) (v := .string (((⟨#[113, 117, 111, 116, 101, 32, 49, 10, 109, 101, 97, 115, 117, 114, 101, 109, 101, 110, 116, 32]⟩ : ByteArray) ++ x1) ++ (⟨#[10, 100, 97, 116, 97, 32]⟩ : ByteArray))) rfl (by kernel_rfl) (by kernel_rfl) (by kernel_rfl) (fun _ _ _ h => h) (Or.inl ⟨by rfl, by intro w hSw; obtain ⟨c1, c2, c3, c4, u1, u2, u3, a1, a2, a3, a4, a5⟩ := HS.out; have z1 : ((⟨#[113, 117, 111, 116, 101, 32, 49, 10, 109, 101, 97, 115, 117, 114, 101, 109, 101, 110, 116, 32]⟩ : ByteArray) ++ x1).size ≤ 1000 := (by omega); have z2 : ((⟨#[10, 100, 97, 116, 97, 32]⟩ : ByteArray)).size ≤ 1000 := (by omega); go_simp <;> omega⟩) (by assumption) ?_
  simp only [Act.put, List.setIfInBounds_toArray, List.set_cons_zero, List.set_cons_succ]
  refine wpAnyH_ready (rs := [7]) (by kernel_rfl) (by simp) (AllReadyH.cons (o := { dst := some 10, op := Op.call { callee := Callee.value (Operand.func 58), args := #[Operand.tmp 9], argTypes := #[25] }, type := 9, pos := "ref.go:58", after := #[{ on := 6, ground := Ground.data }, { on := 2, ground := Ground.chain }], guard := none }) rfl (fun KQ hK => ?_) AllReadyH.nil)
  go_simp
  refine (H8.out _ Y1.out).mono ?_
  rintro e w2 ⟨rfl, hb2⟩
  have Y2 := hid (Y1.out.on hb2)
  clear hb2 Y1
  go_wp2_with fail
  refine hK.out _ _ Y2.out (fun hHeld => ?_)
  clear hK KQ
  try simp only [Act.put, List.setIfInBounds_toArray, List.set_cons_zero, List.set_cons_succ]
  refine wpAnyH_take (i := 8) (oi := { dst := some 11, op := Op.binOp BinOp.add 9 (Operand.tmp 7) (Operand.tmp 10) 9, type := 9, pos := "ref.go:58", after := #[{ on := 4, ground := Ground.data }, { on := 7, ground := Ground.data }], guard := none }) (v := .string ((((⟨#[113, 117, 111, 116, 101, 32, 49, 10, 109, 101, 97, 115, 117, 114, 101, 109, 101, 110, 116, 32]⟩ : ByteArray) ++ x1) ++ (⟨#[10, 100, 97, 116, 97, 32]⟩ : ByteArray)) ++ x2)) rfl (by kernel_rfl) (by kernel_rfl) (by kernel_rfl) (fun _ _ _ h => h) (Or.inl ⟨by rfl, by intro w hSw; obtain ⟨c1, c2, c3, c4, u1, u2, u3, a1, a2, a3, a4, a5⟩ := HS.out; have z1 : (((⟨#[113, 117, 111, 116, 101, 32, 49, 10, 109, 101, 97, 115, 117, 114, 101, 109, 101, 110, 116, 32]⟩ : ByteArray) ++ x1) ++ (⟨#[10, 100, 97, 116, 97, 32]⟩ : ByteArray)).size ≤ 1000 := (by omega); have z2 : (x2).size ≤ 1000 := (by omega); go_simp <;> omega⟩) (by assumption) ?_
  simp only [Act.put, List.setIfInBounds_toArray, List.set_cons_zero, List.set_cons_succ]
  refine wpAnyH_take (i := 9) (oi := { dst := some 12, op := Op.binOp BinOp.add 9 (Operand.tmp 11) (Operand.const (Value.string { data := #[10, 116, 97, 103, 32] })) 9, type := 9, pos := "ref.go:58", after := #[{ on := 8, ground := Ground.data }], guard := none }) (v := .string (((((⟨#[113, 117, 111, 116, 101, 32, 49, 10, 109, 101, 97, 115, 117, 114, 101, 109, 101, 110, 116, 32]⟩ : ByteArray) ++ x1) ++ (⟨#[10, 100, 97, 116, 97, 32]⟩ : ByteArray)) ++ x2) ++ (⟨#[10, 116, 97, 103, 32]⟩ : ByteArray))) rfl (by kernel_rfl) (by kernel_rfl) (by kernel_rfl) (fun _ _ _ h => h) (Or.inl ⟨by rfl, by intro w hSw; obtain ⟨c1, c2, c3, c4, u1, u2, u3, a1, a2, a3, a4, a5⟩ := HS.out; have z1 : ((((⟨#[113, 117, 111, 116, 101, 32, 49, 10, 109, 101, 97, 115, 117, 114, 101, 109, 101, 110, 116, 32]⟩ : ByteArray) ++ x1) ++ (⟨#[10, 100, 97, 116, 97, 32]⟩ : ByteArray)) ++ x2).size ≤ 1000 := (by omega); have z2 : ((⟨#[10, 116, 97, 103, 32]⟩ : ByteArray)).size ≤ 1000 := (by omega); go_simp <;> omega⟩) (by assumption) ?_
  simp only [Act.put, List.setIfInBounds_toArray, List.set_cons_zero, List.set_cons_succ]
  refine wpAnyH_ready (rs := [12]) (by kernel_rfl) (by simp) (AllReadyH.cons (o := { dst := some 15, op := Op.call { callee := Callee.value (Operand.func 58), args := #[Operand.tmp 14], argTypes := #[25] }, type := 9, pos := "ref.go:58", after := #[{ on := 11, ground := Ground.data }, { on := 7, ground := Ground.chain }], guard := none }) rfl (fun KQ hK => ?_) AllReadyH.nil)
  go_simp
  refine (H16.out _ Y2.out).mono ?_
  rintro e w3 ⟨rfl, hb3⟩
  have Y3 := hid (Y2.out.on hb3)
  clear hb3 Y2
  go_wp2_with fail
  refine hK.out _ _ Y3.out (fun hHeld => ?_)
  clear hK KQ
  try simp only [Act.put, List.setIfInBounds_toArray, List.set_cons_zero, List.set_cons_succ]
  refine wpAnyH_take (i := 13) (oi := { dst := some 16, op := Op.binOp BinOp.add 9 (Operand.tmp 12) (Operand.tmp 15) 9, type := 9, pos := "ref.go:58", after := #[{ on := 9, ground := Ground.data }, { on := 12, ground := Ground.data }], guard := none }) (v := .string ((((((⟨#[113, 117, 111, 116, 101, 32, 49, 10, 109, 101, 97, 115, 117, 114, 101, 109, 101, 110, 116, 32]⟩ : ByteArray) ++ x1) ++ (⟨#[10, 100, 97, 116, 97, 32]⟩ : ByteArray)) ++ x2) ++ (⟨#[10, 116, 97, 103, 32]⟩ : ByteArray)) ++ x3)) rfl (by kernel_rfl) (by kernel_rfl) (by kernel_rfl) (fun _ _ _ h => h) (Or.inl ⟨by rfl, by intro w hSw; obtain ⟨c1, c2, c3, c4, u1, u2, u3, a1, a2, a3, a4, a5⟩ := HS.out; have z1 : (((((⟨#[113, 117, 111, 116, 101, 32, 49, 10, 109, 101, 97, 115, 117, 114, 101, 109, 101, 110, 116, 32]⟩ : ByteArray) ++ x1) ++ (⟨#[10, 100, 97, 116, 97, 32]⟩ : ByteArray)) ++ x2) ++ (⟨#[10, 116, 97, 103, 32]⟩ : ByteArray)).size ≤ 1000 := (by omega); have z2 : (x3).size ≤ 1000 := (by omega); go_simp <;> omega⟩) (by assumption) ?_
  simp only [Act.put, List.setIfInBounds_toArray, List.set_cons_zero, List.set_cons_succ]
  refine wpAnyH_take (i := 14) (oi := { dst := some 17, op := Op.binOp BinOp.add 9 (Operand.tmp 16) (Operand.const (Value.string { data := #[10] })) 9, type := 9, pos := "ref.go:58", after := #[{ on := 13, ground := Ground.data }], guard := none }) (v := .string (((((((⟨#[113, 117, 111, 116, 101, 32, 49, 10, 109, 101, 97, 115, 117, 114, 101, 109, 101, 110, 116, 32]⟩ : ByteArray) ++ x1) ++ (⟨#[10, 100, 97, 116, 97, 32]⟩ : ByteArray)) ++ x2) ++ (⟨#[10, 116, 97, 103, 32]⟩ : ByteArray)) ++ x3) ++ (⟨#[10]⟩ : ByteArray))) rfl (by kernel_rfl) (by kernel_rfl) (by kernel_rfl) (fun _ _ _ h => h) (Or.inl ⟨by rfl, by intro w hSw; obtain ⟨c1, c2, c3, c4, u1, u2, u3, a1, a2, a3, a4, a5⟩ := HS.out; have z1 : ((((((⟨#[113, 117, 111, 116, 101, 32, 49, 10, 109, 101, 97, 115, 117, 114, 101, 109, 101, 110, 116, 32]⟩ : ByteArray) ++ x1) ++ (⟨#[10, 100, 97, 116, 97, 32]⟩ : ByteArray)) ++ x2) ++ (⟨#[10, 116, 97, 103, 32]⟩ : ByteArray)) ++ x3).size ≤ 1000 := (by omega); have z2 : ((⟨#[10]⟩ : ByteArray)).size ≤ 1000 := (by omega); go_simp <;> omega⟩) (by assumption) ?_
  simp only [Act.put, List.setIfInBounds_toArray, List.set_cons_zero, List.set_cons_succ]
  refine wpAnyH_ready (rs := [15]) (by kernel_rfl) (by simp) (AllReadyH.cons (o := { dst := some 2, op := Op.assign (Operand.tmp 17), type := 9, pos := "ref.go:58", after := #[{ on := 14, ground := Ground.data }, { on := 12, ground := Ground.chain }, { on := 0, ground := Ground.phase }, { on := 1, ground := Ground.phase }, { on := 2, ground := Ground.phase }, { on := 3, ground := Ground.phase }, { on := 4, ground := Ground.phase }, { on := 5, ground := Ground.phase }, { on := 6, ground := Ground.phase }, { on := 7, ground := Ground.phase }, { on := 8, ground := Ground.phase }, { on := 9, ground := Ground.phase }, { on := 10, ground := Ground.phase }, { on := 11, ground := Ground.phase }, { on := 12, ground := Ground.phase }, { on := 13, ground := Ground.phase }, { on := 14, ground := Ground.phase }], guard := none }) rfl (fun KQ hK => ?_) AllReadyH.nil)
  go_simp
  refine hK.out _ _ Y3.out (fun hHeld => ?_)
  clear hK KQ
  try simp only [Act.put, List.setIfInBounds_toArray, List.set_cons_zero, List.set_cons_succ]
  refine wpAnyH_done (by kernel_rfl) ?_ _
  go_wp2_with fail
  go_ret
  exact ⟨by rw [HF.out]; rfl, Y3.out.bl⟩
end Go.Proofs.YtbpdmkohihgnjaaDoor
