/- The document's Decode (78). -/
import Derived.Test.YteldpapacdbbiaaGreatDoorIRen
namespace Go.Proofs.YteldpapacdbbiaaGreatDoor.I
open Go.RowKit

def Ins.rs (i : Ins) : List Value := [.int .i64 i.op, .int .i64 i.cond, .int .i64 i.a, .int .i64 i.b, .int .i64 i.c, .int .i64 i.imm]
theorem dec_cases (w : Int) (R : Ins) (h3 : R = decI w) (v e : Int) (h1 : enc R = v) (h2 : chk R = e) : (if e = 0 ∧ v = w then R else Ins.z) = dec w ∧ (if e = 0 ∧ v = w then 0 else 50) = decE w := by
  subst h1 h2 h3
  by_cases h : decOk w
  · have h' : chk (decI w) = 0 ∧ enc (decI w) = w := h
    rw [if_pos h', if_pos h', dec, decE, if_pos h, if_pos h]
    exact ⟨rfl, rfl⟩
  · have h' : ¬ (chk (decI w) = 0 ∧ enc (decI w) = w) := h
    rw [if_neg h', if_neg h', dec, decE, if_neg h, if_neg h]
    exact ⟨rfl, rfl⟩
theorem rd_world (W : World) (p0 p1 p2 p3 p4 p5 : Int) : Below W.heap.size W ((W.alloc (.cells ([.int .i64 0, .int .i64 0, .int .i64 0, .int .i64 0, .int .i64 0, .int .i64 0] : List Value).toArray 85)).alloc (.cells (Ins.mk p0 p1 p2 p3 p4 p5).rs.toArray 85)) ∧ Cel ((W.alloc (.cells ([.int .i64 0, .int .i64 0, .int .i64 0, .int .i64 0, .int .i64 0, .int .i64 0] : List Value).toArray 85)).alloc (.cells (Ins.mk p0 p1 p2 p3 p4 p5).rs.toArray 85)) W.heap.size 85 [.int .i64 0, .int .i64 0, .int .i64 0, .int .i64 0, .int .i64 0, .int .i64 0] ∧
    Cel ((W.alloc (.cells ([.int .i64 0, .int .i64 0, .int .i64 0, .int .i64 0, .int .i64 0, .int .i64 0] : List Value).toArray 85)).alloc (.cells (Ins.mk p0 p1 p2 p3 p4 p5).rs.toArray 85)) (W.heap.size + 1) 85 (Ins.mk p0 p1 p2 p3 p4 p5).rs :=
  ⟨below_two _ _ _, (Cel.new W 85 [.int .i64 0, .int .i64 0, .int .i64 0, .int .i64 0, .int .i64 0, .int .i64 0]).on (below_one _ _), new_at2 _ _ _⟩

set_option maxRecDepth 20000 in
set_option maxHeartbeats 2000000 in
theorem rdecode_0 (W : World) (hR : RShapes W) (hW : 3 < W.heap.size) (w : Int) (w0 : 0 ≤ w) (w1 : w < 4294967296) (s : ByteArray) (hL : ltr (shpI (M.Fld w 26 6)) = [97, 117])
    (HS : ∀ x, Below W.heap.size W x → Calls Tryz.prog 59 #[.int .i64 (w / 67108864)] x fun e W' => e = .returned (.string s) ∧ x = W') (C97 : ∀ x, Calls Tryz.prog 60 #[.string s, .int .u8 97] x fun e W' => e = .returned (.bool true) ∧ x = W') (C107 : ∀ x, Calls Tryz.prog 60 #[.string s, .int .u8 107] x fun e W' => e = .returned (.bool false) ∧ x = W') (C98 : ∀ x, Calls Tryz.prog 60 #[.string s, .int .u8 98] x fun e W' => e = .returned (.bool false) ∧ x = W') (C99 : ∀ x, Calls Tryz.prog 60 #[.string s, .int .u8 99] x fun e W' => e = .returned (.bool false) ∧ x = W') (C117 : ∀ x, Calls Tryz.prog 60 #[.string s, .int .u8 117] x fun e W' => e = .returned (.bool true) ∧ x = W') (C115 : ∀ x, Calls Tryz.prog 60 #[.string s, .int .u8 115] x fun e W' => e = .returned (.bool false) ∧ x = W') (C111 : ∀ x, Calls Tryz.prog 60 #[.string s, .int .u8 111] x fun e W' => e = .returned (.bool false) ∧ x = W') :
    Calls Tryz.prog 29 #[.int .u32 w] W fun e W' => e = .returned (.tuple #[(dec w).r, .int .i64 (decE w)]) ∧ Below W.heap.size W W' := by
  have HS' : Hid (∀ x, Below W.heap.size W x → Calls Tryz.prog 59 #[.int .i64 (w / 67108864)] x fun e W' => e = .returned (.string s) ∧ x = W') := HS
  have H97 : Hid (∀ x, Calls Tryz.prog 60 #[.string s, .int .u8 97] x fun e W' => e = .returned (.bool true) ∧ x = W') := C97
  have H107 : Hid (∀ x, Calls Tryz.prog 60 #[.string s, .int .u8 107] x fun e W' => e = .returned (.bool false) ∧ x = W') := C107
  have H98 : Hid (∀ x, Calls Tryz.prog 60 #[.string s, .int .u8 98] x fun e W' => e = .returned (.bool false) ∧ x = W') := C98
  have H99 : Hid (∀ x, Calls Tryz.prog 60 #[.string s, .int .u8 99] x fun e W' => e = .returned (.bool false) ∧ x = W') := C99
  have H117 : Hid (∀ x, Calls Tryz.prog 60 #[.string s, .int .u8 117] x fun e W' => e = .returned (.bool true) ∧ x = W') := C117
  have H115 : Hid (∀ x, Calls Tryz.prog 60 #[.string s, .int .u8 115] x fun e W' => e = .returned (.bool false) ∧ x = W') := C115
  have H111 : Hid (∀ x, Calls Tryz.prog 60 #[.string s, .int .u8 111] x fun e W' => e = .returned (.bool false) ∧ x = W') := C111
  have hq : (Ins.mk (w / 67108864) 0 (w / 4194304 % 16) 0 0 (w % 65536)) = decI w := by
    rw [decI, hL]
    simp [decL, fl, rd, Ins.put, M.Ext, M.Fld]
    try ((repeat' apply And.intro) <;> (first | omega | (split <;> omega)))
  have HT : Hid (∀ x, Below W.heap.size W x → RShapes x ∧ 3 < x.heap.size) := fun x hb => ⟨hR.below hb (by omega), by have := hb.size; omega⟩
  have HQ : Hid ((Ins.mk (w / 67108864) 0 (w / 4194304 % 16) 0 0 (w % 65536)) = decI w) := hq
  clear HS C97 C107 C98 C99 C117 C115 C111 hL hR hW hq
  go_enter Tryz.func29, Tryz.ntmps29
  go_wp2_with (go_at_call 59; refine (HS'.out _ (below_two _ _ _)).mono ?_; rintro e w1 ⟨rfl, rfl⟩)
  refine (H97.out _).mono ?_
  rintro e w9 ⟨rfl, rfl⟩
  go_wp2_with fail
  refine (H107.out _).mono ?_
  rintro e w9 ⟨rfl, rfl⟩
  go_wp2_with fail
  refine (H98.out _).mono ?_
  rintro e w9 ⟨rfl, rfl⟩
  go_wp2_with fail
  refine (H99.out _).mono ?_
  rintro e w9 ⟨rfl, rfl⟩
  go_wp2_with fail
  refine (H117.out _).mono ?_
  rintro e w9 ⟨rfl, rfl⟩
  go_wp2_with fail
  refine (H115.out _).mono ?_
  rintro e w9 ⟨rfl, rfl⟩
  go_wp2_with fail
  refine (H111.out _).mono ?_
  rintro e w9 ⟨rfl, rfl⟩
  go_wp2_with fail
  have HX : Hid (Below W.heap.size W ((W.alloc (Obj.cells #[Value.int .i64 0, Value.int .i64 0, Value.int .i64 0, Value.int .i64 0, Value.int .i64 0, Value.int .i64 0] 85)).alloc (Obj.cells #[Value.int .i64 (w / 67108864), Value.int .i64 0, Value.int .i64 (w / 4194304 % 16), Value.int .i64 0, Value.int .i64 0, Value.int .i64 (w % 65536)] 85)) ∧ Cel ((W.alloc (Obj.cells #[Value.int .i64 0, Value.int .i64 0, Value.int .i64 0, Value.int .i64 0, Value.int .i64 0, Value.int .i64 0] 85)).alloc (Obj.cells #[Value.int .i64 (w / 67108864), Value.int .i64 0, Value.int .i64 (w / 4194304 % 16), Value.int .i64 0, Value.int .i64 0, Value.int .i64 (w % 65536)] 85)) W.heap.size 85 [.int .i64 0, .int .i64 0, .int .i64 0, .int .i64 0, .int .i64 0, .int .i64 0] ∧ Cel ((W.alloc (Obj.cells #[Value.int .i64 0, Value.int .i64 0, Value.int .i64 0, Value.int .i64 0, Value.int .i64 0, Value.int .i64 0] 85)).alloc (Obj.cells #[Value.int .i64 (w / 67108864), Value.int .i64 0, Value.int .i64 (w / 4194304 % 16), Value.int .i64 0, Value.int .i64 0, Value.int .i64 (w % 65536)] 85)) (W.heap.size + 1) 85 (Ins.mk (w / 67108864) 0 (w / 4194304 % 16) 0 0 (w % 65536)).rs) := rd_world W _ _ _ _ _ _
  have I0 : (-2147483648 : Int) ≤ w % 65536 ∧ (w % 65536 : Int) < 2147483648 := by omega
  generalize ((W.alloc (Obj.cells #[Value.int .i64 0, Value.int .i64 0, Value.int .i64 0, Value.int .i64 0, Value.int .i64 0, Value.int .i64 0] 85)).alloc (Obj.cells #[Value.int .i64 (w / 67108864), Value.int .i64 0, Value.int .i64 (w / 4194304 % 16), Value.int .i64 0, Value.int .i64 0, Value.int .i64 (w % 65536)] 85)) = X at *
  obtain ⟨R, hRR⟩ : ∃ R, (Ins.mk (w / 67108864) 0 (w / 4194304 % 16) 0 0 (w % 65536)) = R := ⟨_, rfl⟩
  rw [hRR] at HQ HX
  have HE := rencode_any X (HT.out X HX.out.1).1 (HT.out X HX.out.1).2 (w / 67108864) 0 (w / 4194304 % 16) 0 0 (w % 65536) I0.1 I0.2
  rw [hRR] at HE
  have HC := dec_cases w R HQ.out (enc R) (chk R) rfl rfl
  generalize enc R = v at *
  generalize chk R = e at *
  have HE' : Hid (Calls Tryz.prog 61 #[.agg #[Value.int .i64 (w / 67108864), Value.int .i64 0, Value.int .i64 (w / 4194304 % 16), Value.int .i64 0, Value.int .i64 0, Value.int .i64 (w % 65536)]] X fun r W' => r = .returned (.tuple #[.int .u32 v, .int .i64 e]) ∧ Below X.heap.size X W') := HE
  clear HE I0
  refine HE'.out.mono ?_
  rintro r w5 ⟨rfl, hb5⟩
  have CZ5 : Hid (Cel w5 W.heap.size 85 [.int .i64 0, .int .i64 0, .int .i64 0, .int .i64 0, .int .i64 0, .int .i64 0]) := HX.out.2.1.on hb5
  have CD5 : Hid (Cel w5 (W.heap.size + 1) 85 R.rs) := HX.out.2.2.on hb5
  have B5 : Hid (Below W.heap.size W w5) := below_on HX.out.1 hb5
  have y0 : w5.cell? ⟨W.heap.size + 1, 0, none⟩ = some (.int .i64 (w / 67108864)) := by have := CD5.out.cell 0; rw [← hRR] at this; exact this
  have y1 : w5.cell? ⟨W.heap.size + 1, 1, none⟩ = some (.int .i64 0) := by have := CD5.out.cell 1; rw [← hRR] at this; exact this
  have y2 : w5.cell? ⟨W.heap.size + 1, 2, none⟩ = some (.int .i64 (w / 4194304 % 16)) := by have := CD5.out.cell 2; rw [← hRR] at this; exact this
  have y3 : w5.cell? ⟨W.heap.size + 1, 3, none⟩ = some (.int .i64 0) := by have := CD5.out.cell 3; rw [← hRR] at this; exact this
  have y4 : w5.cell? ⟨W.heap.size + 1, 4, none⟩ = some (.int .i64 0) := by have := CD5.out.cell 4; rw [← hRR] at this; exact this
  have y5 : w5.cell? ⟨W.heap.size + 1, 5, none⟩ = some (.int .i64 (w % 65536)) := by have := CD5.out.cell 5; rw [← hRR] at this; exact this
  have HRR : Hid ((Ins.mk (w / 67108864) 0 (w / 4194304 % 16) 0 0 (w % 65536)) = R) := hRR
  clear hRR hb5 HX HE'
  by_cases he : e = 0
  · subst he
    by_cases hv : v = w
    · subst hv
      have HV : Hid (Ending.returned (.tuple #[.agg #[Value.int .i64 (v / 67108864), Value.int .i64 0, Value.int .i64 (v / 4194304 % 16), Value.int .i64 0, Value.int .i64 0, Value.int .i64 (v % 65536)], .int .i64 0]) = .returned (.tuple #[(dec v).r, .int .i64 (decE v)])) := (show _ = _ by rw [← HC.1, ← HC.2, if_pos ⟨rfl, rfl⟩, if_pos ⟨rfl, rfl⟩, ← HRR.out]; rfl)
      clear HC
      go_wp2_with (first | (refine wpList_store_st rfl 85 _ _ rfl W.heap.size _ rfl rfl CZ5.out size57 rfl rfl ?_; intro w6 hc6 hb6 hs6))
      exact ret_st2 rfl rfl W.heap.size _ rfl hc6 Tryz.underlying85 rfl size57 ⟨HV.out, B5.out.trans (hb6.below (Nat.le_refl _) B5.out.size)⟩
    · have HV : Hid (Ending.returned (.tuple #[.agg ([.int .i64 0, .int .i64 0, .int .i64 0, .int .i64 0, .int .i64 0, .int .i64 0] : List Value).toArray, .int .i64 50]) = .returned (.tuple #[(dec w).r, .int .i64 (decE w)])) := (show _ = _ by rw [← HC.1, ← HC.2, if_neg (fun h => hv h.2), if_neg (fun h => hv h.2)]; rfl)
      have hv' : (v != w) = true := by simpa using hv
      clear HC hv
      go_wp2_with (first | (refine wpList_store_st rfl 85 _ _ rfl W.heap.size _ rfl rfl CZ5.out size57 rfl rfl ?_; intro w6 hc6 hb6 hs6))
      exact ret_st2 rfl rfl W.heap.size _ rfl hc6 Tryz.underlying85 rfl size57 ⟨HV.out, B5.out.trans (hb6.below (Nat.le_refl _) B5.out.size)⟩
  · have HV : Hid (Ending.returned (.tuple #[.agg ([.int .i64 0, .int .i64 0, .int .i64 0, .int .i64 0, .int .i64 0, .int .i64 0] : List Value).toArray, .int .i64 50]) = .returned (.tuple #[(dec w).r, .int .i64 (decE w)])) := (show _ = _ by rw [← HC.1, ← HC.2, if_neg (fun h => he h.1), if_neg (fun h => he h.1)]; rfl)
    have he' : (e != 0) = true := by simpa using he
    clear HC he
    go_wp2_with (first | (refine wpList_store_st rfl 85 _ _ rfl W.heap.size _ rfl rfl CZ5.out size57 rfl rfl ?_; intro w6 hc6 hb6 hs6))
    exact ret_st2 rfl rfl W.heap.size _ rfl hc6 Tryz.underlying85 rfl size57 ⟨HV.out, B5.out.trans (hb6.below (Nat.le_refl _) B5.out.size)⟩

set_option maxRecDepth 20000 in
set_option maxHeartbeats 2000000 in
theorem rdecode_1 (W : World) (hR : RShapes W) (hW : 3 < W.heap.size) (w : Int) (w0 : 0 ≤ w) (w1 : w < 4294967296) (s : ByteArray) (hL : ltr (shpI (M.Fld w 26 6)) = [97, 98])
    (HS : ∀ x, Below W.heap.size W x → Calls Tryz.prog 59 #[.int .i64 (w / 67108864)] x fun e W' => e = .returned (.string s) ∧ x = W') (C97 : ∀ x, Calls Tryz.prog 60 #[.string s, .int .u8 97] x fun e W' => e = .returned (.bool true) ∧ x = W') (C107 : ∀ x, Calls Tryz.prog 60 #[.string s, .int .u8 107] x fun e W' => e = .returned (.bool false) ∧ x = W') (C98 : ∀ x, Calls Tryz.prog 60 #[.string s, .int .u8 98] x fun e W' => e = .returned (.bool true) ∧ x = W') (C99 : ∀ x, Calls Tryz.prog 60 #[.string s, .int .u8 99] x fun e W' => e = .returned (.bool false) ∧ x = W') (C117 : ∀ x, Calls Tryz.prog 60 #[.string s, .int .u8 117] x fun e W' => e = .returned (.bool false) ∧ x = W') (C115 : ∀ x, Calls Tryz.prog 60 #[.string s, .int .u8 115] x fun e W' => e = .returned (.bool false) ∧ x = W') (C111 : ∀ x, Calls Tryz.prog 60 #[.string s, .int .u8 111] x fun e W' => e = .returned (.bool false) ∧ x = W') :
    Calls Tryz.prog 29 #[.int .u32 w] W fun e W' => e = .returned (.tuple #[(dec w).r, .int .i64 (decE w)]) ∧ Below W.heap.size W W' := by
  have HS' : Hid (∀ x, Below W.heap.size W x → Calls Tryz.prog 59 #[.int .i64 (w / 67108864)] x fun e W' => e = .returned (.string s) ∧ x = W') := HS
  have H97 : Hid (∀ x, Calls Tryz.prog 60 #[.string s, .int .u8 97] x fun e W' => e = .returned (.bool true) ∧ x = W') := C97
  have H107 : Hid (∀ x, Calls Tryz.prog 60 #[.string s, .int .u8 107] x fun e W' => e = .returned (.bool false) ∧ x = W') := C107
  have H98 : Hid (∀ x, Calls Tryz.prog 60 #[.string s, .int .u8 98] x fun e W' => e = .returned (.bool true) ∧ x = W') := C98
  have H99 : Hid (∀ x, Calls Tryz.prog 60 #[.string s, .int .u8 99] x fun e W' => e = .returned (.bool false) ∧ x = W') := C99
  have H117 : Hid (∀ x, Calls Tryz.prog 60 #[.string s, .int .u8 117] x fun e W' => e = .returned (.bool false) ∧ x = W') := C117
  have H115 : Hid (∀ x, Calls Tryz.prog 60 #[.string s, .int .u8 115] x fun e W' => e = .returned (.bool false) ∧ x = W') := C115
  have H111 : Hid (∀ x, Calls Tryz.prog 60 #[.string s, .int .u8 111] x fun e W' => e = .returned (.bool false) ∧ x = W') := C111
  have hq : (Ins.mk (w / 67108864) 0 (w / 4194304 % 16) (w / 262144 % 16) 0 0) = decI w := by
    rw [decI, hL]
    simp [decL, fl, rd, Ins.put, M.Ext, M.Fld]
    try ((repeat' apply And.intro) <;> (first | omega | (split <;> omega)))
  have HT : Hid (∀ x, Below W.heap.size W x → RShapes x ∧ 3 < x.heap.size) := fun x hb => ⟨hR.below hb (by omega), by have := hb.size; omega⟩
  have HQ : Hid ((Ins.mk (w / 67108864) 0 (w / 4194304 % 16) (w / 262144 % 16) 0 0) = decI w) := hq
  clear HS C97 C107 C98 C99 C117 C115 C111 hL hR hW hq
  go_enter Tryz.func29, Tryz.ntmps29
  go_wp2_with (go_at_call 59; refine (HS'.out _ (below_two _ _ _)).mono ?_; rintro e w1 ⟨rfl, rfl⟩)
  refine (H97.out _).mono ?_
  rintro e w9 ⟨rfl, rfl⟩
  go_wp2_with fail
  refine (H107.out _).mono ?_
  rintro e w9 ⟨rfl, rfl⟩
  go_wp2_with fail
  refine (H98.out _).mono ?_
  rintro e w9 ⟨rfl, rfl⟩
  go_wp2_with fail
  refine (H99.out _).mono ?_
  rintro e w9 ⟨rfl, rfl⟩
  go_wp2_with fail
  refine (H117.out _).mono ?_
  rintro e w9 ⟨rfl, rfl⟩
  go_wp2_with fail
  refine (H115.out _).mono ?_
  rintro e w9 ⟨rfl, rfl⟩
  go_wp2_with fail
  refine (H111.out _).mono ?_
  rintro e w9 ⟨rfl, rfl⟩
  go_wp2_with fail
  have HX : Hid (Below W.heap.size W ((W.alloc (Obj.cells #[Value.int .i64 0, Value.int .i64 0, Value.int .i64 0, Value.int .i64 0, Value.int .i64 0, Value.int .i64 0] 85)).alloc (Obj.cells #[Value.int .i64 (w / 67108864), Value.int .i64 0, Value.int .i64 (w / 4194304 % 16), Value.int .i64 (w / 262144 % 16), Value.int .i64 0, Value.int .i64 0] 85)) ∧ Cel ((W.alloc (Obj.cells #[Value.int .i64 0, Value.int .i64 0, Value.int .i64 0, Value.int .i64 0, Value.int .i64 0, Value.int .i64 0] 85)).alloc (Obj.cells #[Value.int .i64 (w / 67108864), Value.int .i64 0, Value.int .i64 (w / 4194304 % 16), Value.int .i64 (w / 262144 % 16), Value.int .i64 0, Value.int .i64 0] 85)) W.heap.size 85 [.int .i64 0, .int .i64 0, .int .i64 0, .int .i64 0, .int .i64 0, .int .i64 0] ∧ Cel ((W.alloc (Obj.cells #[Value.int .i64 0, Value.int .i64 0, Value.int .i64 0, Value.int .i64 0, Value.int .i64 0, Value.int .i64 0] 85)).alloc (Obj.cells #[Value.int .i64 (w / 67108864), Value.int .i64 0, Value.int .i64 (w / 4194304 % 16), Value.int .i64 (w / 262144 % 16), Value.int .i64 0, Value.int .i64 0] 85)) (W.heap.size + 1) 85 (Ins.mk (w / 67108864) 0 (w / 4194304 % 16) (w / 262144 % 16) 0 0).rs) := rd_world W _ _ _ _ _ _
  have I0 : (-2147483648 : Int) ≤ 0 ∧ (0 : Int) < 2147483648 := by omega
  generalize ((W.alloc (Obj.cells #[Value.int .i64 0, Value.int .i64 0, Value.int .i64 0, Value.int .i64 0, Value.int .i64 0, Value.int .i64 0] 85)).alloc (Obj.cells #[Value.int .i64 (w / 67108864), Value.int .i64 0, Value.int .i64 (w / 4194304 % 16), Value.int .i64 (w / 262144 % 16), Value.int .i64 0, Value.int .i64 0] 85)) = X at *
  obtain ⟨R, hRR⟩ : ∃ R, (Ins.mk (w / 67108864) 0 (w / 4194304 % 16) (w / 262144 % 16) 0 0) = R := ⟨_, rfl⟩
  rw [hRR] at HQ HX
  have HE := rencode_any X (HT.out X HX.out.1).1 (HT.out X HX.out.1).2 (w / 67108864) 0 (w / 4194304 % 16) (w / 262144 % 16) 0 0 I0.1 I0.2
  rw [hRR] at HE
  have HC := dec_cases w R HQ.out (enc R) (chk R) rfl rfl
  generalize enc R = v at *
  generalize chk R = e at *
  have HE' : Hid (Calls Tryz.prog 61 #[.agg #[Value.int .i64 (w / 67108864), Value.int .i64 0, Value.int .i64 (w / 4194304 % 16), Value.int .i64 (w / 262144 % 16), Value.int .i64 0, Value.int .i64 0]] X fun r W' => r = .returned (.tuple #[.int .u32 v, .int .i64 e]) ∧ Below X.heap.size X W') := HE
  clear HE I0
  refine HE'.out.mono ?_
  rintro r w5 ⟨rfl, hb5⟩
  have CZ5 : Hid (Cel w5 W.heap.size 85 [.int .i64 0, .int .i64 0, .int .i64 0, .int .i64 0, .int .i64 0, .int .i64 0]) := HX.out.2.1.on hb5
  have CD5 : Hid (Cel w5 (W.heap.size + 1) 85 R.rs) := HX.out.2.2.on hb5
  have B5 : Hid (Below W.heap.size W w5) := below_on HX.out.1 hb5
  have y0 : w5.cell? ⟨W.heap.size + 1, 0, none⟩ = some (.int .i64 (w / 67108864)) := by have := CD5.out.cell 0; rw [← hRR] at this; exact this
  have y1 : w5.cell? ⟨W.heap.size + 1, 1, none⟩ = some (.int .i64 0) := by have := CD5.out.cell 1; rw [← hRR] at this; exact this
  have y2 : w5.cell? ⟨W.heap.size + 1, 2, none⟩ = some (.int .i64 (w / 4194304 % 16)) := by have := CD5.out.cell 2; rw [← hRR] at this; exact this
  have y3 : w5.cell? ⟨W.heap.size + 1, 3, none⟩ = some (.int .i64 (w / 262144 % 16)) := by have := CD5.out.cell 3; rw [← hRR] at this; exact this
  have y4 : w5.cell? ⟨W.heap.size + 1, 4, none⟩ = some (.int .i64 0) := by have := CD5.out.cell 4; rw [← hRR] at this; exact this
  have y5 : w5.cell? ⟨W.heap.size + 1, 5, none⟩ = some (.int .i64 0) := by have := CD5.out.cell 5; rw [← hRR] at this; exact this
  have HRR : Hid ((Ins.mk (w / 67108864) 0 (w / 4194304 % 16) (w / 262144 % 16) 0 0) = R) := hRR
  clear hRR hb5 HX HE'
  by_cases he : e = 0
  · subst he
    by_cases hv : v = w
    · subst hv
      have HV : Hid (Ending.returned (.tuple #[.agg #[Value.int .i64 (v / 67108864), Value.int .i64 0, Value.int .i64 (v / 4194304 % 16), Value.int .i64 (v / 262144 % 16), Value.int .i64 0, Value.int .i64 0], .int .i64 0]) = .returned (.tuple #[(dec v).r, .int .i64 (decE v)])) := (show _ = _ by rw [← HC.1, ← HC.2, if_pos ⟨rfl, rfl⟩, if_pos ⟨rfl, rfl⟩, ← HRR.out]; rfl)
      clear HC
      go_wp2_with (first | (refine wpList_store_st rfl 85 _ _ rfl W.heap.size _ rfl rfl CZ5.out size57 rfl rfl ?_; intro w6 hc6 hb6 hs6))
      exact ret_st2 rfl rfl W.heap.size _ rfl hc6 Tryz.underlying85 rfl size57 ⟨HV.out, B5.out.trans (hb6.below (Nat.le_refl _) B5.out.size)⟩
    · have HV : Hid (Ending.returned (.tuple #[.agg ([.int .i64 0, .int .i64 0, .int .i64 0, .int .i64 0, .int .i64 0, .int .i64 0] : List Value).toArray, .int .i64 50]) = .returned (.tuple #[(dec w).r, .int .i64 (decE w)])) := (show _ = _ by rw [← HC.1, ← HC.2, if_neg (fun h => hv h.2), if_neg (fun h => hv h.2)]; rfl)
      have hv' : (v != w) = true := by simpa using hv
      clear HC hv
      go_wp2_with (first | (refine wpList_store_st rfl 85 _ _ rfl W.heap.size _ rfl rfl CZ5.out size57 rfl rfl ?_; intro w6 hc6 hb6 hs6))
      exact ret_st2 rfl rfl W.heap.size _ rfl hc6 Tryz.underlying85 rfl size57 ⟨HV.out, B5.out.trans (hb6.below (Nat.le_refl _) B5.out.size)⟩
  · have HV : Hid (Ending.returned (.tuple #[.agg ([.int .i64 0, .int .i64 0, .int .i64 0, .int .i64 0, .int .i64 0, .int .i64 0] : List Value).toArray, .int .i64 50]) = .returned (.tuple #[(dec w).r, .int .i64 (decE w)])) := (show _ = _ by rw [← HC.1, ← HC.2, if_neg (fun h => he h.1), if_neg (fun h => he h.1)]; rfl)
    have he' : (e != 0) = true := by simpa using he
    clear HC he
    go_wp2_with (first | (refine wpList_store_st rfl 85 _ _ rfl W.heap.size _ rfl rfl CZ5.out size57 rfl rfl ?_; intro w6 hc6 hb6 hs6))
    exact ret_st2 rfl rfl W.heap.size _ rfl hc6 Tryz.underlying85 rfl size57 ⟨HV.out, B5.out.trans (hb6.below (Nat.le_refl _) B5.out.size)⟩

set_option maxRecDepth 20000 in
set_option maxHeartbeats 2000000 in
theorem rdecode_2 (W : World) (hR : RShapes W) (hW : 3 < W.heap.size) (w : Int) (w0 : 0 ≤ w) (w1 : w < 4294967296) (s : ByteArray) (hL : ltr (shpI (M.Fld w 26 6)) = [97, 98, 99])
    (HS : ∀ x, Below W.heap.size W x → Calls Tryz.prog 59 #[.int .i64 (w / 67108864)] x fun e W' => e = .returned (.string s) ∧ x = W') (C97 : ∀ x, Calls Tryz.prog 60 #[.string s, .int .u8 97] x fun e W' => e = .returned (.bool true) ∧ x = W') (C107 : ∀ x, Calls Tryz.prog 60 #[.string s, .int .u8 107] x fun e W' => e = .returned (.bool false) ∧ x = W') (C98 : ∀ x, Calls Tryz.prog 60 #[.string s, .int .u8 98] x fun e W' => e = .returned (.bool true) ∧ x = W') (C99 : ∀ x, Calls Tryz.prog 60 #[.string s, .int .u8 99] x fun e W' => e = .returned (.bool true) ∧ x = W') (C117 : ∀ x, Calls Tryz.prog 60 #[.string s, .int .u8 117] x fun e W' => e = .returned (.bool false) ∧ x = W') (C115 : ∀ x, Calls Tryz.prog 60 #[.string s, .int .u8 115] x fun e W' => e = .returned (.bool false) ∧ x = W') (C111 : ∀ x, Calls Tryz.prog 60 #[.string s, .int .u8 111] x fun e W' => e = .returned (.bool false) ∧ x = W') :
    Calls Tryz.prog 29 #[.int .u32 w] W fun e W' => e = .returned (.tuple #[(dec w).r, .int .i64 (decE w)]) ∧ Below W.heap.size W W' := by
  have HS' : Hid (∀ x, Below W.heap.size W x → Calls Tryz.prog 59 #[.int .i64 (w / 67108864)] x fun e W' => e = .returned (.string s) ∧ x = W') := HS
  have H97 : Hid (∀ x, Calls Tryz.prog 60 #[.string s, .int .u8 97] x fun e W' => e = .returned (.bool true) ∧ x = W') := C97
  have H107 : Hid (∀ x, Calls Tryz.prog 60 #[.string s, .int .u8 107] x fun e W' => e = .returned (.bool false) ∧ x = W') := C107
  have H98 : Hid (∀ x, Calls Tryz.prog 60 #[.string s, .int .u8 98] x fun e W' => e = .returned (.bool true) ∧ x = W') := C98
  have H99 : Hid (∀ x, Calls Tryz.prog 60 #[.string s, .int .u8 99] x fun e W' => e = .returned (.bool true) ∧ x = W') := C99
  have H117 : Hid (∀ x, Calls Tryz.prog 60 #[.string s, .int .u8 117] x fun e W' => e = .returned (.bool false) ∧ x = W') := C117
  have H115 : Hid (∀ x, Calls Tryz.prog 60 #[.string s, .int .u8 115] x fun e W' => e = .returned (.bool false) ∧ x = W') := C115
  have H111 : Hid (∀ x, Calls Tryz.prog 60 #[.string s, .int .u8 111] x fun e W' => e = .returned (.bool false) ∧ x = W') := C111
  have hq : (Ins.mk (w / 67108864) 0 (w / 4194304 % 16) (w / 262144 % 16) (w / 16384 % 16) 0) = decI w := by
    rw [decI, hL]
    simp [decL, fl, rd, Ins.put, M.Ext, M.Fld]
    try ((repeat' apply And.intro) <;> (first | omega | (split <;> omega)))
  have HT : Hid (∀ x, Below W.heap.size W x → RShapes x ∧ 3 < x.heap.size) := fun x hb => ⟨hR.below hb (by omega), by have := hb.size; omega⟩
  have HQ : Hid ((Ins.mk (w / 67108864) 0 (w / 4194304 % 16) (w / 262144 % 16) (w / 16384 % 16) 0) = decI w) := hq
  clear HS C97 C107 C98 C99 C117 C115 C111 hL hR hW hq
  go_enter Tryz.func29, Tryz.ntmps29
  go_wp2_with (go_at_call 59; refine (HS'.out _ (below_two _ _ _)).mono ?_; rintro e w1 ⟨rfl, rfl⟩)
  refine (H97.out _).mono ?_
  rintro e w9 ⟨rfl, rfl⟩
  go_wp2_with fail
  refine (H107.out _).mono ?_
  rintro e w9 ⟨rfl, rfl⟩
  go_wp2_with fail
  refine (H98.out _).mono ?_
  rintro e w9 ⟨rfl, rfl⟩
  go_wp2_with fail
  refine (H99.out _).mono ?_
  rintro e w9 ⟨rfl, rfl⟩
  go_wp2_with fail
  refine (H117.out _).mono ?_
  rintro e w9 ⟨rfl, rfl⟩
  go_wp2_with fail
  refine (H115.out _).mono ?_
  rintro e w9 ⟨rfl, rfl⟩
  go_wp2_with fail
  refine (H111.out _).mono ?_
  rintro e w9 ⟨rfl, rfl⟩
  go_wp2_with fail
  have HX : Hid (Below W.heap.size W ((W.alloc (Obj.cells #[Value.int .i64 0, Value.int .i64 0, Value.int .i64 0, Value.int .i64 0, Value.int .i64 0, Value.int .i64 0] 85)).alloc (Obj.cells #[Value.int .i64 (w / 67108864), Value.int .i64 0, Value.int .i64 (w / 4194304 % 16), Value.int .i64 (w / 262144 % 16), Value.int .i64 (w / 16384 % 16), Value.int .i64 0] 85)) ∧ Cel ((W.alloc (Obj.cells #[Value.int .i64 0, Value.int .i64 0, Value.int .i64 0, Value.int .i64 0, Value.int .i64 0, Value.int .i64 0] 85)).alloc (Obj.cells #[Value.int .i64 (w / 67108864), Value.int .i64 0, Value.int .i64 (w / 4194304 % 16), Value.int .i64 (w / 262144 % 16), Value.int .i64 (w / 16384 % 16), Value.int .i64 0] 85)) W.heap.size 85 [.int .i64 0, .int .i64 0, .int .i64 0, .int .i64 0, .int .i64 0, .int .i64 0] ∧ Cel ((W.alloc (Obj.cells #[Value.int .i64 0, Value.int .i64 0, Value.int .i64 0, Value.int .i64 0, Value.int .i64 0, Value.int .i64 0] 85)).alloc (Obj.cells #[Value.int .i64 (w / 67108864), Value.int .i64 0, Value.int .i64 (w / 4194304 % 16), Value.int .i64 (w / 262144 % 16), Value.int .i64 (w / 16384 % 16), Value.int .i64 0] 85)) (W.heap.size + 1) 85 (Ins.mk (w / 67108864) 0 (w / 4194304 % 16) (w / 262144 % 16) (w / 16384 % 16) 0).rs) := rd_world W _ _ _ _ _ _
  have I0 : (-2147483648 : Int) ≤ 0 ∧ (0 : Int) < 2147483648 := by omega
  generalize ((W.alloc (Obj.cells #[Value.int .i64 0, Value.int .i64 0, Value.int .i64 0, Value.int .i64 0, Value.int .i64 0, Value.int .i64 0] 85)).alloc (Obj.cells #[Value.int .i64 (w / 67108864), Value.int .i64 0, Value.int .i64 (w / 4194304 % 16), Value.int .i64 (w / 262144 % 16), Value.int .i64 (w / 16384 % 16), Value.int .i64 0] 85)) = X at *
  obtain ⟨R, hRR⟩ : ∃ R, (Ins.mk (w / 67108864) 0 (w / 4194304 % 16) (w / 262144 % 16) (w / 16384 % 16) 0) = R := ⟨_, rfl⟩
  rw [hRR] at HQ HX
  have HE := rencode_any X (HT.out X HX.out.1).1 (HT.out X HX.out.1).2 (w / 67108864) 0 (w / 4194304 % 16) (w / 262144 % 16) (w / 16384 % 16) 0 I0.1 I0.2
  rw [hRR] at HE
  have HC := dec_cases w R HQ.out (enc R) (chk R) rfl rfl
  generalize enc R = v at *
  generalize chk R = e at *
  have HE' : Hid (Calls Tryz.prog 61 #[.agg #[Value.int .i64 (w / 67108864), Value.int .i64 0, Value.int .i64 (w / 4194304 % 16), Value.int .i64 (w / 262144 % 16), Value.int .i64 (w / 16384 % 16), Value.int .i64 0]] X fun r W' => r = .returned (.tuple #[.int .u32 v, .int .i64 e]) ∧ Below X.heap.size X W') := HE
  clear HE I0
  refine HE'.out.mono ?_
  rintro r w5 ⟨rfl, hb5⟩
  have CZ5 : Hid (Cel w5 W.heap.size 85 [.int .i64 0, .int .i64 0, .int .i64 0, .int .i64 0, .int .i64 0, .int .i64 0]) := HX.out.2.1.on hb5
  have CD5 : Hid (Cel w5 (W.heap.size + 1) 85 R.rs) := HX.out.2.2.on hb5
  have B5 : Hid (Below W.heap.size W w5) := below_on HX.out.1 hb5
  have y0 : w5.cell? ⟨W.heap.size + 1, 0, none⟩ = some (.int .i64 (w / 67108864)) := by have := CD5.out.cell 0; rw [← hRR] at this; exact this
  have y1 : w5.cell? ⟨W.heap.size + 1, 1, none⟩ = some (.int .i64 0) := by have := CD5.out.cell 1; rw [← hRR] at this; exact this
  have y2 : w5.cell? ⟨W.heap.size + 1, 2, none⟩ = some (.int .i64 (w / 4194304 % 16)) := by have := CD5.out.cell 2; rw [← hRR] at this; exact this
  have y3 : w5.cell? ⟨W.heap.size + 1, 3, none⟩ = some (.int .i64 (w / 262144 % 16)) := by have := CD5.out.cell 3; rw [← hRR] at this; exact this
  have y4 : w5.cell? ⟨W.heap.size + 1, 4, none⟩ = some (.int .i64 (w / 16384 % 16)) := by have := CD5.out.cell 4; rw [← hRR] at this; exact this
  have y5 : w5.cell? ⟨W.heap.size + 1, 5, none⟩ = some (.int .i64 0) := by have := CD5.out.cell 5; rw [← hRR] at this; exact this
  have HRR : Hid ((Ins.mk (w / 67108864) 0 (w / 4194304 % 16) (w / 262144 % 16) (w / 16384 % 16) 0) = R) := hRR
  clear hRR hb5 HX HE'
  by_cases he : e = 0
  · subst he
    by_cases hv : v = w
    · subst hv
      have HV : Hid (Ending.returned (.tuple #[.agg #[Value.int .i64 (v / 67108864), Value.int .i64 0, Value.int .i64 (v / 4194304 % 16), Value.int .i64 (v / 262144 % 16), Value.int .i64 (v / 16384 % 16), Value.int .i64 0], .int .i64 0]) = .returned (.tuple #[(dec v).r, .int .i64 (decE v)])) := (show _ = _ by rw [← HC.1, ← HC.2, if_pos ⟨rfl, rfl⟩, if_pos ⟨rfl, rfl⟩, ← HRR.out]; rfl)
      clear HC
      go_wp2_with (first | (refine wpList_store_st rfl 85 _ _ rfl W.heap.size _ rfl rfl CZ5.out size57 rfl rfl ?_; intro w6 hc6 hb6 hs6))
      exact ret_st2 rfl rfl W.heap.size _ rfl hc6 Tryz.underlying85 rfl size57 ⟨HV.out, B5.out.trans (hb6.below (Nat.le_refl _) B5.out.size)⟩
    · have HV : Hid (Ending.returned (.tuple #[.agg ([.int .i64 0, .int .i64 0, .int .i64 0, .int .i64 0, .int .i64 0, .int .i64 0] : List Value).toArray, .int .i64 50]) = .returned (.tuple #[(dec w).r, .int .i64 (decE w)])) := (show _ = _ by rw [← HC.1, ← HC.2, if_neg (fun h => hv h.2), if_neg (fun h => hv h.2)]; rfl)
      have hv' : (v != w) = true := by simpa using hv
      clear HC hv
      go_wp2_with (first | (refine wpList_store_st rfl 85 _ _ rfl W.heap.size _ rfl rfl CZ5.out size57 rfl rfl ?_; intro w6 hc6 hb6 hs6))
      exact ret_st2 rfl rfl W.heap.size _ rfl hc6 Tryz.underlying85 rfl size57 ⟨HV.out, B5.out.trans (hb6.below (Nat.le_refl _) B5.out.size)⟩
  · have HV : Hid (Ending.returned (.tuple #[.agg ([.int .i64 0, .int .i64 0, .int .i64 0, .int .i64 0, .int .i64 0, .int .i64 0] : List Value).toArray, .int .i64 50]) = .returned (.tuple #[(dec w).r, .int .i64 (decE w)])) := (show _ = _ by rw [← HC.1, ← HC.2, if_neg (fun h => he h.1), if_neg (fun h => he h.1)]; rfl)
    have he' : (e != 0) = true := by simpa using he
    clear HC he
    go_wp2_with (first | (refine wpList_store_st rfl 85 _ _ rfl W.heap.size _ rfl rfl CZ5.out size57 rfl rfl ?_; intro w6 hc6 hb6 hs6))
    exact ret_st2 rfl rfl W.heap.size _ rfl hc6 Tryz.underlying85 rfl size57 ⟨HV.out, B5.out.trans (hb6.below (Nat.le_refl _) B5.out.size)⟩

set_option maxRecDepth 20000 in
set_option maxHeartbeats 2000000 in
theorem rdecode_3 (W : World) (hR : RShapes W) (hW : 3 < W.heap.size) (w : Int) (w0 : 0 ≤ w) (w1 : w < 4294967296) (s : ByteArray) (hL : ltr (shpI (M.Fld w 26 6)) = [97, 98, 115]) (hm : w % 65536 < 32768)
    (HS : ∀ x, Below W.heap.size W x → Calls Tryz.prog 59 #[.int .i64 (w / 67108864)] x fun e W' => e = .returned (.string s) ∧ x = W') (C97 : ∀ x, Calls Tryz.prog 60 #[.string s, .int .u8 97] x fun e W' => e = .returned (.bool true) ∧ x = W') (C107 : ∀ x, Calls Tryz.prog 60 #[.string s, .int .u8 107] x fun e W' => e = .returned (.bool false) ∧ x = W') (C98 : ∀ x, Calls Tryz.prog 60 #[.string s, .int .u8 98] x fun e W' => e = .returned (.bool true) ∧ x = W') (C99 : ∀ x, Calls Tryz.prog 60 #[.string s, .int .u8 99] x fun e W' => e = .returned (.bool false) ∧ x = W') (C117 : ∀ x, Calls Tryz.prog 60 #[.string s, .int .u8 117] x fun e W' => e = .returned (.bool false) ∧ x = W') (C115 : ∀ x, Calls Tryz.prog 60 #[.string s, .int .u8 115] x fun e W' => e = .returned (.bool true) ∧ x = W') (C111 : ∀ x, Calls Tryz.prog 60 #[.string s, .int .u8 111] x fun e W' => e = .returned (.bool false) ∧ x = W') :
    Calls Tryz.prog 29 #[.int .u32 w] W fun e W' => e = .returned (.tuple #[(dec w).r, .int .i64 (decE w)]) ∧ Below W.heap.size W W' := by
  have HS' : Hid (∀ x, Below W.heap.size W x → Calls Tryz.prog 59 #[.int .i64 (w / 67108864)] x fun e W' => e = .returned (.string s) ∧ x = W') := HS
  have H97 : Hid (∀ x, Calls Tryz.prog 60 #[.string s, .int .u8 97] x fun e W' => e = .returned (.bool true) ∧ x = W') := C97
  have H107 : Hid (∀ x, Calls Tryz.prog 60 #[.string s, .int .u8 107] x fun e W' => e = .returned (.bool false) ∧ x = W') := C107
  have H98 : Hid (∀ x, Calls Tryz.prog 60 #[.string s, .int .u8 98] x fun e W' => e = .returned (.bool true) ∧ x = W') := C98
  have H99 : Hid (∀ x, Calls Tryz.prog 60 #[.string s, .int .u8 99] x fun e W' => e = .returned (.bool false) ∧ x = W') := C99
  have H117 : Hid (∀ x, Calls Tryz.prog 60 #[.string s, .int .u8 117] x fun e W' => e = .returned (.bool false) ∧ x = W') := C117
  have H115 : Hid (∀ x, Calls Tryz.prog 60 #[.string s, .int .u8 115] x fun e W' => e = .returned (.bool true) ∧ x = W') := C115
  have H111 : Hid (∀ x, Calls Tryz.prog 60 #[.string s, .int .u8 111] x fun e W' => e = .returned (.bool false) ∧ x = W') := C111
  have hq : (Ins.mk (w / 67108864) 0 (w / 4194304 % 16) (w / 262144 % 16) 0 (w % 65536)) = decI w := by
    rw [decI, hL]
    simp [decL, fl, rd, Ins.put, M.Ext, M.Fld]
    try ((repeat' apply And.intro) <;> (first | omega | (split <;> omega)))
  have HT : Hid (∀ x, Below W.heap.size W x → RShapes x ∧ 3 < x.heap.size) := fun x hb => ⟨hR.below hb (by omega), by have := hb.size; omega⟩
  have HQ : Hid ((Ins.mk (w / 67108864) 0 (w / 4194304 % 16) (w / 262144 % 16) 0 (w % 65536)) = decI w) := hq
  clear HS C97 C107 C98 C99 C117 C115 C111 hL hR hW hq
  go_enter Tryz.func29, Tryz.ntmps29
  go_wp2_with (go_at_call 59; refine (HS'.out _ (below_two _ _ _)).mono ?_; rintro e w1 ⟨rfl, rfl⟩)
  refine (H97.out _).mono ?_
  rintro e w9 ⟨rfl, rfl⟩
  go_wp2_with fail
  refine (H107.out _).mono ?_
  rintro e w9 ⟨rfl, rfl⟩
  go_wp2_with fail
  refine (H98.out _).mono ?_
  rintro e w9 ⟨rfl, rfl⟩
  go_wp2_with fail
  refine (H99.out _).mono ?_
  rintro e w9 ⟨rfl, rfl⟩
  go_wp2_with fail
  refine (H117.out _).mono ?_
  rintro e w9 ⟨rfl, rfl⟩
  go_wp2_with fail
  refine (H115.out _).mono ?_
  rintro e w9 ⟨rfl, rfl⟩
  go_wp2_with fail
  have HX : Hid (Below W.heap.size W ((W.alloc (Obj.cells #[Value.int .i64 0, Value.int .i64 0, Value.int .i64 0, Value.int .i64 0, Value.int .i64 0, Value.int .i64 0] 85)).alloc (Obj.cells #[Value.int .i64 (w / 67108864), Value.int .i64 0, Value.int .i64 (w / 4194304 % 16), Value.int .i64 (w / 262144 % 16), Value.int .i64 0, Value.int .i64 (w % 65536)] 85)) ∧ Cel ((W.alloc (Obj.cells #[Value.int .i64 0, Value.int .i64 0, Value.int .i64 0, Value.int .i64 0, Value.int .i64 0, Value.int .i64 0] 85)).alloc (Obj.cells #[Value.int .i64 (w / 67108864), Value.int .i64 0, Value.int .i64 (w / 4194304 % 16), Value.int .i64 (w / 262144 % 16), Value.int .i64 0, Value.int .i64 (w % 65536)] 85)) W.heap.size 85 [.int .i64 0, .int .i64 0, .int .i64 0, .int .i64 0, .int .i64 0, .int .i64 0] ∧ Cel ((W.alloc (Obj.cells #[Value.int .i64 0, Value.int .i64 0, Value.int .i64 0, Value.int .i64 0, Value.int .i64 0, Value.int .i64 0] 85)).alloc (Obj.cells #[Value.int .i64 (w / 67108864), Value.int .i64 0, Value.int .i64 (w / 4194304 % 16), Value.int .i64 (w / 262144 % 16), Value.int .i64 0, Value.int .i64 (w % 65536)] 85)) (W.heap.size + 1) 85 (Ins.mk (w / 67108864) 0 (w / 4194304 % 16) (w / 262144 % 16) 0 (w % 65536)).rs) := rd_world W _ _ _ _ _ _
  have I0 : (-2147483648 : Int) ≤ w % 65536 ∧ (w % 65536 : Int) < 2147483648 := by omega
  generalize ((W.alloc (Obj.cells #[Value.int .i64 0, Value.int .i64 0, Value.int .i64 0, Value.int .i64 0, Value.int .i64 0, Value.int .i64 0] 85)).alloc (Obj.cells #[Value.int .i64 (w / 67108864), Value.int .i64 0, Value.int .i64 (w / 4194304 % 16), Value.int .i64 (w / 262144 % 16), Value.int .i64 0, Value.int .i64 (w % 65536)] 85)) = X at *
  obtain ⟨R, hRR⟩ : ∃ R, (Ins.mk (w / 67108864) 0 (w / 4194304 % 16) (w / 262144 % 16) 0 (w % 65536)) = R := ⟨_, rfl⟩
  rw [hRR] at HQ HX
  have HE := rencode_any X (HT.out X HX.out.1).1 (HT.out X HX.out.1).2 (w / 67108864) 0 (w / 4194304 % 16) (w / 262144 % 16) 0 (w % 65536) I0.1 I0.2
  rw [hRR] at HE
  have HC := dec_cases w R HQ.out (enc R) (chk R) rfl rfl
  generalize enc R = v at *
  generalize chk R = e at *
  have HE' : Hid (Calls Tryz.prog 61 #[.agg #[Value.int .i64 (w / 67108864), Value.int .i64 0, Value.int .i64 (w / 4194304 % 16), Value.int .i64 (w / 262144 % 16), Value.int .i64 0, Value.int .i64 (w % 65536)]] X fun r W' => r = .returned (.tuple #[.int .u32 v, .int .i64 e]) ∧ Below X.heap.size X W') := HE
  clear HE I0
  refine HE'.out.mono ?_
  rintro r w5 ⟨rfl, hb5⟩
  have CZ5 : Hid (Cel w5 W.heap.size 85 [.int .i64 0, .int .i64 0, .int .i64 0, .int .i64 0, .int .i64 0, .int .i64 0]) := HX.out.2.1.on hb5
  have CD5 : Hid (Cel w5 (W.heap.size + 1) 85 R.rs) := HX.out.2.2.on hb5
  have B5 : Hid (Below W.heap.size W w5) := below_on HX.out.1 hb5
  have y0 : w5.cell? ⟨W.heap.size + 1, 0, none⟩ = some (.int .i64 (w / 67108864)) := by have := CD5.out.cell 0; rw [← hRR] at this; exact this
  have y1 : w5.cell? ⟨W.heap.size + 1, 1, none⟩ = some (.int .i64 0) := by have := CD5.out.cell 1; rw [← hRR] at this; exact this
  have y2 : w5.cell? ⟨W.heap.size + 1, 2, none⟩ = some (.int .i64 (w / 4194304 % 16)) := by have := CD5.out.cell 2; rw [← hRR] at this; exact this
  have y3 : w5.cell? ⟨W.heap.size + 1, 3, none⟩ = some (.int .i64 (w / 262144 % 16)) := by have := CD5.out.cell 3; rw [← hRR] at this; exact this
  have y4 : w5.cell? ⟨W.heap.size + 1, 4, none⟩ = some (.int .i64 0) := by have := CD5.out.cell 4; rw [← hRR] at this; exact this
  have y5 : w5.cell? ⟨W.heap.size + 1, 5, none⟩ = some (.int .i64 (w % 65536)) := by have := CD5.out.cell 5; rw [← hRR] at this; exact this
  have HRR : Hid ((Ins.mk (w / 67108864) 0 (w / 4194304 % 16) (w / 262144 % 16) 0 (w % 65536)) = R) := hRR
  clear hRR hb5 HX HE'
  by_cases he : e = 0
  · subst he
    by_cases hv : v = w
    · subst hv
      have HV : Hid (Ending.returned (.tuple #[.agg #[Value.int .i64 (v / 67108864), Value.int .i64 0, Value.int .i64 (v / 4194304 % 16), Value.int .i64 (v / 262144 % 16), Value.int .i64 0, Value.int .i64 (v % 65536)], .int .i64 0]) = .returned (.tuple #[(dec v).r, .int .i64 (decE v)])) := (show _ = _ by rw [← HC.1, ← HC.2, if_pos ⟨rfl, rfl⟩, if_pos ⟨rfl, rfl⟩, ← HRR.out]; rfl)
      clear HC
      go_wp2_with (first | (refine wpList_store_st rfl 85 _ _ rfl W.heap.size _ rfl rfl CZ5.out size57 rfl rfl ?_; intro w6 hc6 hb6 hs6))
      exact ret_st2 rfl rfl W.heap.size _ rfl hc6 Tryz.underlying85 rfl size57 ⟨HV.out, B5.out.trans (hb6.below (Nat.le_refl _) B5.out.size)⟩
    · have HV : Hid (Ending.returned (.tuple #[.agg ([.int .i64 0, .int .i64 0, .int .i64 0, .int .i64 0, .int .i64 0, .int .i64 0] : List Value).toArray, .int .i64 50]) = .returned (.tuple #[(dec w).r, .int .i64 (decE w)])) := (show _ = _ by rw [← HC.1, ← HC.2, if_neg (fun h => hv h.2), if_neg (fun h => hv h.2)]; rfl)
      have hv' : (v != w) = true := by simpa using hv
      clear HC hv
      go_wp2_with (first | (refine wpList_store_st rfl 85 _ _ rfl W.heap.size _ rfl rfl CZ5.out size57 rfl rfl ?_; intro w6 hc6 hb6 hs6))
      exact ret_st2 rfl rfl W.heap.size _ rfl hc6 Tryz.underlying85 rfl size57 ⟨HV.out, B5.out.trans (hb6.below (Nat.le_refl _) B5.out.size)⟩
  · have HV : Hid (Ending.returned (.tuple #[.agg ([.int .i64 0, .int .i64 0, .int .i64 0, .int .i64 0, .int .i64 0, .int .i64 0] : List Value).toArray, .int .i64 50]) = .returned (.tuple #[(dec w).r, .int .i64 (decE w)])) := (show _ = _ by rw [← HC.1, ← HC.2, if_neg (fun h => he h.1), if_neg (fun h => he h.1)]; rfl)
    have he' : (e != 0) = true := by simpa using he
    clear HC he
    go_wp2_with (first | (refine wpList_store_st rfl 85 _ _ rfl W.heap.size _ rfl rfl CZ5.out size57 rfl rfl ?_; intro w6 hc6 hb6 hs6))
    exact ret_st2 rfl rfl W.heap.size _ rfl hc6 Tryz.underlying85 rfl size57 ⟨HV.out, B5.out.trans (hb6.below (Nat.le_refl _) B5.out.size)⟩

set_option maxRecDepth 20000 in
set_option maxHeartbeats 2000000 in
theorem rdecode_3n (W : World) (hR : RShapes W) (hW : 3 < W.heap.size) (w : Int) (w0 : 0 ≤ w) (w1 : w < 4294967296) (s : ByteArray) (hL : ltr (shpI (M.Fld w 26 6)) = [97, 98, 115]) (hm : 32768 ≤ w % 65536)
    (HS : ∀ x, Below W.heap.size W x → Calls Tryz.prog 59 #[.int .i64 (w / 67108864)] x fun e W' => e = .returned (.string s) ∧ x = W') (C97 : ∀ x, Calls Tryz.prog 60 #[.string s, .int .u8 97] x fun e W' => e = .returned (.bool true) ∧ x = W') (C107 : ∀ x, Calls Tryz.prog 60 #[.string s, .int .u8 107] x fun e W' => e = .returned (.bool false) ∧ x = W') (C98 : ∀ x, Calls Tryz.prog 60 #[.string s, .int .u8 98] x fun e W' => e = .returned (.bool true) ∧ x = W') (C99 : ∀ x, Calls Tryz.prog 60 #[.string s, .int .u8 99] x fun e W' => e = .returned (.bool false) ∧ x = W') (C117 : ∀ x, Calls Tryz.prog 60 #[.string s, .int .u8 117] x fun e W' => e = .returned (.bool false) ∧ x = W') (C115 : ∀ x, Calls Tryz.prog 60 #[.string s, .int .u8 115] x fun e W' => e = .returned (.bool true) ∧ x = W') (C111 : ∀ x, Calls Tryz.prog 60 #[.string s, .int .u8 111] x fun e W' => e = .returned (.bool false) ∧ x = W') :
    Calls Tryz.prog 29 #[.int .u32 w] W fun e W' => e = .returned (.tuple #[(dec w).r, .int .i64 (decE w)]) ∧ Below W.heap.size W W' := by
  have HS' : Hid (∀ x, Below W.heap.size W x → Calls Tryz.prog 59 #[.int .i64 (w / 67108864)] x fun e W' => e = .returned (.string s) ∧ x = W') := HS
  have H97 : Hid (∀ x, Calls Tryz.prog 60 #[.string s, .int .u8 97] x fun e W' => e = .returned (.bool true) ∧ x = W') := C97
  have H107 : Hid (∀ x, Calls Tryz.prog 60 #[.string s, .int .u8 107] x fun e W' => e = .returned (.bool false) ∧ x = W') := C107
  have H98 : Hid (∀ x, Calls Tryz.prog 60 #[.string s, .int .u8 98] x fun e W' => e = .returned (.bool true) ∧ x = W') := C98
  have H99 : Hid (∀ x, Calls Tryz.prog 60 #[.string s, .int .u8 99] x fun e W' => e = .returned (.bool false) ∧ x = W') := C99
  have H117 : Hid (∀ x, Calls Tryz.prog 60 #[.string s, .int .u8 117] x fun e W' => e = .returned (.bool false) ∧ x = W') := C117
  have H115 : Hid (∀ x, Calls Tryz.prog 60 #[.string s, .int .u8 115] x fun e W' => e = .returned (.bool true) ∧ x = W') := C115
  have H111 : Hid (∀ x, Calls Tryz.prog 60 #[.string s, .int .u8 111] x fun e W' => e = .returned (.bool false) ∧ x = W') := C111
  have hq : (Ins.mk (w / 67108864) 0 (w / 4194304 % 16) (w / 262144 % 16) 0 (w % 65536 - 65536)) = decI w := by
    rw [decI, hL]
    simp [decL, fl, rd, Ins.put, M.Ext, M.Fld]
    try ((repeat' apply And.intro) <;> (first | omega | (split <;> omega)))
  have HT : Hid (∀ x, Below W.heap.size W x → RShapes x ∧ 3 < x.heap.size) := fun x hb => ⟨hR.below hb (by omega), by have := hb.size; omega⟩
  have HQ : Hid ((Ins.mk (w / 67108864) 0 (w / 4194304 % 16) (w / 262144 % 16) 0 (w % 65536 - 65536)) = decI w) := hq
  clear HS C97 C107 C98 C99 C117 C115 C111 hL hR hW hq
  go_enter Tryz.func29, Tryz.ntmps29
  go_wp2_with (go_at_call 59; refine (HS'.out _ (below_two _ _ _)).mono ?_; rintro e w1 ⟨rfl, rfl⟩)
  refine (H97.out _).mono ?_
  rintro e w9 ⟨rfl, rfl⟩
  go_wp2_with fail
  refine (H107.out _).mono ?_
  rintro e w9 ⟨rfl, rfl⟩
  go_wp2_with fail
  refine (H98.out _).mono ?_
  rintro e w9 ⟨rfl, rfl⟩
  go_wp2_with fail
  refine (H99.out _).mono ?_
  rintro e w9 ⟨rfl, rfl⟩
  go_wp2_with fail
  refine (H117.out _).mono ?_
  rintro e w9 ⟨rfl, rfl⟩
  go_wp2_with fail
  refine (H115.out _).mono ?_
  rintro e w9 ⟨rfl, rfl⟩
  go_wp2_with fail
  have HX : Hid (Below W.heap.size W ((W.alloc (Obj.cells #[Value.int .i64 0, Value.int .i64 0, Value.int .i64 0, Value.int .i64 0, Value.int .i64 0, Value.int .i64 0] 85)).alloc (Obj.cells #[Value.int .i64 (w / 67108864), Value.int .i64 0, Value.int .i64 (w / 4194304 % 16), Value.int .i64 (w / 262144 % 16), Value.int .i64 0, Value.int .i64 (w % 65536 - 65536)] 85)) ∧ Cel ((W.alloc (Obj.cells #[Value.int .i64 0, Value.int .i64 0, Value.int .i64 0, Value.int .i64 0, Value.int .i64 0, Value.int .i64 0] 85)).alloc (Obj.cells #[Value.int .i64 (w / 67108864), Value.int .i64 0, Value.int .i64 (w / 4194304 % 16), Value.int .i64 (w / 262144 % 16), Value.int .i64 0, Value.int .i64 (w % 65536 - 65536)] 85)) W.heap.size 85 [.int .i64 0, .int .i64 0, .int .i64 0, .int .i64 0, .int .i64 0, .int .i64 0] ∧ Cel ((W.alloc (Obj.cells #[Value.int .i64 0, Value.int .i64 0, Value.int .i64 0, Value.int .i64 0, Value.int .i64 0, Value.int .i64 0] 85)).alloc (Obj.cells #[Value.int .i64 (w / 67108864), Value.int .i64 0, Value.int .i64 (w / 4194304 % 16), Value.int .i64 (w / 262144 % 16), Value.int .i64 0, Value.int .i64 (w % 65536 - 65536)] 85)) (W.heap.size + 1) 85 (Ins.mk (w / 67108864) 0 (w / 4194304 % 16) (w / 262144 % 16) 0 (w % 65536 - 65536)).rs) := rd_world W _ _ _ _ _ _
  have I0 : (-2147483648 : Int) ≤ w % 65536 - 65536 ∧ (w % 65536 - 65536 : Int) < 2147483648 := by omega
  generalize ((W.alloc (Obj.cells #[Value.int .i64 0, Value.int .i64 0, Value.int .i64 0, Value.int .i64 0, Value.int .i64 0, Value.int .i64 0] 85)).alloc (Obj.cells #[Value.int .i64 (w / 67108864), Value.int .i64 0, Value.int .i64 (w / 4194304 % 16), Value.int .i64 (w / 262144 % 16), Value.int .i64 0, Value.int .i64 (w % 65536 - 65536)] 85)) = X at *
  obtain ⟨R, hRR⟩ : ∃ R, (Ins.mk (w / 67108864) 0 (w / 4194304 % 16) (w / 262144 % 16) 0 (w % 65536 - 65536)) = R := ⟨_, rfl⟩
  rw [hRR] at HQ HX
  have HE := rencode_any X (HT.out X HX.out.1).1 (HT.out X HX.out.1).2 (w / 67108864) 0 (w / 4194304 % 16) (w / 262144 % 16) 0 (w % 65536 - 65536) I0.1 I0.2
  rw [hRR] at HE
  have HC := dec_cases w R HQ.out (enc R) (chk R) rfl rfl
  generalize enc R = v at *
  generalize chk R = e at *
  have HE' : Hid (Calls Tryz.prog 61 #[.agg #[Value.int .i64 (w / 67108864), Value.int .i64 0, Value.int .i64 (w / 4194304 % 16), Value.int .i64 (w / 262144 % 16), Value.int .i64 0, Value.int .i64 (w % 65536 - 65536)]] X fun r W' => r = .returned (.tuple #[.int .u32 v, .int .i64 e]) ∧ Below X.heap.size X W') := HE
  clear HE I0
  refine HE'.out.mono ?_
  rintro r w5 ⟨rfl, hb5⟩
  have CZ5 : Hid (Cel w5 W.heap.size 85 [.int .i64 0, .int .i64 0, .int .i64 0, .int .i64 0, .int .i64 0, .int .i64 0]) := HX.out.2.1.on hb5
  have CD5 : Hid (Cel w5 (W.heap.size + 1) 85 R.rs) := HX.out.2.2.on hb5
  have B5 : Hid (Below W.heap.size W w5) := below_on HX.out.1 hb5
  have y0 : w5.cell? ⟨W.heap.size + 1, 0, none⟩ = some (.int .i64 (w / 67108864)) := by have := CD5.out.cell 0; rw [← hRR] at this; exact this
  have y1 : w5.cell? ⟨W.heap.size + 1, 1, none⟩ = some (.int .i64 0) := by have := CD5.out.cell 1; rw [← hRR] at this; exact this
  have y2 : w5.cell? ⟨W.heap.size + 1, 2, none⟩ = some (.int .i64 (w / 4194304 % 16)) := by have := CD5.out.cell 2; rw [← hRR] at this; exact this
  have y3 : w5.cell? ⟨W.heap.size + 1, 3, none⟩ = some (.int .i64 (w / 262144 % 16)) := by have := CD5.out.cell 3; rw [← hRR] at this; exact this
  have y4 : w5.cell? ⟨W.heap.size + 1, 4, none⟩ = some (.int .i64 0) := by have := CD5.out.cell 4; rw [← hRR] at this; exact this
  have y5 : w5.cell? ⟨W.heap.size + 1, 5, none⟩ = some (.int .i64 (w % 65536 - 65536)) := by have := CD5.out.cell 5; rw [← hRR] at this; exact this
  have HRR : Hid ((Ins.mk (w / 67108864) 0 (w / 4194304 % 16) (w / 262144 % 16) 0 (w % 65536 - 65536)) = R) := hRR
  clear hRR hb5 HX HE'
  by_cases he : e = 0
  · subst he
    by_cases hv : v = w
    · subst hv
      have HV : Hid (Ending.returned (.tuple #[.agg #[Value.int .i64 (v / 67108864), Value.int .i64 0, Value.int .i64 (v / 4194304 % 16), Value.int .i64 (v / 262144 % 16), Value.int .i64 0, Value.int .i64 (v % 65536 - 65536)], .int .i64 0]) = .returned (.tuple #[(dec v).r, .int .i64 (decE v)])) := (show _ = _ by rw [← HC.1, ← HC.2, if_pos ⟨rfl, rfl⟩, if_pos ⟨rfl, rfl⟩, ← HRR.out]; rfl)
      clear HC
      go_wp2_with (first | (refine wpList_store_st rfl 85 _ _ rfl W.heap.size _ rfl rfl CZ5.out size57 rfl rfl ?_; intro w6 hc6 hb6 hs6))
      exact ret_st2 rfl rfl W.heap.size _ rfl hc6 Tryz.underlying85 rfl size57 ⟨HV.out, B5.out.trans (hb6.below (Nat.le_refl _) B5.out.size)⟩
    · have HV : Hid (Ending.returned (.tuple #[.agg ([.int .i64 0, .int .i64 0, .int .i64 0, .int .i64 0, .int .i64 0, .int .i64 0] : List Value).toArray, .int .i64 50]) = .returned (.tuple #[(dec w).r, .int .i64 (decE w)])) := (show _ = _ by rw [← HC.1, ← HC.2, if_neg (fun h => hv h.2), if_neg (fun h => hv h.2)]; rfl)
      have hv' : (v != w) = true := by simpa using hv
      clear HC hv
      go_wp2_with (first | (refine wpList_store_st rfl 85 _ _ rfl W.heap.size _ rfl rfl CZ5.out size57 rfl rfl ?_; intro w6 hc6 hb6 hs6))
      exact ret_st2 rfl rfl W.heap.size _ rfl hc6 Tryz.underlying85 rfl size57 ⟨HV.out, B5.out.trans (hb6.below (Nat.le_refl _) B5.out.size)⟩
  · have HV : Hid (Ending.returned (.tuple #[.agg ([.int .i64 0, .int .i64 0, .int .i64 0, .int .i64 0, .int .i64 0, .int .i64 0] : List Value).toArray, .int .i64 50]) = .returned (.tuple #[(dec w).r, .int .i64 (decE w)])) := (show _ = _ by rw [← HC.1, ← HC.2, if_neg (fun h => he h.1), if_neg (fun h => he h.1)]; rfl)
    have he' : (e != 0) = true := by simpa using he
    clear HC he
    go_wp2_with (first | (refine wpList_store_st rfl 85 _ _ rfl W.heap.size _ rfl rfl CZ5.out size57 rfl rfl ?_; intro w6 hc6 hb6 hs6))
    exact ret_st2 rfl rfl W.heap.size _ rfl hc6 Tryz.underlying85 rfl size57 ⟨HV.out, B5.out.trans (hb6.below (Nat.le_refl _) B5.out.size)⟩

set_option maxRecDepth 20000 in
set_option maxHeartbeats 2000000 in
theorem rdecode_4 (W : World) (hR : RShapes W) (hW : 3 < W.heap.size) (w : Int) (w0 : 0 ≤ w) (w1 : w < 4294967296) (s : ByteArray) (hL : ltr (shpI (M.Fld w 26 6)) = [97, 115]) (hm : w % 65536 < 32768)
    (HS : ∀ x, Below W.heap.size W x → Calls Tryz.prog 59 #[.int .i64 (w / 67108864)] x fun e W' => e = .returned (.string s) ∧ x = W') (C97 : ∀ x, Calls Tryz.prog 60 #[.string s, .int .u8 97] x fun e W' => e = .returned (.bool true) ∧ x = W') (C107 : ∀ x, Calls Tryz.prog 60 #[.string s, .int .u8 107] x fun e W' => e = .returned (.bool false) ∧ x = W') (C98 : ∀ x, Calls Tryz.prog 60 #[.string s, .int .u8 98] x fun e W' => e = .returned (.bool false) ∧ x = W') (C99 : ∀ x, Calls Tryz.prog 60 #[.string s, .int .u8 99] x fun e W' => e = .returned (.bool false) ∧ x = W') (C117 : ∀ x, Calls Tryz.prog 60 #[.string s, .int .u8 117] x fun e W' => e = .returned (.bool false) ∧ x = W') (C115 : ∀ x, Calls Tryz.prog 60 #[.string s, .int .u8 115] x fun e W' => e = .returned (.bool true) ∧ x = W') (C111 : ∀ x, Calls Tryz.prog 60 #[.string s, .int .u8 111] x fun e W' => e = .returned (.bool false) ∧ x = W') :
    Calls Tryz.prog 29 #[.int .u32 w] W fun e W' => e = .returned (.tuple #[(dec w).r, .int .i64 (decE w)]) ∧ Below W.heap.size W W' := by
  have HS' : Hid (∀ x, Below W.heap.size W x → Calls Tryz.prog 59 #[.int .i64 (w / 67108864)] x fun e W' => e = .returned (.string s) ∧ x = W') := HS
  have H97 : Hid (∀ x, Calls Tryz.prog 60 #[.string s, .int .u8 97] x fun e W' => e = .returned (.bool true) ∧ x = W') := C97
  have H107 : Hid (∀ x, Calls Tryz.prog 60 #[.string s, .int .u8 107] x fun e W' => e = .returned (.bool false) ∧ x = W') := C107
  have H98 : Hid (∀ x, Calls Tryz.prog 60 #[.string s, .int .u8 98] x fun e W' => e = .returned (.bool false) ∧ x = W') := C98
  have H99 : Hid (∀ x, Calls Tryz.prog 60 #[.string s, .int .u8 99] x fun e W' => e = .returned (.bool false) ∧ x = W') := C99
  have H117 : Hid (∀ x, Calls Tryz.prog 60 #[.string s, .int .u8 117] x fun e W' => e = .returned (.bool false) ∧ x = W') := C117
  have H115 : Hid (∀ x, Calls Tryz.prog 60 #[.string s, .int .u8 115] x fun e W' => e = .returned (.bool true) ∧ x = W') := C115
  have H111 : Hid (∀ x, Calls Tryz.prog 60 #[.string s, .int .u8 111] x fun e W' => e = .returned (.bool false) ∧ x = W') := C111
  have hq : (Ins.mk (w / 67108864) 0 (w / 4194304 % 16) 0 0 (w % 65536)) = decI w := by
    rw [decI, hL]
    simp [decL, fl, rd, Ins.put, M.Ext, M.Fld]
    try ((repeat' apply And.intro) <;> (first | omega | (split <;> omega)))
  have HT : Hid (∀ x, Below W.heap.size W x → RShapes x ∧ 3 < x.heap.size) := fun x hb => ⟨hR.below hb (by omega), by have := hb.size; omega⟩
  have HQ : Hid ((Ins.mk (w / 67108864) 0 (w / 4194304 % 16) 0 0 (w % 65536)) = decI w) := hq
  clear HS C97 C107 C98 C99 C117 C115 C111 hL hR hW hq
  go_enter Tryz.func29, Tryz.ntmps29
  go_wp2_with (go_at_call 59; refine (HS'.out _ (below_two _ _ _)).mono ?_; rintro e w1 ⟨rfl, rfl⟩)
  refine (H97.out _).mono ?_
  rintro e w9 ⟨rfl, rfl⟩
  go_wp2_with fail
  refine (H107.out _).mono ?_
  rintro e w9 ⟨rfl, rfl⟩
  go_wp2_with fail
  refine (H98.out _).mono ?_
  rintro e w9 ⟨rfl, rfl⟩
  go_wp2_with fail
  refine (H99.out _).mono ?_
  rintro e w9 ⟨rfl, rfl⟩
  go_wp2_with fail
  refine (H117.out _).mono ?_
  rintro e w9 ⟨rfl, rfl⟩
  go_wp2_with fail
  refine (H115.out _).mono ?_
  rintro e w9 ⟨rfl, rfl⟩
  go_wp2_with fail
  have HX : Hid (Below W.heap.size W ((W.alloc (Obj.cells #[Value.int .i64 0, Value.int .i64 0, Value.int .i64 0, Value.int .i64 0, Value.int .i64 0, Value.int .i64 0] 85)).alloc (Obj.cells #[Value.int .i64 (w / 67108864), Value.int .i64 0, Value.int .i64 (w / 4194304 % 16), Value.int .i64 0, Value.int .i64 0, Value.int .i64 (w % 65536)] 85)) ∧ Cel ((W.alloc (Obj.cells #[Value.int .i64 0, Value.int .i64 0, Value.int .i64 0, Value.int .i64 0, Value.int .i64 0, Value.int .i64 0] 85)).alloc (Obj.cells #[Value.int .i64 (w / 67108864), Value.int .i64 0, Value.int .i64 (w / 4194304 % 16), Value.int .i64 0, Value.int .i64 0, Value.int .i64 (w % 65536)] 85)) W.heap.size 85 [.int .i64 0, .int .i64 0, .int .i64 0, .int .i64 0, .int .i64 0, .int .i64 0] ∧ Cel ((W.alloc (Obj.cells #[Value.int .i64 0, Value.int .i64 0, Value.int .i64 0, Value.int .i64 0, Value.int .i64 0, Value.int .i64 0] 85)).alloc (Obj.cells #[Value.int .i64 (w / 67108864), Value.int .i64 0, Value.int .i64 (w / 4194304 % 16), Value.int .i64 0, Value.int .i64 0, Value.int .i64 (w % 65536)] 85)) (W.heap.size + 1) 85 (Ins.mk (w / 67108864) 0 (w / 4194304 % 16) 0 0 (w % 65536)).rs) := rd_world W _ _ _ _ _ _
  have I0 : (-2147483648 : Int) ≤ w % 65536 ∧ (w % 65536 : Int) < 2147483648 := by omega
  generalize ((W.alloc (Obj.cells #[Value.int .i64 0, Value.int .i64 0, Value.int .i64 0, Value.int .i64 0, Value.int .i64 0, Value.int .i64 0] 85)).alloc (Obj.cells #[Value.int .i64 (w / 67108864), Value.int .i64 0, Value.int .i64 (w / 4194304 % 16), Value.int .i64 0, Value.int .i64 0, Value.int .i64 (w % 65536)] 85)) = X at *
  obtain ⟨R, hRR⟩ : ∃ R, (Ins.mk (w / 67108864) 0 (w / 4194304 % 16) 0 0 (w % 65536)) = R := ⟨_, rfl⟩
  rw [hRR] at HQ HX
  have HE := rencode_any X (HT.out X HX.out.1).1 (HT.out X HX.out.1).2 (w / 67108864) 0 (w / 4194304 % 16) 0 0 (w % 65536) I0.1 I0.2
  rw [hRR] at HE
  have HC := dec_cases w R HQ.out (enc R) (chk R) rfl rfl
  generalize enc R = v at *
  generalize chk R = e at *
  have HE' : Hid (Calls Tryz.prog 61 #[.agg #[Value.int .i64 (w / 67108864), Value.int .i64 0, Value.int .i64 (w / 4194304 % 16), Value.int .i64 0, Value.int .i64 0, Value.int .i64 (w % 65536)]] X fun r W' => r = .returned (.tuple #[.int .u32 v, .int .i64 e]) ∧ Below X.heap.size X W') := HE
  clear HE I0
  refine HE'.out.mono ?_
  rintro r w5 ⟨rfl, hb5⟩
  have CZ5 : Hid (Cel w5 W.heap.size 85 [.int .i64 0, .int .i64 0, .int .i64 0, .int .i64 0, .int .i64 0, .int .i64 0]) := HX.out.2.1.on hb5
  have CD5 : Hid (Cel w5 (W.heap.size + 1) 85 R.rs) := HX.out.2.2.on hb5
  have B5 : Hid (Below W.heap.size W w5) := below_on HX.out.1 hb5
  have y0 : w5.cell? ⟨W.heap.size + 1, 0, none⟩ = some (.int .i64 (w / 67108864)) := by have := CD5.out.cell 0; rw [← hRR] at this; exact this
  have y1 : w5.cell? ⟨W.heap.size + 1, 1, none⟩ = some (.int .i64 0) := by have := CD5.out.cell 1; rw [← hRR] at this; exact this
  have y2 : w5.cell? ⟨W.heap.size + 1, 2, none⟩ = some (.int .i64 (w / 4194304 % 16)) := by have := CD5.out.cell 2; rw [← hRR] at this; exact this
  have y3 : w5.cell? ⟨W.heap.size + 1, 3, none⟩ = some (.int .i64 0) := by have := CD5.out.cell 3; rw [← hRR] at this; exact this
  have y4 : w5.cell? ⟨W.heap.size + 1, 4, none⟩ = some (.int .i64 0) := by have := CD5.out.cell 4; rw [← hRR] at this; exact this
  have y5 : w5.cell? ⟨W.heap.size + 1, 5, none⟩ = some (.int .i64 (w % 65536)) := by have := CD5.out.cell 5; rw [← hRR] at this; exact this
  have HRR : Hid ((Ins.mk (w / 67108864) 0 (w / 4194304 % 16) 0 0 (w % 65536)) = R) := hRR
  clear hRR hb5 HX HE'
  by_cases he : e = 0
  · subst he
    by_cases hv : v = w
    · subst hv
      have HV : Hid (Ending.returned (.tuple #[.agg #[Value.int .i64 (v / 67108864), Value.int .i64 0, Value.int .i64 (v / 4194304 % 16), Value.int .i64 0, Value.int .i64 0, Value.int .i64 (v % 65536)], .int .i64 0]) = .returned (.tuple #[(dec v).r, .int .i64 (decE v)])) := (show _ = _ by rw [← HC.1, ← HC.2, if_pos ⟨rfl, rfl⟩, if_pos ⟨rfl, rfl⟩, ← HRR.out]; rfl)
      clear HC
      go_wp2_with (first | (refine wpList_store_st rfl 85 _ _ rfl W.heap.size _ rfl rfl CZ5.out size57 rfl rfl ?_; intro w6 hc6 hb6 hs6))
      exact ret_st2 rfl rfl W.heap.size _ rfl hc6 Tryz.underlying85 rfl size57 ⟨HV.out, B5.out.trans (hb6.below (Nat.le_refl _) B5.out.size)⟩
    · have HV : Hid (Ending.returned (.tuple #[.agg ([.int .i64 0, .int .i64 0, .int .i64 0, .int .i64 0, .int .i64 0, .int .i64 0] : List Value).toArray, .int .i64 50]) = .returned (.tuple #[(dec w).r, .int .i64 (decE w)])) := (show _ = _ by rw [← HC.1, ← HC.2, if_neg (fun h => hv h.2), if_neg (fun h => hv h.2)]; rfl)
      have hv' : (v != w) = true := by simpa using hv
      clear HC hv
      go_wp2_with (first | (refine wpList_store_st rfl 85 _ _ rfl W.heap.size _ rfl rfl CZ5.out size57 rfl rfl ?_; intro w6 hc6 hb6 hs6))
      exact ret_st2 rfl rfl W.heap.size _ rfl hc6 Tryz.underlying85 rfl size57 ⟨HV.out, B5.out.trans (hb6.below (Nat.le_refl _) B5.out.size)⟩
  · have HV : Hid (Ending.returned (.tuple #[.agg ([.int .i64 0, .int .i64 0, .int .i64 0, .int .i64 0, .int .i64 0, .int .i64 0] : List Value).toArray, .int .i64 50]) = .returned (.tuple #[(dec w).r, .int .i64 (decE w)])) := (show _ = _ by rw [← HC.1, ← HC.2, if_neg (fun h => he h.1), if_neg (fun h => he h.1)]; rfl)
    have he' : (e != 0) = true := by simpa using he
    clear HC he
    go_wp2_with (first | (refine wpList_store_st rfl 85 _ _ rfl W.heap.size _ rfl rfl CZ5.out size57 rfl rfl ?_; intro w6 hc6 hb6 hs6))
    exact ret_st2 rfl rfl W.heap.size _ rfl hc6 Tryz.underlying85 rfl size57 ⟨HV.out, B5.out.trans (hb6.below (Nat.le_refl _) B5.out.size)⟩

set_option maxRecDepth 20000 in
set_option maxHeartbeats 2000000 in
theorem rdecode_4n (W : World) (hR : RShapes W) (hW : 3 < W.heap.size) (w : Int) (w0 : 0 ≤ w) (w1 : w < 4294967296) (s : ByteArray) (hL : ltr (shpI (M.Fld w 26 6)) = [97, 115]) (hm : 32768 ≤ w % 65536)
    (HS : ∀ x, Below W.heap.size W x → Calls Tryz.prog 59 #[.int .i64 (w / 67108864)] x fun e W' => e = .returned (.string s) ∧ x = W') (C97 : ∀ x, Calls Tryz.prog 60 #[.string s, .int .u8 97] x fun e W' => e = .returned (.bool true) ∧ x = W') (C107 : ∀ x, Calls Tryz.prog 60 #[.string s, .int .u8 107] x fun e W' => e = .returned (.bool false) ∧ x = W') (C98 : ∀ x, Calls Tryz.prog 60 #[.string s, .int .u8 98] x fun e W' => e = .returned (.bool false) ∧ x = W') (C99 : ∀ x, Calls Tryz.prog 60 #[.string s, .int .u8 99] x fun e W' => e = .returned (.bool false) ∧ x = W') (C117 : ∀ x, Calls Tryz.prog 60 #[.string s, .int .u8 117] x fun e W' => e = .returned (.bool false) ∧ x = W') (C115 : ∀ x, Calls Tryz.prog 60 #[.string s, .int .u8 115] x fun e W' => e = .returned (.bool true) ∧ x = W') (C111 : ∀ x, Calls Tryz.prog 60 #[.string s, .int .u8 111] x fun e W' => e = .returned (.bool false) ∧ x = W') :
    Calls Tryz.prog 29 #[.int .u32 w] W fun e W' => e = .returned (.tuple #[(dec w).r, .int .i64 (decE w)]) ∧ Below W.heap.size W W' := by
  have HS' : Hid (∀ x, Below W.heap.size W x → Calls Tryz.prog 59 #[.int .i64 (w / 67108864)] x fun e W' => e = .returned (.string s) ∧ x = W') := HS
  have H97 : Hid (∀ x, Calls Tryz.prog 60 #[.string s, .int .u8 97] x fun e W' => e = .returned (.bool true) ∧ x = W') := C97
  have H107 : Hid (∀ x, Calls Tryz.prog 60 #[.string s, .int .u8 107] x fun e W' => e = .returned (.bool false) ∧ x = W') := C107
  have H98 : Hid (∀ x, Calls Tryz.prog 60 #[.string s, .int .u8 98] x fun e W' => e = .returned (.bool false) ∧ x = W') := C98
  have H99 : Hid (∀ x, Calls Tryz.prog 60 #[.string s, .int .u8 99] x fun e W' => e = .returned (.bool false) ∧ x = W') := C99
  have H117 : Hid (∀ x, Calls Tryz.prog 60 #[.string s, .int .u8 117] x fun e W' => e = .returned (.bool false) ∧ x = W') := C117
  have H115 : Hid (∀ x, Calls Tryz.prog 60 #[.string s, .int .u8 115] x fun e W' => e = .returned (.bool true) ∧ x = W') := C115
  have H111 : Hid (∀ x, Calls Tryz.prog 60 #[.string s, .int .u8 111] x fun e W' => e = .returned (.bool false) ∧ x = W') := C111
  have hq : (Ins.mk (w / 67108864) 0 (w / 4194304 % 16) 0 0 (w % 65536 - 65536)) = decI w := by
    rw [decI, hL]
    simp [decL, fl, rd, Ins.put, M.Ext, M.Fld]
    try ((repeat' apply And.intro) <;> (first | omega | (split <;> omega)))
  have HT : Hid (∀ x, Below W.heap.size W x → RShapes x ∧ 3 < x.heap.size) := fun x hb => ⟨hR.below hb (by omega), by have := hb.size; omega⟩
  have HQ : Hid ((Ins.mk (w / 67108864) 0 (w / 4194304 % 16) 0 0 (w % 65536 - 65536)) = decI w) := hq
  clear HS C97 C107 C98 C99 C117 C115 C111 hL hR hW hq
  go_enter Tryz.func29, Tryz.ntmps29
  go_wp2_with (go_at_call 59; refine (HS'.out _ (below_two _ _ _)).mono ?_; rintro e w1 ⟨rfl, rfl⟩)
  refine (H97.out _).mono ?_
  rintro e w9 ⟨rfl, rfl⟩
  go_wp2_with fail
  refine (H107.out _).mono ?_
  rintro e w9 ⟨rfl, rfl⟩
  go_wp2_with fail
  refine (H98.out _).mono ?_
  rintro e w9 ⟨rfl, rfl⟩
  go_wp2_with fail
  refine (H99.out _).mono ?_
  rintro e w9 ⟨rfl, rfl⟩
  go_wp2_with fail
  refine (H117.out _).mono ?_
  rintro e w9 ⟨rfl, rfl⟩
  go_wp2_with fail
  refine (H115.out _).mono ?_
  rintro e w9 ⟨rfl, rfl⟩
  go_wp2_with fail
  have HX : Hid (Below W.heap.size W ((W.alloc (Obj.cells #[Value.int .i64 0, Value.int .i64 0, Value.int .i64 0, Value.int .i64 0, Value.int .i64 0, Value.int .i64 0] 85)).alloc (Obj.cells #[Value.int .i64 (w / 67108864), Value.int .i64 0, Value.int .i64 (w / 4194304 % 16), Value.int .i64 0, Value.int .i64 0, Value.int .i64 (w % 65536 - 65536)] 85)) ∧ Cel ((W.alloc (Obj.cells #[Value.int .i64 0, Value.int .i64 0, Value.int .i64 0, Value.int .i64 0, Value.int .i64 0, Value.int .i64 0] 85)).alloc (Obj.cells #[Value.int .i64 (w / 67108864), Value.int .i64 0, Value.int .i64 (w / 4194304 % 16), Value.int .i64 0, Value.int .i64 0, Value.int .i64 (w % 65536 - 65536)] 85)) W.heap.size 85 [.int .i64 0, .int .i64 0, .int .i64 0, .int .i64 0, .int .i64 0, .int .i64 0] ∧ Cel ((W.alloc (Obj.cells #[Value.int .i64 0, Value.int .i64 0, Value.int .i64 0, Value.int .i64 0, Value.int .i64 0, Value.int .i64 0] 85)).alloc (Obj.cells #[Value.int .i64 (w / 67108864), Value.int .i64 0, Value.int .i64 (w / 4194304 % 16), Value.int .i64 0, Value.int .i64 0, Value.int .i64 (w % 65536 - 65536)] 85)) (W.heap.size + 1) 85 (Ins.mk (w / 67108864) 0 (w / 4194304 % 16) 0 0 (w % 65536 - 65536)).rs) := rd_world W _ _ _ _ _ _
  have I0 : (-2147483648 : Int) ≤ w % 65536 - 65536 ∧ (w % 65536 - 65536 : Int) < 2147483648 := by omega
  generalize ((W.alloc (Obj.cells #[Value.int .i64 0, Value.int .i64 0, Value.int .i64 0, Value.int .i64 0, Value.int .i64 0, Value.int .i64 0] 85)).alloc (Obj.cells #[Value.int .i64 (w / 67108864), Value.int .i64 0, Value.int .i64 (w / 4194304 % 16), Value.int .i64 0, Value.int .i64 0, Value.int .i64 (w % 65536 - 65536)] 85)) = X at *
  obtain ⟨R, hRR⟩ : ∃ R, (Ins.mk (w / 67108864) 0 (w / 4194304 % 16) 0 0 (w % 65536 - 65536)) = R := ⟨_, rfl⟩
  rw [hRR] at HQ HX
  have HE := rencode_any X (HT.out X HX.out.1).1 (HT.out X HX.out.1).2 (w / 67108864) 0 (w / 4194304 % 16) 0 0 (w % 65536 - 65536) I0.1 I0.2
  rw [hRR] at HE
  have HC := dec_cases w R HQ.out (enc R) (chk R) rfl rfl
  generalize enc R = v at *
  generalize chk R = e at *
  have HE' : Hid (Calls Tryz.prog 61 #[.agg #[Value.int .i64 (w / 67108864), Value.int .i64 0, Value.int .i64 (w / 4194304 % 16), Value.int .i64 0, Value.int .i64 0, Value.int .i64 (w % 65536 - 65536)]] X fun r W' => r = .returned (.tuple #[.int .u32 v, .int .i64 e]) ∧ Below X.heap.size X W') := HE
  clear HE I0
  refine HE'.out.mono ?_
  rintro r w5 ⟨rfl, hb5⟩
  have CZ5 : Hid (Cel w5 W.heap.size 85 [.int .i64 0, .int .i64 0, .int .i64 0, .int .i64 0, .int .i64 0, .int .i64 0]) := HX.out.2.1.on hb5
  have CD5 : Hid (Cel w5 (W.heap.size + 1) 85 R.rs) := HX.out.2.2.on hb5
  have B5 : Hid (Below W.heap.size W w5) := below_on HX.out.1 hb5
  have y0 : w5.cell? ⟨W.heap.size + 1, 0, none⟩ = some (.int .i64 (w / 67108864)) := by have := CD5.out.cell 0; rw [← hRR] at this; exact this
  have y1 : w5.cell? ⟨W.heap.size + 1, 1, none⟩ = some (.int .i64 0) := by have := CD5.out.cell 1; rw [← hRR] at this; exact this
  have y2 : w5.cell? ⟨W.heap.size + 1, 2, none⟩ = some (.int .i64 (w / 4194304 % 16)) := by have := CD5.out.cell 2; rw [← hRR] at this; exact this
  have y3 : w5.cell? ⟨W.heap.size + 1, 3, none⟩ = some (.int .i64 0) := by have := CD5.out.cell 3; rw [← hRR] at this; exact this
  have y4 : w5.cell? ⟨W.heap.size + 1, 4, none⟩ = some (.int .i64 0) := by have := CD5.out.cell 4; rw [← hRR] at this; exact this
  have y5 : w5.cell? ⟨W.heap.size + 1, 5, none⟩ = some (.int .i64 (w % 65536 - 65536)) := by have := CD5.out.cell 5; rw [← hRR] at this; exact this
  have HRR : Hid ((Ins.mk (w / 67108864) 0 (w / 4194304 % 16) 0 0 (w % 65536 - 65536)) = R) := hRR
  clear hRR hb5 HX HE'
  by_cases he : e = 0
  · subst he
    by_cases hv : v = w
    · subst hv
      have HV : Hid (Ending.returned (.tuple #[.agg #[Value.int .i64 (v / 67108864), Value.int .i64 0, Value.int .i64 (v / 4194304 % 16), Value.int .i64 0, Value.int .i64 0, Value.int .i64 (v % 65536 - 65536)], .int .i64 0]) = .returned (.tuple #[(dec v).r, .int .i64 (decE v)])) := (show _ = _ by rw [← HC.1, ← HC.2, if_pos ⟨rfl, rfl⟩, if_pos ⟨rfl, rfl⟩, ← HRR.out]; rfl)
      clear HC
      go_wp2_with (first | (refine wpList_store_st rfl 85 _ _ rfl W.heap.size _ rfl rfl CZ5.out size57 rfl rfl ?_; intro w6 hc6 hb6 hs6))
      exact ret_st2 rfl rfl W.heap.size _ rfl hc6 Tryz.underlying85 rfl size57 ⟨HV.out, B5.out.trans (hb6.below (Nat.le_refl _) B5.out.size)⟩
    · have HV : Hid (Ending.returned (.tuple #[.agg ([.int .i64 0, .int .i64 0, .int .i64 0, .int .i64 0, .int .i64 0, .int .i64 0] : List Value).toArray, .int .i64 50]) = .returned (.tuple #[(dec w).r, .int .i64 (decE w)])) := (show _ = _ by rw [← HC.1, ← HC.2, if_neg (fun h => hv h.2), if_neg (fun h => hv h.2)]; rfl)
      have hv' : (v != w) = true := by simpa using hv
      clear HC hv
      go_wp2_with (first | (refine wpList_store_st rfl 85 _ _ rfl W.heap.size _ rfl rfl CZ5.out size57 rfl rfl ?_; intro w6 hc6 hb6 hs6))
      exact ret_st2 rfl rfl W.heap.size _ rfl hc6 Tryz.underlying85 rfl size57 ⟨HV.out, B5.out.trans (hb6.below (Nat.le_refl _) B5.out.size)⟩
  · have HV : Hid (Ending.returned (.tuple #[.agg ([.int .i64 0, .int .i64 0, .int .i64 0, .int .i64 0, .int .i64 0, .int .i64 0] : List Value).toArray, .int .i64 50]) = .returned (.tuple #[(dec w).r, .int .i64 (decE w)])) := (show _ = _ by rw [← HC.1, ← HC.2, if_neg (fun h => he h.1), if_neg (fun h => he h.1)]; rfl)
    have he' : (e != 0) = true := by simpa using he
    clear HC he
    go_wp2_with (first | (refine wpList_store_st rfl 85 _ _ rfl W.heap.size _ rfl rfl CZ5.out size57 rfl rfl ?_; intro w6 hc6 hb6 hs6))
    exact ret_st2 rfl rfl W.heap.size _ rfl hc6 Tryz.underlying85 rfl size57 ⟨HV.out, B5.out.trans (hb6.below (Nat.le_refl _) B5.out.size)⟩

set_option maxRecDepth 20000 in
set_option maxHeartbeats 2000000 in
theorem rdecode_5 (W : World) (hR : RShapes W) (hW : 3 < W.heap.size) (w : Int) (w0 : 0 ≤ w) (w1 : w < 4294967296) (s : ByteArray) (hL : ltr (shpI (M.Fld w 26 6)) = [107, 111]) (hm : w % 65536 < 32768)
    (HS : ∀ x, Below W.heap.size W x → Calls Tryz.prog 59 #[.int .i64 (w / 67108864)] x fun e W' => e = .returned (.string s) ∧ x = W') (C97 : ∀ x, Calls Tryz.prog 60 #[.string s, .int .u8 97] x fun e W' => e = .returned (.bool false) ∧ x = W') (C107 : ∀ x, Calls Tryz.prog 60 #[.string s, .int .u8 107] x fun e W' => e = .returned (.bool true) ∧ x = W') (C98 : ∀ x, Calls Tryz.prog 60 #[.string s, .int .u8 98] x fun e W' => e = .returned (.bool false) ∧ x = W') (C99 : ∀ x, Calls Tryz.prog 60 #[.string s, .int .u8 99] x fun e W' => e = .returned (.bool false) ∧ x = W') (C117 : ∀ x, Calls Tryz.prog 60 #[.string s, .int .u8 117] x fun e W' => e = .returned (.bool false) ∧ x = W') (C115 : ∀ x, Calls Tryz.prog 60 #[.string s, .int .u8 115] x fun e W' => e = .returned (.bool false) ∧ x = W') (C111 : ∀ x, Calls Tryz.prog 60 #[.string s, .int .u8 111] x fun e W' => e = .returned (.bool true) ∧ x = W') :
    Calls Tryz.prog 29 #[.int .u32 w] W fun e W' => e = .returned (.tuple #[(dec w).r, .int .i64 (decE w)]) ∧ Below W.heap.size W W' := by
  have HS' : Hid (∀ x, Below W.heap.size W x → Calls Tryz.prog 59 #[.int .i64 (w / 67108864)] x fun e W' => e = .returned (.string s) ∧ x = W') := HS
  have H97 : Hid (∀ x, Calls Tryz.prog 60 #[.string s, .int .u8 97] x fun e W' => e = .returned (.bool false) ∧ x = W') := C97
  have H107 : Hid (∀ x, Calls Tryz.prog 60 #[.string s, .int .u8 107] x fun e W' => e = .returned (.bool true) ∧ x = W') := C107
  have H98 : Hid (∀ x, Calls Tryz.prog 60 #[.string s, .int .u8 98] x fun e W' => e = .returned (.bool false) ∧ x = W') := C98
  have H99 : Hid (∀ x, Calls Tryz.prog 60 #[.string s, .int .u8 99] x fun e W' => e = .returned (.bool false) ∧ x = W') := C99
  have H117 : Hid (∀ x, Calls Tryz.prog 60 #[.string s, .int .u8 117] x fun e W' => e = .returned (.bool false) ∧ x = W') := C117
  have H115 : Hid (∀ x, Calls Tryz.prog 60 #[.string s, .int .u8 115] x fun e W' => e = .returned (.bool false) ∧ x = W') := C115
  have H111 : Hid (∀ x, Calls Tryz.prog 60 #[.string s, .int .u8 111] x fun e W' => e = .returned (.bool true) ∧ x = W') := C111
  have hq : (Ins.mk (w / 67108864) (w / 4194304 % 8) 0 0 0 (w % 65536)) = decI w := by
    rw [decI, hL]
    simp [decL, fl, rd, Ins.put, M.Ext, M.Fld]
    try ((repeat' apply And.intro) <;> (first | omega | (split <;> omega)))
  have HT : Hid (∀ x, Below W.heap.size W x → RShapes x ∧ 3 < x.heap.size) := fun x hb => ⟨hR.below hb (by omega), by have := hb.size; omega⟩
  have HQ : Hid ((Ins.mk (w / 67108864) (w / 4194304 % 8) 0 0 0 (w % 65536)) = decI w) := hq
  clear HS C97 C107 C98 C99 C117 C115 C111 hL hR hW hq
  go_enter Tryz.func29, Tryz.ntmps29
  go_wp2_with (go_at_call 59; refine (HS'.out _ (below_two _ _ _)).mono ?_; rintro e w1 ⟨rfl, rfl⟩)
  refine (H97.out _).mono ?_
  rintro e w9 ⟨rfl, rfl⟩
  go_wp2_with fail
  refine (H107.out _).mono ?_
  rintro e w9 ⟨rfl, rfl⟩
  go_wp2_with fail
  refine (H98.out _).mono ?_
  rintro e w9 ⟨rfl, rfl⟩
  go_wp2_with fail
  refine (H99.out _).mono ?_
  rintro e w9 ⟨rfl, rfl⟩
  go_wp2_with fail
  refine (H117.out _).mono ?_
  rintro e w9 ⟨rfl, rfl⟩
  go_wp2_with fail
  refine (H115.out _).mono ?_
  rintro e w9 ⟨rfl, rfl⟩
  go_wp2_with fail
  refine (H111.out _).mono ?_
  rintro e w9 ⟨rfl, rfl⟩
  go_wp2_with fail
  have HX : Hid (Below W.heap.size W ((W.alloc (Obj.cells #[Value.int .i64 0, Value.int .i64 0, Value.int .i64 0, Value.int .i64 0, Value.int .i64 0, Value.int .i64 0] 85)).alloc (Obj.cells #[Value.int .i64 (w / 67108864), Value.int .i64 (w / 4194304 % 8), Value.int .i64 0, Value.int .i64 0, Value.int .i64 0, Value.int .i64 (w % 65536)] 85)) ∧ Cel ((W.alloc (Obj.cells #[Value.int .i64 0, Value.int .i64 0, Value.int .i64 0, Value.int .i64 0, Value.int .i64 0, Value.int .i64 0] 85)).alloc (Obj.cells #[Value.int .i64 (w / 67108864), Value.int .i64 (w / 4194304 % 8), Value.int .i64 0, Value.int .i64 0, Value.int .i64 0, Value.int .i64 (w % 65536)] 85)) W.heap.size 85 [.int .i64 0, .int .i64 0, .int .i64 0, .int .i64 0, .int .i64 0, .int .i64 0] ∧ Cel ((W.alloc (Obj.cells #[Value.int .i64 0, Value.int .i64 0, Value.int .i64 0, Value.int .i64 0, Value.int .i64 0, Value.int .i64 0] 85)).alloc (Obj.cells #[Value.int .i64 (w / 67108864), Value.int .i64 (w / 4194304 % 8), Value.int .i64 0, Value.int .i64 0, Value.int .i64 0, Value.int .i64 (w % 65536)] 85)) (W.heap.size + 1) 85 (Ins.mk (w / 67108864) (w / 4194304 % 8) 0 0 0 (w % 65536)).rs) := rd_world W _ _ _ _ _ _
  have I0 : (-2147483648 : Int) ≤ w % 65536 ∧ (w % 65536 : Int) < 2147483648 := by omega
  generalize ((W.alloc (Obj.cells #[Value.int .i64 0, Value.int .i64 0, Value.int .i64 0, Value.int .i64 0, Value.int .i64 0, Value.int .i64 0] 85)).alloc (Obj.cells #[Value.int .i64 (w / 67108864), Value.int .i64 (w / 4194304 % 8), Value.int .i64 0, Value.int .i64 0, Value.int .i64 0, Value.int .i64 (w % 65536)] 85)) = X at *
  obtain ⟨R, hRR⟩ : ∃ R, (Ins.mk (w / 67108864) (w / 4194304 % 8) 0 0 0 (w % 65536)) = R := ⟨_, rfl⟩
  rw [hRR] at HQ HX
  have HE := rencode_any X (HT.out X HX.out.1).1 (HT.out X HX.out.1).2 (w / 67108864) (w / 4194304 % 8) 0 0 0 (w % 65536) I0.1 I0.2
  rw [hRR] at HE
  have HC := dec_cases w R HQ.out (enc R) (chk R) rfl rfl
  generalize enc R = v at *
  generalize chk R = e at *
  have HE' : Hid (Calls Tryz.prog 61 #[.agg #[Value.int .i64 (w / 67108864), Value.int .i64 (w / 4194304 % 8), Value.int .i64 0, Value.int .i64 0, Value.int .i64 0, Value.int .i64 (w % 65536)]] X fun r W' => r = .returned (.tuple #[.int .u32 v, .int .i64 e]) ∧ Below X.heap.size X W') := HE
  clear HE I0
  refine HE'.out.mono ?_
  rintro r w5 ⟨rfl, hb5⟩
  have CZ5 : Hid (Cel w5 W.heap.size 85 [.int .i64 0, .int .i64 0, .int .i64 0, .int .i64 0, .int .i64 0, .int .i64 0]) := HX.out.2.1.on hb5
  have CD5 : Hid (Cel w5 (W.heap.size + 1) 85 R.rs) := HX.out.2.2.on hb5
  have B5 : Hid (Below W.heap.size W w5) := below_on HX.out.1 hb5
  have y0 : w5.cell? ⟨W.heap.size + 1, 0, none⟩ = some (.int .i64 (w / 67108864)) := by have := CD5.out.cell 0; rw [← hRR] at this; exact this
  have y1 : w5.cell? ⟨W.heap.size + 1, 1, none⟩ = some (.int .i64 (w / 4194304 % 8)) := by have := CD5.out.cell 1; rw [← hRR] at this; exact this
  have y2 : w5.cell? ⟨W.heap.size + 1, 2, none⟩ = some (.int .i64 0) := by have := CD5.out.cell 2; rw [← hRR] at this; exact this
  have y3 : w5.cell? ⟨W.heap.size + 1, 3, none⟩ = some (.int .i64 0) := by have := CD5.out.cell 3; rw [← hRR] at this; exact this
  have y4 : w5.cell? ⟨W.heap.size + 1, 4, none⟩ = some (.int .i64 0) := by have := CD5.out.cell 4; rw [← hRR] at this; exact this
  have y5 : w5.cell? ⟨W.heap.size + 1, 5, none⟩ = some (.int .i64 (w % 65536)) := by have := CD5.out.cell 5; rw [← hRR] at this; exact this
  have HRR : Hid ((Ins.mk (w / 67108864) (w / 4194304 % 8) 0 0 0 (w % 65536)) = R) := hRR
  clear hRR hb5 HX HE'
  by_cases he : e = 0
  · subst he
    by_cases hv : v = w
    · subst hv
      have HV : Hid (Ending.returned (.tuple #[.agg #[Value.int .i64 (v / 67108864), Value.int .i64 (v / 4194304 % 8), Value.int .i64 0, Value.int .i64 0, Value.int .i64 0, Value.int .i64 (v % 65536)], .int .i64 0]) = .returned (.tuple #[(dec v).r, .int .i64 (decE v)])) := (show _ = _ by rw [← HC.1, ← HC.2, if_pos ⟨rfl, rfl⟩, if_pos ⟨rfl, rfl⟩, ← HRR.out]; rfl)
      clear HC
      go_wp2_with (first | (refine wpList_store_st rfl 85 _ _ rfl W.heap.size _ rfl rfl CZ5.out size57 rfl rfl ?_; intro w6 hc6 hb6 hs6))
      exact ret_st2 rfl rfl W.heap.size _ rfl hc6 Tryz.underlying85 rfl size57 ⟨HV.out, B5.out.trans (hb6.below (Nat.le_refl _) B5.out.size)⟩
    · have HV : Hid (Ending.returned (.tuple #[.agg ([.int .i64 0, .int .i64 0, .int .i64 0, .int .i64 0, .int .i64 0, .int .i64 0] : List Value).toArray, .int .i64 50]) = .returned (.tuple #[(dec w).r, .int .i64 (decE w)])) := (show _ = _ by rw [← HC.1, ← HC.2, if_neg (fun h => hv h.2), if_neg (fun h => hv h.2)]; rfl)
      have hv' : (v != w) = true := by simpa using hv
      clear HC hv
      go_wp2_with (first | (refine wpList_store_st rfl 85 _ _ rfl W.heap.size _ rfl rfl CZ5.out size57 rfl rfl ?_; intro w6 hc6 hb6 hs6))
      exact ret_st2 rfl rfl W.heap.size _ rfl hc6 Tryz.underlying85 rfl size57 ⟨HV.out, B5.out.trans (hb6.below (Nat.le_refl _) B5.out.size)⟩
  · have HV : Hid (Ending.returned (.tuple #[.agg ([.int .i64 0, .int .i64 0, .int .i64 0, .int .i64 0, .int .i64 0, .int .i64 0] : List Value).toArray, .int .i64 50]) = .returned (.tuple #[(dec w).r, .int .i64 (decE w)])) := (show _ = _ by rw [← HC.1, ← HC.2, if_neg (fun h => he h.1), if_neg (fun h => he h.1)]; rfl)
    have he' : (e != 0) = true := by simpa using he
    clear HC he
    go_wp2_with (first | (refine wpList_store_st rfl 85 _ _ rfl W.heap.size _ rfl rfl CZ5.out size57 rfl rfl ?_; intro w6 hc6 hb6 hs6))
    exact ret_st2 rfl rfl W.heap.size _ rfl hc6 Tryz.underlying85 rfl size57 ⟨HV.out, B5.out.trans (hb6.below (Nat.le_refl _) B5.out.size)⟩

set_option maxRecDepth 20000 in
set_option maxHeartbeats 2000000 in
theorem rdecode_5n (W : World) (hR : RShapes W) (hW : 3 < W.heap.size) (w : Int) (w0 : 0 ≤ w) (w1 : w < 4294967296) (s : ByteArray) (hL : ltr (shpI (M.Fld w 26 6)) = [107, 111]) (hm : 32768 ≤ w % 65536)
    (HS : ∀ x, Below W.heap.size W x → Calls Tryz.prog 59 #[.int .i64 (w / 67108864)] x fun e W' => e = .returned (.string s) ∧ x = W') (C97 : ∀ x, Calls Tryz.prog 60 #[.string s, .int .u8 97] x fun e W' => e = .returned (.bool false) ∧ x = W') (C107 : ∀ x, Calls Tryz.prog 60 #[.string s, .int .u8 107] x fun e W' => e = .returned (.bool true) ∧ x = W') (C98 : ∀ x, Calls Tryz.prog 60 #[.string s, .int .u8 98] x fun e W' => e = .returned (.bool false) ∧ x = W') (C99 : ∀ x, Calls Tryz.prog 60 #[.string s, .int .u8 99] x fun e W' => e = .returned (.bool false) ∧ x = W') (C117 : ∀ x, Calls Tryz.prog 60 #[.string s, .int .u8 117] x fun e W' => e = .returned (.bool false) ∧ x = W') (C115 : ∀ x, Calls Tryz.prog 60 #[.string s, .int .u8 115] x fun e W' => e = .returned (.bool false) ∧ x = W') (C111 : ∀ x, Calls Tryz.prog 60 #[.string s, .int .u8 111] x fun e W' => e = .returned (.bool true) ∧ x = W') :
    Calls Tryz.prog 29 #[.int .u32 w] W fun e W' => e = .returned (.tuple #[(dec w).r, .int .i64 (decE w)]) ∧ Below W.heap.size W W' := by
  have HS' : Hid (∀ x, Below W.heap.size W x → Calls Tryz.prog 59 #[.int .i64 (w / 67108864)] x fun e W' => e = .returned (.string s) ∧ x = W') := HS
  have H97 : Hid (∀ x, Calls Tryz.prog 60 #[.string s, .int .u8 97] x fun e W' => e = .returned (.bool false) ∧ x = W') := C97
  have H107 : Hid (∀ x, Calls Tryz.prog 60 #[.string s, .int .u8 107] x fun e W' => e = .returned (.bool true) ∧ x = W') := C107
  have H98 : Hid (∀ x, Calls Tryz.prog 60 #[.string s, .int .u8 98] x fun e W' => e = .returned (.bool false) ∧ x = W') := C98
  have H99 : Hid (∀ x, Calls Tryz.prog 60 #[.string s, .int .u8 99] x fun e W' => e = .returned (.bool false) ∧ x = W') := C99
  have H117 : Hid (∀ x, Calls Tryz.prog 60 #[.string s, .int .u8 117] x fun e W' => e = .returned (.bool false) ∧ x = W') := C117
  have H115 : Hid (∀ x, Calls Tryz.prog 60 #[.string s, .int .u8 115] x fun e W' => e = .returned (.bool false) ∧ x = W') := C115
  have H111 : Hid (∀ x, Calls Tryz.prog 60 #[.string s, .int .u8 111] x fun e W' => e = .returned (.bool true) ∧ x = W') := C111
  have hq : (Ins.mk (w / 67108864) (w / 4194304 % 8) 0 0 0 (w % 65536 - 65536)) = decI w := by
    rw [decI, hL]
    simp [decL, fl, rd, Ins.put, M.Ext, M.Fld]
    try ((repeat' apply And.intro) <;> (first | omega | (split <;> omega)))
  have HT : Hid (∀ x, Below W.heap.size W x → RShapes x ∧ 3 < x.heap.size) := fun x hb => ⟨hR.below hb (by omega), by have := hb.size; omega⟩
  have HQ : Hid ((Ins.mk (w / 67108864) (w / 4194304 % 8) 0 0 0 (w % 65536 - 65536)) = decI w) := hq
  clear HS C97 C107 C98 C99 C117 C115 C111 hL hR hW hq
  go_enter Tryz.func29, Tryz.ntmps29
  go_wp2_with (go_at_call 59; refine (HS'.out _ (below_two _ _ _)).mono ?_; rintro e w1 ⟨rfl, rfl⟩)
  refine (H97.out _).mono ?_
  rintro e w9 ⟨rfl, rfl⟩
  go_wp2_with fail
  refine (H107.out _).mono ?_
  rintro e w9 ⟨rfl, rfl⟩
  go_wp2_with fail
  refine (H98.out _).mono ?_
  rintro e w9 ⟨rfl, rfl⟩
  go_wp2_with fail
  refine (H99.out _).mono ?_
  rintro e w9 ⟨rfl, rfl⟩
  go_wp2_with fail
  refine (H117.out _).mono ?_
  rintro e w9 ⟨rfl, rfl⟩
  go_wp2_with fail
  refine (H115.out _).mono ?_
  rintro e w9 ⟨rfl, rfl⟩
  go_wp2_with fail
  refine (H111.out _).mono ?_
  rintro e w9 ⟨rfl, rfl⟩
  go_wp2_with fail
  have HX : Hid (Below W.heap.size W ((W.alloc (Obj.cells #[Value.int .i64 0, Value.int .i64 0, Value.int .i64 0, Value.int .i64 0, Value.int .i64 0, Value.int .i64 0] 85)).alloc (Obj.cells #[Value.int .i64 (w / 67108864), Value.int .i64 (w / 4194304 % 8), Value.int .i64 0, Value.int .i64 0, Value.int .i64 0, Value.int .i64 (w % 65536 - 65536)] 85)) ∧ Cel ((W.alloc (Obj.cells #[Value.int .i64 0, Value.int .i64 0, Value.int .i64 0, Value.int .i64 0, Value.int .i64 0, Value.int .i64 0] 85)).alloc (Obj.cells #[Value.int .i64 (w / 67108864), Value.int .i64 (w / 4194304 % 8), Value.int .i64 0, Value.int .i64 0, Value.int .i64 0, Value.int .i64 (w % 65536 - 65536)] 85)) W.heap.size 85 [.int .i64 0, .int .i64 0, .int .i64 0, .int .i64 0, .int .i64 0, .int .i64 0] ∧ Cel ((W.alloc (Obj.cells #[Value.int .i64 0, Value.int .i64 0, Value.int .i64 0, Value.int .i64 0, Value.int .i64 0, Value.int .i64 0] 85)).alloc (Obj.cells #[Value.int .i64 (w / 67108864), Value.int .i64 (w / 4194304 % 8), Value.int .i64 0, Value.int .i64 0, Value.int .i64 0, Value.int .i64 (w % 65536 - 65536)] 85)) (W.heap.size + 1) 85 (Ins.mk (w / 67108864) (w / 4194304 % 8) 0 0 0 (w % 65536 - 65536)).rs) := rd_world W _ _ _ _ _ _
  have I0 : (-2147483648 : Int) ≤ w % 65536 - 65536 ∧ (w % 65536 - 65536 : Int) < 2147483648 := by omega
  generalize ((W.alloc (Obj.cells #[Value.int .i64 0, Value.int .i64 0, Value.int .i64 0, Value.int .i64 0, Value.int .i64 0, Value.int .i64 0] 85)).alloc (Obj.cells #[Value.int .i64 (w / 67108864), Value.int .i64 (w / 4194304 % 8), Value.int .i64 0, Value.int .i64 0, Value.int .i64 0, Value.int .i64 (w % 65536 - 65536)] 85)) = X at *
  obtain ⟨R, hRR⟩ : ∃ R, (Ins.mk (w / 67108864) (w / 4194304 % 8) 0 0 0 (w % 65536 - 65536)) = R := ⟨_, rfl⟩
  rw [hRR] at HQ HX
  have HE := rencode_any X (HT.out X HX.out.1).1 (HT.out X HX.out.1).2 (w / 67108864) (w / 4194304 % 8) 0 0 0 (w % 65536 - 65536) I0.1 I0.2
  rw [hRR] at HE
  have HC := dec_cases w R HQ.out (enc R) (chk R) rfl rfl
  generalize enc R = v at *
  generalize chk R = e at *
  have HE' : Hid (Calls Tryz.prog 61 #[.agg #[Value.int .i64 (w / 67108864), Value.int .i64 (w / 4194304 % 8), Value.int .i64 0, Value.int .i64 0, Value.int .i64 0, Value.int .i64 (w % 65536 - 65536)]] X fun r W' => r = .returned (.tuple #[.int .u32 v, .int .i64 e]) ∧ Below X.heap.size X W') := HE
  clear HE I0
  refine HE'.out.mono ?_
  rintro r w5 ⟨rfl, hb5⟩
  have CZ5 : Hid (Cel w5 W.heap.size 85 [.int .i64 0, .int .i64 0, .int .i64 0, .int .i64 0, .int .i64 0, .int .i64 0]) := HX.out.2.1.on hb5
  have CD5 : Hid (Cel w5 (W.heap.size + 1) 85 R.rs) := HX.out.2.2.on hb5
  have B5 : Hid (Below W.heap.size W w5) := below_on HX.out.1 hb5
  have y0 : w5.cell? ⟨W.heap.size + 1, 0, none⟩ = some (.int .i64 (w / 67108864)) := by have := CD5.out.cell 0; rw [← hRR] at this; exact this
  have y1 : w5.cell? ⟨W.heap.size + 1, 1, none⟩ = some (.int .i64 (w / 4194304 % 8)) := by have := CD5.out.cell 1; rw [← hRR] at this; exact this
  have y2 : w5.cell? ⟨W.heap.size + 1, 2, none⟩ = some (.int .i64 0) := by have := CD5.out.cell 2; rw [← hRR] at this; exact this
  have y3 : w5.cell? ⟨W.heap.size + 1, 3, none⟩ = some (.int .i64 0) := by have := CD5.out.cell 3; rw [← hRR] at this; exact this
  have y4 : w5.cell? ⟨W.heap.size + 1, 4, none⟩ = some (.int .i64 0) := by have := CD5.out.cell 4; rw [← hRR] at this; exact this
  have y5 : w5.cell? ⟨W.heap.size + 1, 5, none⟩ = some (.int .i64 (w % 65536 - 65536)) := by have := CD5.out.cell 5; rw [← hRR] at this; exact this
  have HRR : Hid ((Ins.mk (w / 67108864) (w / 4194304 % 8) 0 0 0 (w % 65536 - 65536)) = R) := hRR
  clear hRR hb5 HX HE'
  by_cases he : e = 0
  · subst he
    by_cases hv : v = w
    · subst hv
      have HV : Hid (Ending.returned (.tuple #[.agg #[Value.int .i64 (v / 67108864), Value.int .i64 (v / 4194304 % 8), Value.int .i64 0, Value.int .i64 0, Value.int .i64 0, Value.int .i64 (v % 65536 - 65536)], .int .i64 0]) = .returned (.tuple #[(dec v).r, .int .i64 (decE v)])) := (show _ = _ by rw [← HC.1, ← HC.2, if_pos ⟨rfl, rfl⟩, if_pos ⟨rfl, rfl⟩, ← HRR.out]; rfl)
      clear HC
      go_wp2_with (first | (refine wpList_store_st rfl 85 _ _ rfl W.heap.size _ rfl rfl CZ5.out size57 rfl rfl ?_; intro w6 hc6 hb6 hs6))
      exact ret_st2 rfl rfl W.heap.size _ rfl hc6 Tryz.underlying85 rfl size57 ⟨HV.out, B5.out.trans (hb6.below (Nat.le_refl _) B5.out.size)⟩
    · have HV : Hid (Ending.returned (.tuple #[.agg ([.int .i64 0, .int .i64 0, .int .i64 0, .int .i64 0, .int .i64 0, .int .i64 0] : List Value).toArray, .int .i64 50]) = .returned (.tuple #[(dec w).r, .int .i64 (decE w)])) := (show _ = _ by rw [← HC.1, ← HC.2, if_neg (fun h => hv h.2), if_neg (fun h => hv h.2)]; rfl)
      have hv' : (v != w) = true := by simpa using hv
      clear HC hv
      go_wp2_with (first | (refine wpList_store_st rfl 85 _ _ rfl W.heap.size _ rfl rfl CZ5.out size57 rfl rfl ?_; intro w6 hc6 hb6 hs6))
      exact ret_st2 rfl rfl W.heap.size _ rfl hc6 Tryz.underlying85 rfl size57 ⟨HV.out, B5.out.trans (hb6.below (Nat.le_refl _) B5.out.size)⟩
  · have HV : Hid (Ending.returned (.tuple #[.agg ([.int .i64 0, .int .i64 0, .int .i64 0, .int .i64 0, .int .i64 0, .int .i64 0] : List Value).toArray, .int .i64 50]) = .returned (.tuple #[(dec w).r, .int .i64 (decE w)])) := (show _ = _ by rw [← HC.1, ← HC.2, if_neg (fun h => he h.1), if_neg (fun h => he h.1)]; rfl)
    have he' : (e != 0) = true := by simpa using he
    clear HC he
    go_wp2_with (first | (refine wpList_store_st rfl 85 _ _ rfl W.heap.size _ rfl rfl CZ5.out size57 rfl rfl ?_; intro w6 hc6 hb6 hs6))
    exact ret_st2 rfl rfl W.heap.size _ rfl hc6 Tryz.underlying85 rfl size57 ⟨HV.out, B5.out.trans (hb6.below (Nat.le_refl _) B5.out.size)⟩

set_option maxRecDepth 20000 in
set_option maxHeartbeats 2000000 in
theorem rdecode_6 (W : World) (hR : RShapes W) (hW : 3 < W.heap.size) (w : Int) (w0 : 0 ≤ w) (w1 : w < 4294967296) (s : ByteArray) (hL : ltr (shpI (M.Fld w 26 6)) = [111]) (hm : w % 65536 < 32768)
    (HS : ∀ x, Below W.heap.size W x → Calls Tryz.prog 59 #[.int .i64 (w / 67108864)] x fun e W' => e = .returned (.string s) ∧ x = W') (C97 : ∀ x, Calls Tryz.prog 60 #[.string s, .int .u8 97] x fun e W' => e = .returned (.bool false) ∧ x = W') (C107 : ∀ x, Calls Tryz.prog 60 #[.string s, .int .u8 107] x fun e W' => e = .returned (.bool false) ∧ x = W') (C98 : ∀ x, Calls Tryz.prog 60 #[.string s, .int .u8 98] x fun e W' => e = .returned (.bool false) ∧ x = W') (C99 : ∀ x, Calls Tryz.prog 60 #[.string s, .int .u8 99] x fun e W' => e = .returned (.bool false) ∧ x = W') (C117 : ∀ x, Calls Tryz.prog 60 #[.string s, .int .u8 117] x fun e W' => e = .returned (.bool false) ∧ x = W') (C115 : ∀ x, Calls Tryz.prog 60 #[.string s, .int .u8 115] x fun e W' => e = .returned (.bool false) ∧ x = W') (C111 : ∀ x, Calls Tryz.prog 60 #[.string s, .int .u8 111] x fun e W' => e = .returned (.bool true) ∧ x = W') :
    Calls Tryz.prog 29 #[.int .u32 w] W fun e W' => e = .returned (.tuple #[(dec w).r, .int .i64 (decE w)]) ∧ Below W.heap.size W W' := by
  have HS' : Hid (∀ x, Below W.heap.size W x → Calls Tryz.prog 59 #[.int .i64 (w / 67108864)] x fun e W' => e = .returned (.string s) ∧ x = W') := HS
  have H97 : Hid (∀ x, Calls Tryz.prog 60 #[.string s, .int .u8 97] x fun e W' => e = .returned (.bool false) ∧ x = W') := C97
  have H107 : Hid (∀ x, Calls Tryz.prog 60 #[.string s, .int .u8 107] x fun e W' => e = .returned (.bool false) ∧ x = W') := C107
  have H98 : Hid (∀ x, Calls Tryz.prog 60 #[.string s, .int .u8 98] x fun e W' => e = .returned (.bool false) ∧ x = W') := C98
  have H99 : Hid (∀ x, Calls Tryz.prog 60 #[.string s, .int .u8 99] x fun e W' => e = .returned (.bool false) ∧ x = W') := C99
  have H117 : Hid (∀ x, Calls Tryz.prog 60 #[.string s, .int .u8 117] x fun e W' => e = .returned (.bool false) ∧ x = W') := C117
  have H115 : Hid (∀ x, Calls Tryz.prog 60 #[.string s, .int .u8 115] x fun e W' => e = .returned (.bool false) ∧ x = W') := C115
  have H111 : Hid (∀ x, Calls Tryz.prog 60 #[.string s, .int .u8 111] x fun e W' => e = .returned (.bool true) ∧ x = W') := C111
  have hq : (Ins.mk (w / 67108864) 0 0 0 0 (w % 65536)) = decI w := by
    rw [decI, hL]
    simp [decL, fl, rd, Ins.put, M.Ext, M.Fld]
    try ((repeat' apply And.intro) <;> (first | omega | (split <;> omega)))
  have HT : Hid (∀ x, Below W.heap.size W x → RShapes x ∧ 3 < x.heap.size) := fun x hb => ⟨hR.below hb (by omega), by have := hb.size; omega⟩
  have HQ : Hid ((Ins.mk (w / 67108864) 0 0 0 0 (w % 65536)) = decI w) := hq
  clear HS C97 C107 C98 C99 C117 C115 C111 hL hR hW hq
  go_enter Tryz.func29, Tryz.ntmps29
  go_wp2_with (go_at_call 59; refine (HS'.out _ (below_two _ _ _)).mono ?_; rintro e w1 ⟨rfl, rfl⟩)
  refine (H97.out _).mono ?_
  rintro e w9 ⟨rfl, rfl⟩
  go_wp2_with fail
  refine (H107.out _).mono ?_
  rintro e w9 ⟨rfl, rfl⟩
  go_wp2_with fail
  refine (H98.out _).mono ?_
  rintro e w9 ⟨rfl, rfl⟩
  go_wp2_with fail
  refine (H99.out _).mono ?_
  rintro e w9 ⟨rfl, rfl⟩
  go_wp2_with fail
  refine (H117.out _).mono ?_
  rintro e w9 ⟨rfl, rfl⟩
  go_wp2_with fail
  refine (H115.out _).mono ?_
  rintro e w9 ⟨rfl, rfl⟩
  go_wp2_with fail
  refine (H111.out _).mono ?_
  rintro e w9 ⟨rfl, rfl⟩
  go_wp2_with fail
  have HX : Hid (Below W.heap.size W ((W.alloc (Obj.cells #[Value.int .i64 0, Value.int .i64 0, Value.int .i64 0, Value.int .i64 0, Value.int .i64 0, Value.int .i64 0] 85)).alloc (Obj.cells #[Value.int .i64 (w / 67108864), Value.int .i64 0, Value.int .i64 0, Value.int .i64 0, Value.int .i64 0, Value.int .i64 (w % 65536)] 85)) ∧ Cel ((W.alloc (Obj.cells #[Value.int .i64 0, Value.int .i64 0, Value.int .i64 0, Value.int .i64 0, Value.int .i64 0, Value.int .i64 0] 85)).alloc (Obj.cells #[Value.int .i64 (w / 67108864), Value.int .i64 0, Value.int .i64 0, Value.int .i64 0, Value.int .i64 0, Value.int .i64 (w % 65536)] 85)) W.heap.size 85 [.int .i64 0, .int .i64 0, .int .i64 0, .int .i64 0, .int .i64 0, .int .i64 0] ∧ Cel ((W.alloc (Obj.cells #[Value.int .i64 0, Value.int .i64 0, Value.int .i64 0, Value.int .i64 0, Value.int .i64 0, Value.int .i64 0] 85)).alloc (Obj.cells #[Value.int .i64 (w / 67108864), Value.int .i64 0, Value.int .i64 0, Value.int .i64 0, Value.int .i64 0, Value.int .i64 (w % 65536)] 85)) (W.heap.size + 1) 85 (Ins.mk (w / 67108864) 0 0 0 0 (w % 65536)).rs) := rd_world W _ _ _ _ _ _
  have I0 : (-2147483648 : Int) ≤ w % 65536 ∧ (w % 65536 : Int) < 2147483648 := by omega
  generalize ((W.alloc (Obj.cells #[Value.int .i64 0, Value.int .i64 0, Value.int .i64 0, Value.int .i64 0, Value.int .i64 0, Value.int .i64 0] 85)).alloc (Obj.cells #[Value.int .i64 (w / 67108864), Value.int .i64 0, Value.int .i64 0, Value.int .i64 0, Value.int .i64 0, Value.int .i64 (w % 65536)] 85)) = X at *
  obtain ⟨R, hRR⟩ : ∃ R, (Ins.mk (w / 67108864) 0 0 0 0 (w % 65536)) = R := ⟨_, rfl⟩
  rw [hRR] at HQ HX
  have HE := rencode_any X (HT.out X HX.out.1).1 (HT.out X HX.out.1).2 (w / 67108864) 0 0 0 0 (w % 65536) I0.1 I0.2
  rw [hRR] at HE
  have HC := dec_cases w R HQ.out (enc R) (chk R) rfl rfl
  generalize enc R = v at *
  generalize chk R = e at *
  have HE' : Hid (Calls Tryz.prog 61 #[.agg #[Value.int .i64 (w / 67108864), Value.int .i64 0, Value.int .i64 0, Value.int .i64 0, Value.int .i64 0, Value.int .i64 (w % 65536)]] X fun r W' => r = .returned (.tuple #[.int .u32 v, .int .i64 e]) ∧ Below X.heap.size X W') := HE
  clear HE I0
  refine HE'.out.mono ?_
  rintro r w5 ⟨rfl, hb5⟩
  have CZ5 : Hid (Cel w5 W.heap.size 85 [.int .i64 0, .int .i64 0, .int .i64 0, .int .i64 0, .int .i64 0, .int .i64 0]) := HX.out.2.1.on hb5
  have CD5 : Hid (Cel w5 (W.heap.size + 1) 85 R.rs) := HX.out.2.2.on hb5
  have B5 : Hid (Below W.heap.size W w5) := below_on HX.out.1 hb5
  have y0 : w5.cell? ⟨W.heap.size + 1, 0, none⟩ = some (.int .i64 (w / 67108864)) := by have := CD5.out.cell 0; rw [← hRR] at this; exact this
  have y1 : w5.cell? ⟨W.heap.size + 1, 1, none⟩ = some (.int .i64 0) := by have := CD5.out.cell 1; rw [← hRR] at this; exact this
  have y2 : w5.cell? ⟨W.heap.size + 1, 2, none⟩ = some (.int .i64 0) := by have := CD5.out.cell 2; rw [← hRR] at this; exact this
  have y3 : w5.cell? ⟨W.heap.size + 1, 3, none⟩ = some (.int .i64 0) := by have := CD5.out.cell 3; rw [← hRR] at this; exact this
  have y4 : w5.cell? ⟨W.heap.size + 1, 4, none⟩ = some (.int .i64 0) := by have := CD5.out.cell 4; rw [← hRR] at this; exact this
  have y5 : w5.cell? ⟨W.heap.size + 1, 5, none⟩ = some (.int .i64 (w % 65536)) := by have := CD5.out.cell 5; rw [← hRR] at this; exact this
  have HRR : Hid ((Ins.mk (w / 67108864) 0 0 0 0 (w % 65536)) = R) := hRR
  clear hRR hb5 HX HE'
  by_cases he : e = 0
  · subst he
    by_cases hv : v = w
    · subst hv
      have HV : Hid (Ending.returned (.tuple #[.agg #[Value.int .i64 (v / 67108864), Value.int .i64 0, Value.int .i64 0, Value.int .i64 0, Value.int .i64 0, Value.int .i64 (v % 65536)], .int .i64 0]) = .returned (.tuple #[(dec v).r, .int .i64 (decE v)])) := (show _ = _ by rw [← HC.1, ← HC.2, if_pos ⟨rfl, rfl⟩, if_pos ⟨rfl, rfl⟩, ← HRR.out]; rfl)
      clear HC
      go_wp2_with (first | (refine wpList_store_st rfl 85 _ _ rfl W.heap.size _ rfl rfl CZ5.out size57 rfl rfl ?_; intro w6 hc6 hb6 hs6))
      exact ret_st2 rfl rfl W.heap.size _ rfl hc6 Tryz.underlying85 rfl size57 ⟨HV.out, B5.out.trans (hb6.below (Nat.le_refl _) B5.out.size)⟩
    · have HV : Hid (Ending.returned (.tuple #[.agg ([.int .i64 0, .int .i64 0, .int .i64 0, .int .i64 0, .int .i64 0, .int .i64 0] : List Value).toArray, .int .i64 50]) = .returned (.tuple #[(dec w).r, .int .i64 (decE w)])) := (show _ = _ by rw [← HC.1, ← HC.2, if_neg (fun h => hv h.2), if_neg (fun h => hv h.2)]; rfl)
      have hv' : (v != w) = true := by simpa using hv
      clear HC hv
      go_wp2_with (first | (refine wpList_store_st rfl 85 _ _ rfl W.heap.size _ rfl rfl CZ5.out size57 rfl rfl ?_; intro w6 hc6 hb6 hs6))
      exact ret_st2 rfl rfl W.heap.size _ rfl hc6 Tryz.underlying85 rfl size57 ⟨HV.out, B5.out.trans (hb6.below (Nat.le_refl _) B5.out.size)⟩
  · have HV : Hid (Ending.returned (.tuple #[.agg ([.int .i64 0, .int .i64 0, .int .i64 0, .int .i64 0, .int .i64 0, .int .i64 0] : List Value).toArray, .int .i64 50]) = .returned (.tuple #[(dec w).r, .int .i64 (decE w)])) := (show _ = _ by rw [← HC.1, ← HC.2, if_neg (fun h => he h.1), if_neg (fun h => he h.1)]; rfl)
    have he' : (e != 0) = true := by simpa using he
    clear HC he
    go_wp2_with (first | (refine wpList_store_st rfl 85 _ _ rfl W.heap.size _ rfl rfl CZ5.out size57 rfl rfl ?_; intro w6 hc6 hb6 hs6))
    exact ret_st2 rfl rfl W.heap.size _ rfl hc6 Tryz.underlying85 rfl size57 ⟨HV.out, B5.out.trans (hb6.below (Nat.le_refl _) B5.out.size)⟩

set_option maxRecDepth 20000 in
set_option maxHeartbeats 2000000 in
theorem rdecode_6n (W : World) (hR : RShapes W) (hW : 3 < W.heap.size) (w : Int) (w0 : 0 ≤ w) (w1 : w < 4294967296) (s : ByteArray) (hL : ltr (shpI (M.Fld w 26 6)) = [111]) (hm : 32768 ≤ w % 65536)
    (HS : ∀ x, Below W.heap.size W x → Calls Tryz.prog 59 #[.int .i64 (w / 67108864)] x fun e W' => e = .returned (.string s) ∧ x = W') (C97 : ∀ x, Calls Tryz.prog 60 #[.string s, .int .u8 97] x fun e W' => e = .returned (.bool false) ∧ x = W') (C107 : ∀ x, Calls Tryz.prog 60 #[.string s, .int .u8 107] x fun e W' => e = .returned (.bool false) ∧ x = W') (C98 : ∀ x, Calls Tryz.prog 60 #[.string s, .int .u8 98] x fun e W' => e = .returned (.bool false) ∧ x = W') (C99 : ∀ x, Calls Tryz.prog 60 #[.string s, .int .u8 99] x fun e W' => e = .returned (.bool false) ∧ x = W') (C117 : ∀ x, Calls Tryz.prog 60 #[.string s, .int .u8 117] x fun e W' => e = .returned (.bool false) ∧ x = W') (C115 : ∀ x, Calls Tryz.prog 60 #[.string s, .int .u8 115] x fun e W' => e = .returned (.bool false) ∧ x = W') (C111 : ∀ x, Calls Tryz.prog 60 #[.string s, .int .u8 111] x fun e W' => e = .returned (.bool true) ∧ x = W') :
    Calls Tryz.prog 29 #[.int .u32 w] W fun e W' => e = .returned (.tuple #[(dec w).r, .int .i64 (decE w)]) ∧ Below W.heap.size W W' := by
  have HS' : Hid (∀ x, Below W.heap.size W x → Calls Tryz.prog 59 #[.int .i64 (w / 67108864)] x fun e W' => e = .returned (.string s) ∧ x = W') := HS
  have H97 : Hid (∀ x, Calls Tryz.prog 60 #[.string s, .int .u8 97] x fun e W' => e = .returned (.bool false) ∧ x = W') := C97
  have H107 : Hid (∀ x, Calls Tryz.prog 60 #[.string s, .int .u8 107] x fun e W' => e = .returned (.bool false) ∧ x = W') := C107
  have H98 : Hid (∀ x, Calls Tryz.prog 60 #[.string s, .int .u8 98] x fun e W' => e = .returned (.bool false) ∧ x = W') := C98
  have H99 : Hid (∀ x, Calls Tryz.prog 60 #[.string s, .int .u8 99] x fun e W' => e = .returned (.bool false) ∧ x = W') := C99
  have H117 : Hid (∀ x, Calls Tryz.prog 60 #[.string s, .int .u8 117] x fun e W' => e = .returned (.bool false) ∧ x = W') := C117
  have H115 : Hid (∀ x, Calls Tryz.prog 60 #[.string s, .int .u8 115] x fun e W' => e = .returned (.bool false) ∧ x = W') := C115
  have H111 : Hid (∀ x, Calls Tryz.prog 60 #[.string s, .int .u8 111] x fun e W' => e = .returned (.bool true) ∧ x = W') := C111
  have hq : (Ins.mk (w / 67108864) 0 0 0 0 (w % 65536 - 65536)) = decI w := by
    rw [decI, hL]
    simp [decL, fl, rd, Ins.put, M.Ext, M.Fld]
    try ((repeat' apply And.intro) <;> (first | omega | (split <;> omega)))
  have HT : Hid (∀ x, Below W.heap.size W x → RShapes x ∧ 3 < x.heap.size) := fun x hb => ⟨hR.below hb (by omega), by have := hb.size; omega⟩
  have HQ : Hid ((Ins.mk (w / 67108864) 0 0 0 0 (w % 65536 - 65536)) = decI w) := hq
  clear HS C97 C107 C98 C99 C117 C115 C111 hL hR hW hq
  go_enter Tryz.func29, Tryz.ntmps29
  go_wp2_with (go_at_call 59; refine (HS'.out _ (below_two _ _ _)).mono ?_; rintro e w1 ⟨rfl, rfl⟩)
  refine (H97.out _).mono ?_
  rintro e w9 ⟨rfl, rfl⟩
  go_wp2_with fail
  refine (H107.out _).mono ?_
  rintro e w9 ⟨rfl, rfl⟩
  go_wp2_with fail
  refine (H98.out _).mono ?_
  rintro e w9 ⟨rfl, rfl⟩
  go_wp2_with fail
  refine (H99.out _).mono ?_
  rintro e w9 ⟨rfl, rfl⟩
  go_wp2_with fail
  refine (H117.out _).mono ?_
  rintro e w9 ⟨rfl, rfl⟩
  go_wp2_with fail
  refine (H115.out _).mono ?_
  rintro e w9 ⟨rfl, rfl⟩
  go_wp2_with fail
  refine (H111.out _).mono ?_
  rintro e w9 ⟨rfl, rfl⟩
  go_wp2_with fail
  have HX : Hid (Below W.heap.size W ((W.alloc (Obj.cells #[Value.int .i64 0, Value.int .i64 0, Value.int .i64 0, Value.int .i64 0, Value.int .i64 0, Value.int .i64 0] 85)).alloc (Obj.cells #[Value.int .i64 (w / 67108864), Value.int .i64 0, Value.int .i64 0, Value.int .i64 0, Value.int .i64 0, Value.int .i64 (w % 65536 - 65536)] 85)) ∧ Cel ((W.alloc (Obj.cells #[Value.int .i64 0, Value.int .i64 0, Value.int .i64 0, Value.int .i64 0, Value.int .i64 0, Value.int .i64 0] 85)).alloc (Obj.cells #[Value.int .i64 (w / 67108864), Value.int .i64 0, Value.int .i64 0, Value.int .i64 0, Value.int .i64 0, Value.int .i64 (w % 65536 - 65536)] 85)) W.heap.size 85 [.int .i64 0, .int .i64 0, .int .i64 0, .int .i64 0, .int .i64 0, .int .i64 0] ∧ Cel ((W.alloc (Obj.cells #[Value.int .i64 0, Value.int .i64 0, Value.int .i64 0, Value.int .i64 0, Value.int .i64 0, Value.int .i64 0] 85)).alloc (Obj.cells #[Value.int .i64 (w / 67108864), Value.int .i64 0, Value.int .i64 0, Value.int .i64 0, Value.int .i64 0, Value.int .i64 (w % 65536 - 65536)] 85)) (W.heap.size + 1) 85 (Ins.mk (w / 67108864) 0 0 0 0 (w % 65536 - 65536)).rs) := rd_world W _ _ _ _ _ _
  have I0 : (-2147483648 : Int) ≤ w % 65536 - 65536 ∧ (w % 65536 - 65536 : Int) < 2147483648 := by omega
  generalize ((W.alloc (Obj.cells #[Value.int .i64 0, Value.int .i64 0, Value.int .i64 0, Value.int .i64 0, Value.int .i64 0, Value.int .i64 0] 85)).alloc (Obj.cells #[Value.int .i64 (w / 67108864), Value.int .i64 0, Value.int .i64 0, Value.int .i64 0, Value.int .i64 0, Value.int .i64 (w % 65536 - 65536)] 85)) = X at *
  obtain ⟨R, hRR⟩ : ∃ R, (Ins.mk (w / 67108864) 0 0 0 0 (w % 65536 - 65536)) = R := ⟨_, rfl⟩
  rw [hRR] at HQ HX
  have HE := rencode_any X (HT.out X HX.out.1).1 (HT.out X HX.out.1).2 (w / 67108864) 0 0 0 0 (w % 65536 - 65536) I0.1 I0.2
  rw [hRR] at HE
  have HC := dec_cases w R HQ.out (enc R) (chk R) rfl rfl
  generalize enc R = v at *
  generalize chk R = e at *
  have HE' : Hid (Calls Tryz.prog 61 #[.agg #[Value.int .i64 (w / 67108864), Value.int .i64 0, Value.int .i64 0, Value.int .i64 0, Value.int .i64 0, Value.int .i64 (w % 65536 - 65536)]] X fun r W' => r = .returned (.tuple #[.int .u32 v, .int .i64 e]) ∧ Below X.heap.size X W') := HE
  clear HE I0
  refine HE'.out.mono ?_
  rintro r w5 ⟨rfl, hb5⟩
  have CZ5 : Hid (Cel w5 W.heap.size 85 [.int .i64 0, .int .i64 0, .int .i64 0, .int .i64 0, .int .i64 0, .int .i64 0]) := HX.out.2.1.on hb5
  have CD5 : Hid (Cel w5 (W.heap.size + 1) 85 R.rs) := HX.out.2.2.on hb5
  have B5 : Hid (Below W.heap.size W w5) := below_on HX.out.1 hb5
  have y0 : w5.cell? ⟨W.heap.size + 1, 0, none⟩ = some (.int .i64 (w / 67108864)) := by have := CD5.out.cell 0; rw [← hRR] at this; exact this
  have y1 : w5.cell? ⟨W.heap.size + 1, 1, none⟩ = some (.int .i64 0) := by have := CD5.out.cell 1; rw [← hRR] at this; exact this
  have y2 : w5.cell? ⟨W.heap.size + 1, 2, none⟩ = some (.int .i64 0) := by have := CD5.out.cell 2; rw [← hRR] at this; exact this
  have y3 : w5.cell? ⟨W.heap.size + 1, 3, none⟩ = some (.int .i64 0) := by have := CD5.out.cell 3; rw [← hRR] at this; exact this
  have y4 : w5.cell? ⟨W.heap.size + 1, 4, none⟩ = some (.int .i64 0) := by have := CD5.out.cell 4; rw [← hRR] at this; exact this
  have y5 : w5.cell? ⟨W.heap.size + 1, 5, none⟩ = some (.int .i64 (w % 65536 - 65536)) := by have := CD5.out.cell 5; rw [← hRR] at this; exact this
  have HRR : Hid ((Ins.mk (w / 67108864) 0 0 0 0 (w % 65536 - 65536)) = R) := hRR
  clear hRR hb5 HX HE'
  by_cases he : e = 0
  · subst he
    by_cases hv : v = w
    · subst hv
      have HV : Hid (Ending.returned (.tuple #[.agg #[Value.int .i64 (v / 67108864), Value.int .i64 0, Value.int .i64 0, Value.int .i64 0, Value.int .i64 0, Value.int .i64 (v % 65536 - 65536)], .int .i64 0]) = .returned (.tuple #[(dec v).r, .int .i64 (decE v)])) := (show _ = _ by rw [← HC.1, ← HC.2, if_pos ⟨rfl, rfl⟩, if_pos ⟨rfl, rfl⟩, ← HRR.out]; rfl)
      clear HC
      go_wp2_with (first | (refine wpList_store_st rfl 85 _ _ rfl W.heap.size _ rfl rfl CZ5.out size57 rfl rfl ?_; intro w6 hc6 hb6 hs6))
      exact ret_st2 rfl rfl W.heap.size _ rfl hc6 Tryz.underlying85 rfl size57 ⟨HV.out, B5.out.trans (hb6.below (Nat.le_refl _) B5.out.size)⟩
    · have HV : Hid (Ending.returned (.tuple #[.agg ([.int .i64 0, .int .i64 0, .int .i64 0, .int .i64 0, .int .i64 0, .int .i64 0] : List Value).toArray, .int .i64 50]) = .returned (.tuple #[(dec w).r, .int .i64 (decE w)])) := (show _ = _ by rw [← HC.1, ← HC.2, if_neg (fun h => hv h.2), if_neg (fun h => hv h.2)]; rfl)
      have hv' : (v != w) = true := by simpa using hv
      clear HC hv
      go_wp2_with (first | (refine wpList_store_st rfl 85 _ _ rfl W.heap.size _ rfl rfl CZ5.out size57 rfl rfl ?_; intro w6 hc6 hb6 hs6))
      exact ret_st2 rfl rfl W.heap.size _ rfl hc6 Tryz.underlying85 rfl size57 ⟨HV.out, B5.out.trans (hb6.below (Nat.le_refl _) B5.out.size)⟩
  · have HV : Hid (Ending.returned (.tuple #[.agg ([.int .i64 0, .int .i64 0, .int .i64 0, .int .i64 0, .int .i64 0, .int .i64 0] : List Value).toArray, .int .i64 50]) = .returned (.tuple #[(dec w).r, .int .i64 (decE w)])) := (show _ = _ by rw [← HC.1, ← HC.2, if_neg (fun h => he h.1), if_neg (fun h => he h.1)]; rfl)
    have he' : (e != 0) = true := by simpa using he
    clear HC he
    go_wp2_with (first | (refine wpList_store_st rfl 85 _ _ rfl W.heap.size _ rfl rfl CZ5.out size57 rfl rfl ?_; intro w6 hc6 hb6 hs6))
    exact ret_st2 rfl rfl W.heap.size _ rfl hc6 Tryz.underlying85 rfl size57 ⟨HV.out, B5.out.trans (hb6.below (Nat.le_refl _) B5.out.size)⟩

set_option maxRecDepth 20000 in
set_option maxHeartbeats 2000000 in
theorem rdecode_7 (W : World) (hR : RShapes W) (hW : 3 < W.heap.size) (w : Int) (w0 : 0 ≤ w) (w1 : w < 4294967296) (s : ByteArray) (hL : ltr (shpI (M.Fld w 26 6)) = [97])
    (HS : ∀ x, Below W.heap.size W x → Calls Tryz.prog 59 #[.int .i64 (w / 67108864)] x fun e W' => e = .returned (.string s) ∧ x = W') (C97 : ∀ x, Calls Tryz.prog 60 #[.string s, .int .u8 97] x fun e W' => e = .returned (.bool true) ∧ x = W') (C107 : ∀ x, Calls Tryz.prog 60 #[.string s, .int .u8 107] x fun e W' => e = .returned (.bool false) ∧ x = W') (C98 : ∀ x, Calls Tryz.prog 60 #[.string s, .int .u8 98] x fun e W' => e = .returned (.bool false) ∧ x = W') (C99 : ∀ x, Calls Tryz.prog 60 #[.string s, .int .u8 99] x fun e W' => e = .returned (.bool false) ∧ x = W') (C117 : ∀ x, Calls Tryz.prog 60 #[.string s, .int .u8 117] x fun e W' => e = .returned (.bool false) ∧ x = W') (C115 : ∀ x, Calls Tryz.prog 60 #[.string s, .int .u8 115] x fun e W' => e = .returned (.bool false) ∧ x = W') (C111 : ∀ x, Calls Tryz.prog 60 #[.string s, .int .u8 111] x fun e W' => e = .returned (.bool false) ∧ x = W') :
    Calls Tryz.prog 29 #[.int .u32 w] W fun e W' => e = .returned (.tuple #[(dec w).r, .int .i64 (decE w)]) ∧ Below W.heap.size W W' := by
  have HS' : Hid (∀ x, Below W.heap.size W x → Calls Tryz.prog 59 #[.int .i64 (w / 67108864)] x fun e W' => e = .returned (.string s) ∧ x = W') := HS
  have H97 : Hid (∀ x, Calls Tryz.prog 60 #[.string s, .int .u8 97] x fun e W' => e = .returned (.bool true) ∧ x = W') := C97
  have H107 : Hid (∀ x, Calls Tryz.prog 60 #[.string s, .int .u8 107] x fun e W' => e = .returned (.bool false) ∧ x = W') := C107
  have H98 : Hid (∀ x, Calls Tryz.prog 60 #[.string s, .int .u8 98] x fun e W' => e = .returned (.bool false) ∧ x = W') := C98
  have H99 : Hid (∀ x, Calls Tryz.prog 60 #[.string s, .int .u8 99] x fun e W' => e = .returned (.bool false) ∧ x = W') := C99
  have H117 : Hid (∀ x, Calls Tryz.prog 60 #[.string s, .int .u8 117] x fun e W' => e = .returned (.bool false) ∧ x = W') := C117
  have H115 : Hid (∀ x, Calls Tryz.prog 60 #[.string s, .int .u8 115] x fun e W' => e = .returned (.bool false) ∧ x = W') := C115
  have H111 : Hid (∀ x, Calls Tryz.prog 60 #[.string s, .int .u8 111] x fun e W' => e = .returned (.bool false) ∧ x = W') := C111
  have hq : (Ins.mk (w / 67108864) 0 (w / 4194304 % 16) 0 0 0) = decI w := by
    rw [decI, hL]
    simp [decL, fl, rd, Ins.put, M.Ext, M.Fld]
    try ((repeat' apply And.intro) <;> (first | omega | (split <;> omega)))
  have HT : Hid (∀ x, Below W.heap.size W x → RShapes x ∧ 3 < x.heap.size) := fun x hb => ⟨hR.below hb (by omega), by have := hb.size; omega⟩
  have HQ : Hid ((Ins.mk (w / 67108864) 0 (w / 4194304 % 16) 0 0 0) = decI w) := hq
  clear HS C97 C107 C98 C99 C117 C115 C111 hL hR hW hq
  go_enter Tryz.func29, Tryz.ntmps29
  go_wp2_with (go_at_call 59; refine (HS'.out _ (below_two _ _ _)).mono ?_; rintro e w1 ⟨rfl, rfl⟩)
  refine (H97.out _).mono ?_
  rintro e w9 ⟨rfl, rfl⟩
  go_wp2_with fail
  refine (H107.out _).mono ?_
  rintro e w9 ⟨rfl, rfl⟩
  go_wp2_with fail
  refine (H98.out _).mono ?_
  rintro e w9 ⟨rfl, rfl⟩
  go_wp2_with fail
  refine (H99.out _).mono ?_
  rintro e w9 ⟨rfl, rfl⟩
  go_wp2_with fail
  refine (H117.out _).mono ?_
  rintro e w9 ⟨rfl, rfl⟩
  go_wp2_with fail
  refine (H115.out _).mono ?_
  rintro e w9 ⟨rfl, rfl⟩
  go_wp2_with fail
  refine (H111.out _).mono ?_
  rintro e w9 ⟨rfl, rfl⟩
  go_wp2_with fail
  have HX : Hid (Below W.heap.size W ((W.alloc (Obj.cells #[Value.int .i64 0, Value.int .i64 0, Value.int .i64 0, Value.int .i64 0, Value.int .i64 0, Value.int .i64 0] 85)).alloc (Obj.cells #[Value.int .i64 (w / 67108864), Value.int .i64 0, Value.int .i64 (w / 4194304 % 16), Value.int .i64 0, Value.int .i64 0, Value.int .i64 0] 85)) ∧ Cel ((W.alloc (Obj.cells #[Value.int .i64 0, Value.int .i64 0, Value.int .i64 0, Value.int .i64 0, Value.int .i64 0, Value.int .i64 0] 85)).alloc (Obj.cells #[Value.int .i64 (w / 67108864), Value.int .i64 0, Value.int .i64 (w / 4194304 % 16), Value.int .i64 0, Value.int .i64 0, Value.int .i64 0] 85)) W.heap.size 85 [.int .i64 0, .int .i64 0, .int .i64 0, .int .i64 0, .int .i64 0, .int .i64 0] ∧ Cel ((W.alloc (Obj.cells #[Value.int .i64 0, Value.int .i64 0, Value.int .i64 0, Value.int .i64 0, Value.int .i64 0, Value.int .i64 0] 85)).alloc (Obj.cells #[Value.int .i64 (w / 67108864), Value.int .i64 0, Value.int .i64 (w / 4194304 % 16), Value.int .i64 0, Value.int .i64 0, Value.int .i64 0] 85)) (W.heap.size + 1) 85 (Ins.mk (w / 67108864) 0 (w / 4194304 % 16) 0 0 0).rs) := rd_world W _ _ _ _ _ _
  have I0 : (-2147483648 : Int) ≤ 0 ∧ (0 : Int) < 2147483648 := by omega
  generalize ((W.alloc (Obj.cells #[Value.int .i64 0, Value.int .i64 0, Value.int .i64 0, Value.int .i64 0, Value.int .i64 0, Value.int .i64 0] 85)).alloc (Obj.cells #[Value.int .i64 (w / 67108864), Value.int .i64 0, Value.int .i64 (w / 4194304 % 16), Value.int .i64 0, Value.int .i64 0, Value.int .i64 0] 85)) = X at *
  obtain ⟨R, hRR⟩ : ∃ R, (Ins.mk (w / 67108864) 0 (w / 4194304 % 16) 0 0 0) = R := ⟨_, rfl⟩
  rw [hRR] at HQ HX
  have HE := rencode_any X (HT.out X HX.out.1).1 (HT.out X HX.out.1).2 (w / 67108864) 0 (w / 4194304 % 16) 0 0 0 I0.1 I0.2
  rw [hRR] at HE
  have HC := dec_cases w R HQ.out (enc R) (chk R) rfl rfl
  generalize enc R = v at *
  generalize chk R = e at *
  have HE' : Hid (Calls Tryz.prog 61 #[.agg #[Value.int .i64 (w / 67108864), Value.int .i64 0, Value.int .i64 (w / 4194304 % 16), Value.int .i64 0, Value.int .i64 0, Value.int .i64 0]] X fun r W' => r = .returned (.tuple #[.int .u32 v, .int .i64 e]) ∧ Below X.heap.size X W') := HE
  clear HE I0
  refine HE'.out.mono ?_
  rintro r w5 ⟨rfl, hb5⟩
  have CZ5 : Hid (Cel w5 W.heap.size 85 [.int .i64 0, .int .i64 0, .int .i64 0, .int .i64 0, .int .i64 0, .int .i64 0]) := HX.out.2.1.on hb5
  have CD5 : Hid (Cel w5 (W.heap.size + 1) 85 R.rs) := HX.out.2.2.on hb5
  have B5 : Hid (Below W.heap.size W w5) := below_on HX.out.1 hb5
  have y0 : w5.cell? ⟨W.heap.size + 1, 0, none⟩ = some (.int .i64 (w / 67108864)) := by have := CD5.out.cell 0; rw [← hRR] at this; exact this
  have y1 : w5.cell? ⟨W.heap.size + 1, 1, none⟩ = some (.int .i64 0) := by have := CD5.out.cell 1; rw [← hRR] at this; exact this
  have y2 : w5.cell? ⟨W.heap.size + 1, 2, none⟩ = some (.int .i64 (w / 4194304 % 16)) := by have := CD5.out.cell 2; rw [← hRR] at this; exact this
  have y3 : w5.cell? ⟨W.heap.size + 1, 3, none⟩ = some (.int .i64 0) := by have := CD5.out.cell 3; rw [← hRR] at this; exact this
  have y4 : w5.cell? ⟨W.heap.size + 1, 4, none⟩ = some (.int .i64 0) := by have := CD5.out.cell 4; rw [← hRR] at this; exact this
  have y5 : w5.cell? ⟨W.heap.size + 1, 5, none⟩ = some (.int .i64 0) := by have := CD5.out.cell 5; rw [← hRR] at this; exact this
  have HRR : Hid ((Ins.mk (w / 67108864) 0 (w / 4194304 % 16) 0 0 0) = R) := hRR
  clear hRR hb5 HX HE'
  by_cases he : e = 0
  · subst he
    by_cases hv : v = w
    · subst hv
      have HV : Hid (Ending.returned (.tuple #[.agg #[Value.int .i64 (v / 67108864), Value.int .i64 0, Value.int .i64 (v / 4194304 % 16), Value.int .i64 0, Value.int .i64 0, Value.int .i64 0], .int .i64 0]) = .returned (.tuple #[(dec v).r, .int .i64 (decE v)])) := (show _ = _ by rw [← HC.1, ← HC.2, if_pos ⟨rfl, rfl⟩, if_pos ⟨rfl, rfl⟩, ← HRR.out]; rfl)
      clear HC
      go_wp2_with (first | (refine wpList_store_st rfl 85 _ _ rfl W.heap.size _ rfl rfl CZ5.out size57 rfl rfl ?_; intro w6 hc6 hb6 hs6))
      exact ret_st2 rfl rfl W.heap.size _ rfl hc6 Tryz.underlying85 rfl size57 ⟨HV.out, B5.out.trans (hb6.below (Nat.le_refl _) B5.out.size)⟩
    · have HV : Hid (Ending.returned (.tuple #[.agg ([.int .i64 0, .int .i64 0, .int .i64 0, .int .i64 0, .int .i64 0, .int .i64 0] : List Value).toArray, .int .i64 50]) = .returned (.tuple #[(dec w).r, .int .i64 (decE w)])) := (show _ = _ by rw [← HC.1, ← HC.2, if_neg (fun h => hv h.2), if_neg (fun h => hv h.2)]; rfl)
      have hv' : (v != w) = true := by simpa using hv
      clear HC hv
      go_wp2_with (first | (refine wpList_store_st rfl 85 _ _ rfl W.heap.size _ rfl rfl CZ5.out size57 rfl rfl ?_; intro w6 hc6 hb6 hs6))
      exact ret_st2 rfl rfl W.heap.size _ rfl hc6 Tryz.underlying85 rfl size57 ⟨HV.out, B5.out.trans (hb6.below (Nat.le_refl _) B5.out.size)⟩
  · have HV : Hid (Ending.returned (.tuple #[.agg ([.int .i64 0, .int .i64 0, .int .i64 0, .int .i64 0, .int .i64 0, .int .i64 0] : List Value).toArray, .int .i64 50]) = .returned (.tuple #[(dec w).r, .int .i64 (decE w)])) := (show _ = _ by rw [← HC.1, ← HC.2, if_neg (fun h => he h.1), if_neg (fun h => he h.1)]; rfl)
    have he' : (e != 0) = true := by simpa using he
    clear HC he
    go_wp2_with (first | (refine wpList_store_st rfl 85 _ _ rfl W.heap.size _ rfl rfl CZ5.out size57 rfl rfl ?_; intro w6 hc6 hb6 hs6))
    exact ret_st2 rfl rfl W.heap.size _ rfl hc6 Tryz.underlying85 rfl size57 ⟨HV.out, B5.out.trans (hb6.below (Nat.le_refl _) B5.out.size)⟩

set_option maxRecDepth 20000 in
set_option maxHeartbeats 2000000 in
theorem rdecode_8 (W : World) (hR : RShapes W) (hW : 3 < W.heap.size) (w : Int) (w0 : 0 ≤ w) (w1 : w < 4294967296) (s : ByteArray) (hL : ltr (shpI (M.Fld w 26 6)) = [117])
    (HS : ∀ x, Below W.heap.size W x → Calls Tryz.prog 59 #[.int .i64 (w / 67108864)] x fun e W' => e = .returned (.string s) ∧ x = W') (C97 : ∀ x, Calls Tryz.prog 60 #[.string s, .int .u8 97] x fun e W' => e = .returned (.bool false) ∧ x = W') (C107 : ∀ x, Calls Tryz.prog 60 #[.string s, .int .u8 107] x fun e W' => e = .returned (.bool false) ∧ x = W') (C98 : ∀ x, Calls Tryz.prog 60 #[.string s, .int .u8 98] x fun e W' => e = .returned (.bool false) ∧ x = W') (C99 : ∀ x, Calls Tryz.prog 60 #[.string s, .int .u8 99] x fun e W' => e = .returned (.bool false) ∧ x = W') (C117 : ∀ x, Calls Tryz.prog 60 #[.string s, .int .u8 117] x fun e W' => e = .returned (.bool true) ∧ x = W') (C115 : ∀ x, Calls Tryz.prog 60 #[.string s, .int .u8 115] x fun e W' => e = .returned (.bool false) ∧ x = W') (C111 : ∀ x, Calls Tryz.prog 60 #[.string s, .int .u8 111] x fun e W' => e = .returned (.bool false) ∧ x = W') :
    Calls Tryz.prog 29 #[.int .u32 w] W fun e W' => e = .returned (.tuple #[(dec w).r, .int .i64 (decE w)]) ∧ Below W.heap.size W W' := by
  have HS' : Hid (∀ x, Below W.heap.size W x → Calls Tryz.prog 59 #[.int .i64 (w / 67108864)] x fun e W' => e = .returned (.string s) ∧ x = W') := HS
  have H97 : Hid (∀ x, Calls Tryz.prog 60 #[.string s, .int .u8 97] x fun e W' => e = .returned (.bool false) ∧ x = W') := C97
  have H107 : Hid (∀ x, Calls Tryz.prog 60 #[.string s, .int .u8 107] x fun e W' => e = .returned (.bool false) ∧ x = W') := C107
  have H98 : Hid (∀ x, Calls Tryz.prog 60 #[.string s, .int .u8 98] x fun e W' => e = .returned (.bool false) ∧ x = W') := C98
  have H99 : Hid (∀ x, Calls Tryz.prog 60 #[.string s, .int .u8 99] x fun e W' => e = .returned (.bool false) ∧ x = W') := C99
  have H117 : Hid (∀ x, Calls Tryz.prog 60 #[.string s, .int .u8 117] x fun e W' => e = .returned (.bool true) ∧ x = W') := C117
  have H115 : Hid (∀ x, Calls Tryz.prog 60 #[.string s, .int .u8 115] x fun e W' => e = .returned (.bool false) ∧ x = W') := C115
  have H111 : Hid (∀ x, Calls Tryz.prog 60 #[.string s, .int .u8 111] x fun e W' => e = .returned (.bool false) ∧ x = W') := C111
  have hq : (Ins.mk (w / 67108864) 0 0 0 0 (w % 65536)) = decI w := by
    rw [decI, hL]
    simp [decL, fl, rd, Ins.put, M.Ext, M.Fld]
    try ((repeat' apply And.intro) <;> (first | omega | (split <;> omega)))
  have HT : Hid (∀ x, Below W.heap.size W x → RShapes x ∧ 3 < x.heap.size) := fun x hb => ⟨hR.below hb (by omega), by have := hb.size; omega⟩
  have HQ : Hid ((Ins.mk (w / 67108864) 0 0 0 0 (w % 65536)) = decI w) := hq
  clear HS C97 C107 C98 C99 C117 C115 C111 hL hR hW hq
  go_enter Tryz.func29, Tryz.ntmps29
  go_wp2_with (go_at_call 59; refine (HS'.out _ (below_two _ _ _)).mono ?_; rintro e w1 ⟨rfl, rfl⟩)
  refine (H97.out _).mono ?_
  rintro e w9 ⟨rfl, rfl⟩
  go_wp2_with fail
  refine (H107.out _).mono ?_
  rintro e w9 ⟨rfl, rfl⟩
  go_wp2_with fail
  refine (H98.out _).mono ?_
  rintro e w9 ⟨rfl, rfl⟩
  go_wp2_with fail
  refine (H99.out _).mono ?_
  rintro e w9 ⟨rfl, rfl⟩
  go_wp2_with fail
  refine (H117.out _).mono ?_
  rintro e w9 ⟨rfl, rfl⟩
  go_wp2_with fail
  refine (H115.out _).mono ?_
  rintro e w9 ⟨rfl, rfl⟩
  go_wp2_with fail
  refine (H111.out _).mono ?_
  rintro e w9 ⟨rfl, rfl⟩
  go_wp2_with fail
  have HX : Hid (Below W.heap.size W ((W.alloc (Obj.cells #[Value.int .i64 0, Value.int .i64 0, Value.int .i64 0, Value.int .i64 0, Value.int .i64 0, Value.int .i64 0] 85)).alloc (Obj.cells #[Value.int .i64 (w / 67108864), Value.int .i64 0, Value.int .i64 0, Value.int .i64 0, Value.int .i64 0, Value.int .i64 (w % 65536)] 85)) ∧ Cel ((W.alloc (Obj.cells #[Value.int .i64 0, Value.int .i64 0, Value.int .i64 0, Value.int .i64 0, Value.int .i64 0, Value.int .i64 0] 85)).alloc (Obj.cells #[Value.int .i64 (w / 67108864), Value.int .i64 0, Value.int .i64 0, Value.int .i64 0, Value.int .i64 0, Value.int .i64 (w % 65536)] 85)) W.heap.size 85 [.int .i64 0, .int .i64 0, .int .i64 0, .int .i64 0, .int .i64 0, .int .i64 0] ∧ Cel ((W.alloc (Obj.cells #[Value.int .i64 0, Value.int .i64 0, Value.int .i64 0, Value.int .i64 0, Value.int .i64 0, Value.int .i64 0] 85)).alloc (Obj.cells #[Value.int .i64 (w / 67108864), Value.int .i64 0, Value.int .i64 0, Value.int .i64 0, Value.int .i64 0, Value.int .i64 (w % 65536)] 85)) (W.heap.size + 1) 85 (Ins.mk (w / 67108864) 0 0 0 0 (w % 65536)).rs) := rd_world W _ _ _ _ _ _
  have I0 : (-2147483648 : Int) ≤ w % 65536 ∧ (w % 65536 : Int) < 2147483648 := by omega
  generalize ((W.alloc (Obj.cells #[Value.int .i64 0, Value.int .i64 0, Value.int .i64 0, Value.int .i64 0, Value.int .i64 0, Value.int .i64 0] 85)).alloc (Obj.cells #[Value.int .i64 (w / 67108864), Value.int .i64 0, Value.int .i64 0, Value.int .i64 0, Value.int .i64 0, Value.int .i64 (w % 65536)] 85)) = X at *
  obtain ⟨R, hRR⟩ : ∃ R, (Ins.mk (w / 67108864) 0 0 0 0 (w % 65536)) = R := ⟨_, rfl⟩
  rw [hRR] at HQ HX
  have HE := rencode_any X (HT.out X HX.out.1).1 (HT.out X HX.out.1).2 (w / 67108864) 0 0 0 0 (w % 65536) I0.1 I0.2
  rw [hRR] at HE
  have HC := dec_cases w R HQ.out (enc R) (chk R) rfl rfl
  generalize enc R = v at *
  generalize chk R = e at *
  have HE' : Hid (Calls Tryz.prog 61 #[.agg #[Value.int .i64 (w / 67108864), Value.int .i64 0, Value.int .i64 0, Value.int .i64 0, Value.int .i64 0, Value.int .i64 (w % 65536)]] X fun r W' => r = .returned (.tuple #[.int .u32 v, .int .i64 e]) ∧ Below X.heap.size X W') := HE
  clear HE I0
  refine HE'.out.mono ?_
  rintro r w5 ⟨rfl, hb5⟩
  have CZ5 : Hid (Cel w5 W.heap.size 85 [.int .i64 0, .int .i64 0, .int .i64 0, .int .i64 0, .int .i64 0, .int .i64 0]) := HX.out.2.1.on hb5
  have CD5 : Hid (Cel w5 (W.heap.size + 1) 85 R.rs) := HX.out.2.2.on hb5
  have B5 : Hid (Below W.heap.size W w5) := below_on HX.out.1 hb5
  have y0 : w5.cell? ⟨W.heap.size + 1, 0, none⟩ = some (.int .i64 (w / 67108864)) := by have := CD5.out.cell 0; rw [← hRR] at this; exact this
  have y1 : w5.cell? ⟨W.heap.size + 1, 1, none⟩ = some (.int .i64 0) := by have := CD5.out.cell 1; rw [← hRR] at this; exact this
  have y2 : w5.cell? ⟨W.heap.size + 1, 2, none⟩ = some (.int .i64 0) := by have := CD5.out.cell 2; rw [← hRR] at this; exact this
  have y3 : w5.cell? ⟨W.heap.size + 1, 3, none⟩ = some (.int .i64 0) := by have := CD5.out.cell 3; rw [← hRR] at this; exact this
  have y4 : w5.cell? ⟨W.heap.size + 1, 4, none⟩ = some (.int .i64 0) := by have := CD5.out.cell 4; rw [← hRR] at this; exact this
  have y5 : w5.cell? ⟨W.heap.size + 1, 5, none⟩ = some (.int .i64 (w % 65536)) := by have := CD5.out.cell 5; rw [← hRR] at this; exact this
  have HRR : Hid ((Ins.mk (w / 67108864) 0 0 0 0 (w % 65536)) = R) := hRR
  clear hRR hb5 HX HE'
  by_cases he : e = 0
  · subst he
    by_cases hv : v = w
    · subst hv
      have HV : Hid (Ending.returned (.tuple #[.agg #[Value.int .i64 (v / 67108864), Value.int .i64 0, Value.int .i64 0, Value.int .i64 0, Value.int .i64 0, Value.int .i64 (v % 65536)], .int .i64 0]) = .returned (.tuple #[(dec v).r, .int .i64 (decE v)])) := (show _ = _ by rw [← HC.1, ← HC.2, if_pos ⟨rfl, rfl⟩, if_pos ⟨rfl, rfl⟩, ← HRR.out]; rfl)
      clear HC
      go_wp2_with (first | (refine wpList_store_st rfl 85 _ _ rfl W.heap.size _ rfl rfl CZ5.out size57 rfl rfl ?_; intro w6 hc6 hb6 hs6))
      exact ret_st2 rfl rfl W.heap.size _ rfl hc6 Tryz.underlying85 rfl size57 ⟨HV.out, B5.out.trans (hb6.below (Nat.le_refl _) B5.out.size)⟩
    · have HV : Hid (Ending.returned (.tuple #[.agg ([.int .i64 0, .int .i64 0, .int .i64 0, .int .i64 0, .int .i64 0, .int .i64 0] : List Value).toArray, .int .i64 50]) = .returned (.tuple #[(dec w).r, .int .i64 (decE w)])) := (show _ = _ by rw [← HC.1, ← HC.2, if_neg (fun h => hv h.2), if_neg (fun h => hv h.2)]; rfl)
      have hv' : (v != w) = true := by simpa using hv
      clear HC hv
      go_wp2_with (first | (refine wpList_store_st rfl 85 _ _ rfl W.heap.size _ rfl rfl CZ5.out size57 rfl rfl ?_; intro w6 hc6 hb6 hs6))
      exact ret_st2 rfl rfl W.heap.size _ rfl hc6 Tryz.underlying85 rfl size57 ⟨HV.out, B5.out.trans (hb6.below (Nat.le_refl _) B5.out.size)⟩
  · have HV : Hid (Ending.returned (.tuple #[.agg ([.int .i64 0, .int .i64 0, .int .i64 0, .int .i64 0, .int .i64 0, .int .i64 0] : List Value).toArray, .int .i64 50]) = .returned (.tuple #[(dec w).r, .int .i64 (decE w)])) := (show _ = _ by rw [← HC.1, ← HC.2, if_neg (fun h => he h.1), if_neg (fun h => he h.1)]; rfl)
    have he' : (e != 0) = true := by simpa using he
    clear HC he
    go_wp2_with (first | (refine wpList_store_st rfl 85 _ _ rfl W.heap.size _ rfl rfl CZ5.out size57 rfl rfl ?_; intro w6 hc6 hb6 hs6))
    exact ret_st2 rfl rfl W.heap.size _ rfl hc6 Tryz.underlying85 rfl size57 ⟨HV.out, B5.out.trans (hb6.below (Nat.le_refl _) B5.out.size)⟩

set_option maxRecDepth 20000 in
set_option maxHeartbeats 2000000 in
theorem rdecode_9 (W : World) (hR : RShapes W) (hW : 3 < W.heap.size) (w : Int) (w0 : 0 ≤ w) (w1 : w < 4294967296) (s : ByteArray) (hL : ltr (shpI (M.Fld w 26 6)) = [])
    (HS : ∀ x, Below W.heap.size W x → Calls Tryz.prog 59 #[.int .i64 (w / 67108864)] x fun e W' => e = .returned (.string s) ∧ x = W') (C97 : ∀ x, Calls Tryz.prog 60 #[.string s, .int .u8 97] x fun e W' => e = .returned (.bool false) ∧ x = W') (C107 : ∀ x, Calls Tryz.prog 60 #[.string s, .int .u8 107] x fun e W' => e = .returned (.bool false) ∧ x = W') (C98 : ∀ x, Calls Tryz.prog 60 #[.string s, .int .u8 98] x fun e W' => e = .returned (.bool false) ∧ x = W') (C99 : ∀ x, Calls Tryz.prog 60 #[.string s, .int .u8 99] x fun e W' => e = .returned (.bool false) ∧ x = W') (C117 : ∀ x, Calls Tryz.prog 60 #[.string s, .int .u8 117] x fun e W' => e = .returned (.bool false) ∧ x = W') (C115 : ∀ x, Calls Tryz.prog 60 #[.string s, .int .u8 115] x fun e W' => e = .returned (.bool false) ∧ x = W') (C111 : ∀ x, Calls Tryz.prog 60 #[.string s, .int .u8 111] x fun e W' => e = .returned (.bool false) ∧ x = W') :
    Calls Tryz.prog 29 #[.int .u32 w] W fun e W' => e = .returned (.tuple #[(dec w).r, .int .i64 (decE w)]) ∧ Below W.heap.size W W' := by
  have HS' : Hid (∀ x, Below W.heap.size W x → Calls Tryz.prog 59 #[.int .i64 (w / 67108864)] x fun e W' => e = .returned (.string s) ∧ x = W') := HS
  have H97 : Hid (∀ x, Calls Tryz.prog 60 #[.string s, .int .u8 97] x fun e W' => e = .returned (.bool false) ∧ x = W') := C97
  have H107 : Hid (∀ x, Calls Tryz.prog 60 #[.string s, .int .u8 107] x fun e W' => e = .returned (.bool false) ∧ x = W') := C107
  have H98 : Hid (∀ x, Calls Tryz.prog 60 #[.string s, .int .u8 98] x fun e W' => e = .returned (.bool false) ∧ x = W') := C98
  have H99 : Hid (∀ x, Calls Tryz.prog 60 #[.string s, .int .u8 99] x fun e W' => e = .returned (.bool false) ∧ x = W') := C99
  have H117 : Hid (∀ x, Calls Tryz.prog 60 #[.string s, .int .u8 117] x fun e W' => e = .returned (.bool false) ∧ x = W') := C117
  have H115 : Hid (∀ x, Calls Tryz.prog 60 #[.string s, .int .u8 115] x fun e W' => e = .returned (.bool false) ∧ x = W') := C115
  have H111 : Hid (∀ x, Calls Tryz.prog 60 #[.string s, .int .u8 111] x fun e W' => e = .returned (.bool false) ∧ x = W') := C111
  have hq : (Ins.mk (w / 67108864) 0 0 0 0 0) = decI w := by
    rw [decI, hL]
    simp [decL, fl, rd, Ins.put, M.Ext, M.Fld]
    try ((repeat' apply And.intro) <;> (first | omega | (split <;> omega)))
  have HT : Hid (∀ x, Below W.heap.size W x → RShapes x ∧ 3 < x.heap.size) := fun x hb => ⟨hR.below hb (by omega), by have := hb.size; omega⟩
  have HQ : Hid ((Ins.mk (w / 67108864) 0 0 0 0 0) = decI w) := hq
  clear HS C97 C107 C98 C99 C117 C115 C111 hL hR hW hq
  go_enter Tryz.func29, Tryz.ntmps29
  go_wp2_with (go_at_call 59; refine (HS'.out _ (below_two _ _ _)).mono ?_; rintro e w1 ⟨rfl, rfl⟩)
  refine (H97.out _).mono ?_
  rintro e w9 ⟨rfl, rfl⟩
  go_wp2_with fail
  refine (H107.out _).mono ?_
  rintro e w9 ⟨rfl, rfl⟩
  go_wp2_with fail
  refine (H98.out _).mono ?_
  rintro e w9 ⟨rfl, rfl⟩
  go_wp2_with fail
  refine (H99.out _).mono ?_
  rintro e w9 ⟨rfl, rfl⟩
  go_wp2_with fail
  refine (H117.out _).mono ?_
  rintro e w9 ⟨rfl, rfl⟩
  go_wp2_with fail
  refine (H115.out _).mono ?_
  rintro e w9 ⟨rfl, rfl⟩
  go_wp2_with fail
  refine (H111.out _).mono ?_
  rintro e w9 ⟨rfl, rfl⟩
  go_wp2_with fail
  have HX : Hid (Below W.heap.size W ((W.alloc (Obj.cells #[Value.int .i64 0, Value.int .i64 0, Value.int .i64 0, Value.int .i64 0, Value.int .i64 0, Value.int .i64 0] 85)).alloc (Obj.cells #[Value.int .i64 (w / 67108864), Value.int .i64 0, Value.int .i64 0, Value.int .i64 0, Value.int .i64 0, Value.int .i64 0] 85)) ∧ Cel ((W.alloc (Obj.cells #[Value.int .i64 0, Value.int .i64 0, Value.int .i64 0, Value.int .i64 0, Value.int .i64 0, Value.int .i64 0] 85)).alloc (Obj.cells #[Value.int .i64 (w / 67108864), Value.int .i64 0, Value.int .i64 0, Value.int .i64 0, Value.int .i64 0, Value.int .i64 0] 85)) W.heap.size 85 [.int .i64 0, .int .i64 0, .int .i64 0, .int .i64 0, .int .i64 0, .int .i64 0] ∧ Cel ((W.alloc (Obj.cells #[Value.int .i64 0, Value.int .i64 0, Value.int .i64 0, Value.int .i64 0, Value.int .i64 0, Value.int .i64 0] 85)).alloc (Obj.cells #[Value.int .i64 (w / 67108864), Value.int .i64 0, Value.int .i64 0, Value.int .i64 0, Value.int .i64 0, Value.int .i64 0] 85)) (W.heap.size + 1) 85 (Ins.mk (w / 67108864) 0 0 0 0 0).rs) := rd_world W _ _ _ _ _ _
  have I0 : (-2147483648 : Int) ≤ 0 ∧ (0 : Int) < 2147483648 := by omega
  generalize ((W.alloc (Obj.cells #[Value.int .i64 0, Value.int .i64 0, Value.int .i64 0, Value.int .i64 0, Value.int .i64 0, Value.int .i64 0] 85)).alloc (Obj.cells #[Value.int .i64 (w / 67108864), Value.int .i64 0, Value.int .i64 0, Value.int .i64 0, Value.int .i64 0, Value.int .i64 0] 85)) = X at *
  obtain ⟨R, hRR⟩ : ∃ R, (Ins.mk (w / 67108864) 0 0 0 0 0) = R := ⟨_, rfl⟩
  rw [hRR] at HQ HX
  have HE := rencode_any X (HT.out X HX.out.1).1 (HT.out X HX.out.1).2 (w / 67108864) 0 0 0 0 0 I0.1 I0.2
  rw [hRR] at HE
  have HC := dec_cases w R HQ.out (enc R) (chk R) rfl rfl
  generalize enc R = v at *
  generalize chk R = e at *
  have HE' : Hid (Calls Tryz.prog 61 #[.agg #[Value.int .i64 (w / 67108864), Value.int .i64 0, Value.int .i64 0, Value.int .i64 0, Value.int .i64 0, Value.int .i64 0]] X fun r W' => r = .returned (.tuple #[.int .u32 v, .int .i64 e]) ∧ Below X.heap.size X W') := HE
  clear HE I0
  refine HE'.out.mono ?_
  rintro r w5 ⟨rfl, hb5⟩
  have CZ5 : Hid (Cel w5 W.heap.size 85 [.int .i64 0, .int .i64 0, .int .i64 0, .int .i64 0, .int .i64 0, .int .i64 0]) := HX.out.2.1.on hb5
  have CD5 : Hid (Cel w5 (W.heap.size + 1) 85 R.rs) := HX.out.2.2.on hb5
  have B5 : Hid (Below W.heap.size W w5) := below_on HX.out.1 hb5
  have y0 : w5.cell? ⟨W.heap.size + 1, 0, none⟩ = some (.int .i64 (w / 67108864)) := by have := CD5.out.cell 0; rw [← hRR] at this; exact this
  have y1 : w5.cell? ⟨W.heap.size + 1, 1, none⟩ = some (.int .i64 0) := by have := CD5.out.cell 1; rw [← hRR] at this; exact this
  have y2 : w5.cell? ⟨W.heap.size + 1, 2, none⟩ = some (.int .i64 0) := by have := CD5.out.cell 2; rw [← hRR] at this; exact this
  have y3 : w5.cell? ⟨W.heap.size + 1, 3, none⟩ = some (.int .i64 0) := by have := CD5.out.cell 3; rw [← hRR] at this; exact this
  have y4 : w5.cell? ⟨W.heap.size + 1, 4, none⟩ = some (.int .i64 0) := by have := CD5.out.cell 4; rw [← hRR] at this; exact this
  have y5 : w5.cell? ⟨W.heap.size + 1, 5, none⟩ = some (.int .i64 0) := by have := CD5.out.cell 5; rw [← hRR] at this; exact this
  have HRR : Hid ((Ins.mk (w / 67108864) 0 0 0 0 0) = R) := hRR
  clear hRR hb5 HX HE'
  by_cases he : e = 0
  · subst he
    by_cases hv : v = w
    · subst hv
      have HV : Hid (Ending.returned (.tuple #[.agg #[Value.int .i64 (v / 67108864), Value.int .i64 0, Value.int .i64 0, Value.int .i64 0, Value.int .i64 0, Value.int .i64 0], .int .i64 0]) = .returned (.tuple #[(dec v).r, .int .i64 (decE v)])) := (show _ = _ by rw [← HC.1, ← HC.2, if_pos ⟨rfl, rfl⟩, if_pos ⟨rfl, rfl⟩, ← HRR.out]; rfl)
      clear HC
      go_wp2_with (first | (refine wpList_store_st rfl 85 _ _ rfl W.heap.size _ rfl rfl CZ5.out size57 rfl rfl ?_; intro w6 hc6 hb6 hs6))
      exact ret_st2 rfl rfl W.heap.size _ rfl hc6 Tryz.underlying85 rfl size57 ⟨HV.out, B5.out.trans (hb6.below (Nat.le_refl _) B5.out.size)⟩
    · have HV : Hid (Ending.returned (.tuple #[.agg ([.int .i64 0, .int .i64 0, .int .i64 0, .int .i64 0, .int .i64 0, .int .i64 0] : List Value).toArray, .int .i64 50]) = .returned (.tuple #[(dec w).r, .int .i64 (decE w)])) := (show _ = _ by rw [← HC.1, ← HC.2, if_neg (fun h => hv h.2), if_neg (fun h => hv h.2)]; rfl)
      have hv' : (v != w) = true := by simpa using hv
      clear HC hv
      go_wp2_with (first | (refine wpList_store_st rfl 85 _ _ rfl W.heap.size _ rfl rfl CZ5.out size57 rfl rfl ?_; intro w6 hc6 hb6 hs6))
      exact ret_st2 rfl rfl W.heap.size _ rfl hc6 Tryz.underlying85 rfl size57 ⟨HV.out, B5.out.trans (hb6.below (Nat.le_refl _) B5.out.size)⟩
  · have HV : Hid (Ending.returned (.tuple #[.agg ([.int .i64 0, .int .i64 0, .int .i64 0, .int .i64 0, .int .i64 0, .int .i64 0] : List Value).toArray, .int .i64 50]) = .returned (.tuple #[(dec w).r, .int .i64 (decE w)])) := (show _ = _ by rw [← HC.1, ← HC.2, if_neg (fun h => he h.1), if_neg (fun h => he h.1)]; rfl)
    have he' : (e != 0) = true := by simpa using he
    clear HC he
    go_wp2_with (first | (refine wpList_store_st rfl 85 _ _ rfl W.heap.size _ rfl rfl CZ5.out size57 rfl rfl ?_; intro w6 hc6 hb6 hs6))
    exact ret_st2 rfl rfl W.heap.size _ rfl hc6 Tryz.underlying85 rfl size57 ⟨HV.out, B5.out.trans (hb6.below (Nat.le_refl _) B5.out.size)⟩

theorem rdecode_any (W : World) (hR : RShapes W) (hW : 3 < W.heap.size) (w : Int) (w0 : 0 ≤ w) (w1 : w < 4294967296) :
    Calls Tryz.prog 29 #[.int .u32 w] W fun e W' => e = .returned (.tuple #[(dec w).r, .int .i64 (decE w)]) ∧ Below W.heap.size W W' := by
  have hop : M.Fld w 26 6 = w / 67108864 := by unfold M.Fld; simp only [Int.reducePow]; omega
  obtain ⟨s, hs⟩ : ∃ s, shpI (M.Fld w 26 6) = s := ⟨_, rfl⟩
  have HS : ∀ x, Below W.heap.size W x → Calls Tryz.prog 59 #[.int .i64 (w / 67108864)] x fun e W' => e = .returned (.string s) ∧ x = W' := fun x hb => by have := rshape_any x (hR.below hb (by omega)) (w / 67108864); rw [← hop, hs, hop] at this; exact this
  have hsz : s.size ≤ 3 := by have := (shpI_ok (M.Fld w 26 6)).1; rw [hs] at this; exact this
  have HH : ∀ (l : Nat) (L : Int), L = (l : Int) → ∀ b, (ltr s).contains l = b → ∀ x, Calls Tryz.prog 60 #[.string s, .int .u8 L] x fun e W' => e = .returned (.bool b) ∧ x = W' := fun l L hL b hb x => by have := has_any x s l L hL (by omega); rw [hb] at this; exact this
  have hn : ltr s ∈ nine ∨ ltr s = [] := by
    rw [← hs]
    unfold shpI
    split
    · exact .inl (ltr_nine _ (by omega) (by omega))
    · exact .inr rfl
  have hL : ltr (shpI (M.Fld w 26 6)) = ltr s := by rw [hs]
  simp only [nine, List.mem_cons, List.not_mem_nil, or_false] at hn
  rcases hn with (h | h | h | h | h | h | h | h | h) | h
  · exact rdecode_0 W hR hW w w0 w1 s (hL.trans h) HS (HH 97 97 rfl _ (by rw [h]; rfl)) (HH 107 107 rfl _ (by rw [h]; rfl)) (HH 98 98 rfl _ (by rw [h]; rfl)) (HH 99 99 rfl _ (by rw [h]; rfl)) (HH 117 117 rfl _ (by rw [h]; rfl)) (HH 115 115 rfl _ (by rw [h]; rfl)) (HH 111 111 rfl _ (by rw [h]; rfl))
  · exact rdecode_1 W hR hW w w0 w1 s (hL.trans h) HS (HH 97 97 rfl _ (by rw [h]; rfl)) (HH 107 107 rfl _ (by rw [h]; rfl)) (HH 98 98 rfl _ (by rw [h]; rfl)) (HH 99 99 rfl _ (by rw [h]; rfl)) (HH 117 117 rfl _ (by rw [h]; rfl)) (HH 115 115 rfl _ (by rw [h]; rfl)) (HH 111 111 rfl _ (by rw [h]; rfl))
  · exact rdecode_2 W hR hW w w0 w1 s (hL.trans h) HS (HH 97 97 rfl _ (by rw [h]; rfl)) (HH 107 107 rfl _ (by rw [h]; rfl)) (HH 98 98 rfl _ (by rw [h]; rfl)) (HH 99 99 rfl _ (by rw [h]; rfl)) (HH 117 117 rfl _ (by rw [h]; rfl)) (HH 115 115 rfl _ (by rw [h]; rfl)) (HH 111 111 rfl _ (by rw [h]; rfl))
  · by_cases hm : w % 65536 < 32768
    · exact rdecode_3 W hR hW w w0 w1 s (hL.trans h) hm HS (HH 97 97 rfl _ (by rw [h]; rfl)) (HH 107 107 rfl _ (by rw [h]; rfl)) (HH 98 98 rfl _ (by rw [h]; rfl)) (HH 99 99 rfl _ (by rw [h]; rfl)) (HH 117 117 rfl _ (by rw [h]; rfl)) (HH 115 115 rfl _ (by rw [h]; rfl)) (HH 111 111 rfl _ (by rw [h]; rfl))
    · exact rdecode_3n W hR hW w w0 w1 s (hL.trans h) (by omega) HS (HH 97 97 rfl _ (by rw [h]; rfl)) (HH 107 107 rfl _ (by rw [h]; rfl)) (HH 98 98 rfl _ (by rw [h]; rfl)) (HH 99 99 rfl _ (by rw [h]; rfl)) (HH 117 117 rfl _ (by rw [h]; rfl)) (HH 115 115 rfl _ (by rw [h]; rfl)) (HH 111 111 rfl _ (by rw [h]; rfl))
  · by_cases hm : w % 65536 < 32768
    · exact rdecode_4 W hR hW w w0 w1 s (hL.trans h) hm HS (HH 97 97 rfl _ (by rw [h]; rfl)) (HH 107 107 rfl _ (by rw [h]; rfl)) (HH 98 98 rfl _ (by rw [h]; rfl)) (HH 99 99 rfl _ (by rw [h]; rfl)) (HH 117 117 rfl _ (by rw [h]; rfl)) (HH 115 115 rfl _ (by rw [h]; rfl)) (HH 111 111 rfl _ (by rw [h]; rfl))
    · exact rdecode_4n W hR hW w w0 w1 s (hL.trans h) (by omega) HS (HH 97 97 rfl _ (by rw [h]; rfl)) (HH 107 107 rfl _ (by rw [h]; rfl)) (HH 98 98 rfl _ (by rw [h]; rfl)) (HH 99 99 rfl _ (by rw [h]; rfl)) (HH 117 117 rfl _ (by rw [h]; rfl)) (HH 115 115 rfl _ (by rw [h]; rfl)) (HH 111 111 rfl _ (by rw [h]; rfl))
  · by_cases hm : w % 65536 < 32768
    · exact rdecode_5 W hR hW w w0 w1 s (hL.trans h) hm HS (HH 97 97 rfl _ (by rw [h]; rfl)) (HH 107 107 rfl _ (by rw [h]; rfl)) (HH 98 98 rfl _ (by rw [h]; rfl)) (HH 99 99 rfl _ (by rw [h]; rfl)) (HH 117 117 rfl _ (by rw [h]; rfl)) (HH 115 115 rfl _ (by rw [h]; rfl)) (HH 111 111 rfl _ (by rw [h]; rfl))
    · exact rdecode_5n W hR hW w w0 w1 s (hL.trans h) (by omega) HS (HH 97 97 rfl _ (by rw [h]; rfl)) (HH 107 107 rfl _ (by rw [h]; rfl)) (HH 98 98 rfl _ (by rw [h]; rfl)) (HH 99 99 rfl _ (by rw [h]; rfl)) (HH 117 117 rfl _ (by rw [h]; rfl)) (HH 115 115 rfl _ (by rw [h]; rfl)) (HH 111 111 rfl _ (by rw [h]; rfl))
  · by_cases hm : w % 65536 < 32768
    · exact rdecode_6 W hR hW w w0 w1 s (hL.trans h) hm HS (HH 97 97 rfl _ (by rw [h]; rfl)) (HH 107 107 rfl _ (by rw [h]; rfl)) (HH 98 98 rfl _ (by rw [h]; rfl)) (HH 99 99 rfl _ (by rw [h]; rfl)) (HH 117 117 rfl _ (by rw [h]; rfl)) (HH 115 115 rfl _ (by rw [h]; rfl)) (HH 111 111 rfl _ (by rw [h]; rfl))
    · exact rdecode_6n W hR hW w w0 w1 s (hL.trans h) (by omega) HS (HH 97 97 rfl _ (by rw [h]; rfl)) (HH 107 107 rfl _ (by rw [h]; rfl)) (HH 98 98 rfl _ (by rw [h]; rfl)) (HH 99 99 rfl _ (by rw [h]; rfl)) (HH 117 117 rfl _ (by rw [h]; rfl)) (HH 115 115 rfl _ (by rw [h]; rfl)) (HH 111 111 rfl _ (by rw [h]; rfl))
  · exact rdecode_7 W hR hW w w0 w1 s (hL.trans h) HS (HH 97 97 rfl _ (by rw [h]; rfl)) (HH 107 107 rfl _ (by rw [h]; rfl)) (HH 98 98 rfl _ (by rw [h]; rfl)) (HH 99 99 rfl _ (by rw [h]; rfl)) (HH 117 117 rfl _ (by rw [h]; rfl)) (HH 115 115 rfl _ (by rw [h]; rfl)) (HH 111 111 rfl _ (by rw [h]; rfl))
  · exact rdecode_8 W hR hW w w0 w1 s (hL.trans h) HS (HH 97 97 rfl _ (by rw [h]; rfl)) (HH 107 107 rfl _ (by rw [h]; rfl)) (HH 98 98 rfl _ (by rw [h]; rfl)) (HH 99 99 rfl _ (by rw [h]; rfl)) (HH 117 117 rfl _ (by rw [h]; rfl)) (HH 115 115 rfl _ (by rw [h]; rfl)) (HH 111 111 rfl _ (by rw [h]; rfl))
  · exact rdecode_9 W hR hW w w0 w1 s (hL.trans h) HS (HH 97 97 rfl _ (by rw [h]; rfl)) (HH 107 107 rfl _ (by rw [h]; rfl)) (HH 98 98 rfl _ (by rw [h]; rfl)) (HH 99 99 rfl _ (by rw [h]; rfl)) (HH 117 117 rfl _ (by rw [h]; rfl)) (HH 115 115 rfl _ (by rw [h]; rfl)) (HH 111 111 rfl _ (by rw [h]; rfl))
end Go.Proofs.YteldpapacdbbiaaGreatDoor.I
