import Derived.Test.YtbjinmlelchmgaaGreatDoorP28
import Derived.Test.YtbjinmlelchmgaaGreatDoorP01
import Derived.Test.YtbjinmlelchmgaaGreatDoorP29
namespace Go.Proofs.YtbjinmlelchmgaaGreatDoor
open Go.RowKit
set_option maxRecDepth 100000
set_option maxHeartbeats 8000000
theorem ret_q2 {P : Program} {fn : Func} {p q : Tmp} {ty e : TypeId} {d : TypeDesc} {a : Act} {w : World} {post : Ending → World → Prop} (hr : fn.results = #[.cell p ty, .tmp q]) (hd : a.defers = []) (g : Nat) (cs : List Value)
    (hp : a.tmps.getD p undef = .pointer (some ⟨g, 0, none⟩)) (hb : Cel w g e cs) (hu : P.underlying ty = some d) (hdd : (match d with | .struct _ | .array _ _ => true | _ => false) = true) (hi : (P.info? ty).map (·.size) = some cs.length) (h : post (.returned (.tuple #[.agg cs.toArray, a.tmps.getD q undef])) w) :
    bodyPost P fn post .ret a w := by
  refine bodyPost_ret (v := .tuple #[.agg cs.toArray, a.tmps.getD q undef]) ?_ hd h
  have hp' : a.tmps[p]?.getD undef = .pointer (some ⟨g, 0, none⟩) := by simpa using hp
  have := run_loadVar_row (P := P) w g e ty _ (0, 0) _ hb hu hdd (by rw [hi]; simp)
  simp [results, hr, hp', asAddr, this]
theorem KS.rev3 {W w : World} {R : List Rr} {H : List Hk} {a b c : Rr} (h : KS W w (a :: b :: c :: R) H) : KS W w (c :: b :: a :: R) H := h.perm (((List.Perm.swap _ _ _).trans ((List.Perm.swap _ _ _).cons _)).trans (List.Perm.swap _ _ _))
structure An where
  a1 : Option Addr
  c1 : Nat
  a2 : Option Addr
  c2 : Nat
  a3 : Option Addr
  c3 : Nat
  ls : List (List UInt8)
  ws : List T.Wd
  bs : List UInt8
def An.v1 (x : An) : Value := .slice x.a1 x.ls.length x.c1
def An.v2 (x : An) : Value := .slice x.a2 x.ws.length x.c2
def An.v3 (x : An) : Value := .slice x.a3 x.bs.length x.c3
def An.cs (x : An) : List Value := [x.v1, .slice none 0 0, x.v2, .slice none 0 0, x.v3, .slice none 0 0, .int .u8 0]
def An.rows (x : An) : List Rr := [⟨9, 1, x.v1, x.ls.length, strsV x.ls⟩, ⟨61, 3, x.v2, x.ws.length, wdsC x.ws⟩, ⟨5, 1, x.v3, x.bs.length, Lib.byteCells x.bs⟩]
theorem asked_any (X w : World) (R : List Rr) (H : List Hk) (h : KS X w R H) (k p u i : Int) (s : ByteArray) (ab ar : Option Addr) (nb cb nr cr : Nat) (l : List UInt8) (rws : List (List (List UInt8))) (ho : OpF X s ab ar nb nr l rws) (m : Int) (hm : X.cell? ⟨1, 0, none⟩ = some (.int .i64 m)) :
    Calls Tryz.prog 5 #[.agg #[.int .i64 k, .string s, .int .i64 p, .slice ab nb cb, .int .u32 u, .int .i32 i, .slice ar nr cr]] w fun e w' => ∃ A : An, e = .returned (.tuple #[.agg A.cs.toArray, .bool true]) ∧ A.ls = lnV s ∧ A.ws = wdV s ∧ A.bs = l ∧ KS X w' (A.rows ++ R) H := by
  have hx1 : 1 < X.heap.size := by
    rcases Nat.lt_or_ge 1 X.heap.size with h | h
    · exact h
    · exfalso
      simp [World.cell?, Array.getElem?_eq_none h] at hm
  have HP1 : Hid (∀ w, Below X.heap.size X w → Calls Tryz.prog 12 #[.string s] w fun e w' => ∃ v, e = .returned (.tuple #[v, .int .i64 (lnE s)]) ∧ w'.ownsRow w.heap.size 9 1 v (lnV s).length (strsV (lnV s)) ∧ Below w.heap.size w w') := hid (fun w hw => lines_p w s m ho.ls (by rw [hw.cell (p := ⟨1, 0, none⟩) hx1]; exact hm))
  have HP2 : Hid (∀ w, Calls Tryz.prog 13 #[.string s] w fun e w' => ∃ v k, e = .returned (.tuple #[v, .int .i64 k, .int .i64 (wdE s)]) ∧ w'.ownsRow w.heap.size 61 3 v (wdV s).length (wdsC (wdV s)) ∧ Below w.heap.size w w') := hid (fun w => words_p w s ho.ls)
  have HP3 : Hid (∀ w, Below X.heap.size X w → Calls Tryz.prog 15 #[.slice ab nb cb] w fun e w' => e = .returned (.string ⟨(T.quote l).toArray⟩) ∧ Below w.heap.size w w') := hid (fun w hw => quote_any w ab nb cb l ho.hnb (by have := ho.lb; omega) (ho.ab.on hw))
  have HP4 : Hid (∀ w, Calls Tryz.prog 14 #[.string ⟨(T.quote l).toArray⟩] w fun e w' => ∃ v, e = .returned (.tuple #[v, .int .i64 0]) ∧ HB w w' v l) := hid (fun w => by
    have hq := (T.quote_length l).2
    have h1 := ho.hnb
    have h2 := ho.lb
    refine (unquote_any w ⟨(T.quote l).toArray⟩ (by rw [arr_size]; omega)).mono ?_
    intro e w' h
    rw [show T.unquote (⟨(T.quote l).toArray⟩ : ByteArray).data.toList = some l by rw [List.toList_toArray]; exact T.unquote_quote l] at h
    exact h)
  have HL1 : Hid (∀ w, Calls Tryz.prog 17 #[.string s] w fun e w' => ∃ ao c, e = .returned (.tuple #[.slice ao (lnV s).length c, .int .i64 (lnE s)]) ∧ StrsAt w' ao (lnV s) ∧ Below w.heap.size w w') := hid (fun w => lines_r w s ho.ls)
  have HL2 : Hid (∀ w, Calls Tryz.prog 19 #[.string s] w fun e w' => ∃ ao c k, e = .returned (.tuple #[.slice ao (wdV s).length c, .int .i64 k, .int .i64 (wdE s)]) ∧ WdsAt w' ao (wdV s) ∧ Below w.heap.size w w') := hid (fun w => words_r w s ho.ls)
  have HT : Hid (∀ w (a1 a2 a3 : Option Addr) (c1 c2 c3 : Nat) (y1 y2 y3 y4 : Value), Below X.heap.size X w → StrsAt w a1 (lnV s) → WdsAt w a2 (wdV s) → AtB w a3 l → Calls Tryz.prog 7 #[.agg #[.slice a1 (lnV s).length c1, y1, .slice a2 (wdV s).length c2, y2, .slice a3 l.length c3, y3, y4], .agg #[.int .i64 k, .string s, .int .i64 p, .slice ab nb cb, .int .u32 u, .int .i32 i, .slice ar nr cr]] w fun e w' => e = .returned (.bool true) ∧ Below w.heap.size w w') := hid (fun w a1 a2 a3 c1 c2 c3 y1 y2 y3 y4 hw h1 h2 h3 => told_any X w hw k p u i s ab ar nb cb nr cr l rws ho a1 a2 a3 c1 c2 c3 y1 y2 y3 y4 h1 h2 h3)
  have HK0 := hid ((h.box 34 [.int .i64 k, .string s, .int .i64 p, .slice ab nb cb, .int .u32 u, .int .i32 i, .slice ar nr cr]).box 28 [.slice none 0 0, .slice none 0 0, .slice none 0 0, .slice none 0 0, .slice none 0 0, .slice none 0 0, .int .u8 0])
  rw [World.size_alloc] at HK0
  clear h ho hm hx1
  generalize hL1 : lnV s = L1 at *
  generalize hL2 : wdV s = L2 at *
  generalize lnE s = e1 at *
  generalize wdE s = e2 at *
  generalize hq : (⟨(T.quote l).toArray⟩ : ByteArray) = q at *
  clear hL1 hL2 hq
  go_enter Tryz.func5, Tryz.ntmps5
  go_wp2_with fail
  refine (HP1.out _ HK0.out.below).mono ?_
  rintro e w1 ⟨v1, rfl, o1, hb1⟩
  have HK1 := hid (HK0.out.add ⟨9, 1, v1, L1.length, strsV L1⟩ hb1 o1)
  generalize w.heap.size = g1 at *
  clear o1 hb1 HK0
  have k1 := (HK1.out.cel 2 rfl).cell 1
  simp only [List.getElem?_cons_zero, List.getElem?_cons_succ] at k1
  go_wp2_with fail
  refine (HP2.out _).mono ?_
  rintro e w2 ⟨v2, kk, rfl, o2, hb2⟩
  have HK2 := hid (HK1.out.add ⟨61, 3, v2, L2.length, wdsC L2⟩ hb2 o2)
  clear o2 hb2 HK1 k1
  have k3 := (HK2.out.cel 3 rfl).cell 3
  simp only [List.getElem?_cons_zero, List.getElem?_cons_succ] at k3
  go_wp2_with fail
  refine (HP3.out _ HK2.out.below).mono ?_
  rintro e w3 ⟨rfl, hb3⟩
  have HK3 := hid (HK2.out.on hb3)
  clear hb3 HK2 k3
  go_wp2_with fail
  refine (HP4.out _).mono ?_
  rintro e w4 ⟨v3, rfl, F⟩
  have HK4 := hid (HK3.out.add ⟨5, 1, v3, l.length, Lib.byteCells l⟩ F.below F.own)
  clear F HK3
  obtain ⟨a1, c1, rfl, s1⟩ := own_strs (HK4.out.mem (i := 2) rfl)
  obtain ⟨a2, c2, rfl, s2⟩ := own_wds (HK4.out.mem (i := 1) rfl)
  obtain ⟨a3, c3, rfl, s3⟩ := own_atb (HK4.out.mem (i := 0) rfl)
  have HS1 := hid s1
  have HS2 := hid s2
  have HS3 := hid s3
  clear s1 s2 s3
  have HK5 := hid (HK4.out.box 28 [.slice a1 L1.length c1, .slice none 0 0, .slice a2 L2.length c2, .slice none 0 0, .slice a3 l.length c3, .slice none 0 0, .int .u8 0])
  go_upto_region 5 with fail
  have HS1 := hid (HS1.out.on (below_one w4 (.cells #[.slice a1 L1.length c1, .slice none 0 0, .slice a2 L2.length c2, .slice none 0 0, .slice a3 l.length c3, .slice none 0 0, .int .u8 0] 28)).drew)
  have HS2 := hid (HS2.out.on (below_one w4 (.cells #[.slice a1 L1.length c1, .slice none 0 0, .slice a2 L2.length c2, .slice none 0 0, .slice a3 l.length c3, .slice none 0 0, .int .u8 0] 28)).drew)
  have HS3 := hid (HS3.out.on (below_one w4 (.cells #[.slice a1 L1.length c1, .slice none 0 0, .slice a2 L2.length c2, .slice none 0 0, .slice a3 l.length c3, .slice none 0 0, .int .u8 0] 28)).drew)
  have HK6 := hid (HK5.out.on (Below.refl _ _).drew)
  clear HK5 HK4
  generalize w4.alloc _ = w5 at *
  generalize w4.heap.size = g3 at *
  refine wp_region_held_drew (S := fun w => Cel w g3 28 [.slice a1 L1.length c1, .slice none 0 0, .slice a2 L2.length c2, .slice none 0 0, .slice a3 l.length c3, .slice none 0 0, .int .u8 0] ∧ Cel w g1 34 [.int .i64 k, .string s, .int .i64 p, .slice ab nb cb, .int .u32 u, .int .i32 i, .slice ar nr cr]) (by kernel_rfl) ⟨HK6.out.cel 0 rfl, HK6.out.cel 5 rfl⟩ (fun hHeld => ?_)
  refine tk 0 ⟨some 36, .load 28 (.tmp 11), 28, "law.go:220", #[], none⟩ (.agg #[.slice a1 L1.length c1, .slice none 0 0, .slice a2 L2.length c2, .slice none 0 0, .slice a3 l.length c3, .slice none 0 0, .int .u8 0]) ?_ (hy := Or.inl ⟨by rfl, by intro w hSw; have k0 := Cel.cell hSw.1 0; have k1 := Cel.cell hSw.1 1; have k2 := Cel.cell hSw.1 2; have k3 := Cel.cell hSw.1 3; have k4 := Cel.cell hSw.1 4; have k5 := Cel.cell hSw.1 5; have k6 := Cel.cell hSw.1 6; simp only [List.getElem?_cons_zero, List.getElem?_cons_succ] at k0 k1 k2 k3 k4 k5 k6; go_simp⟩)
  simp only [Act.put, List.setIfInBounds_toArray, List.set_cons_zero, List.set_cons_succ]
  refine tk 1 ⟨some 37, .load 28 (.tmp 11), 28, "law.go:220", #[], none⟩ (.agg #[.slice a1 L1.length c1, .slice none 0 0, .slice a2 L2.length c2, .slice none 0 0, .slice a3 l.length c3, .slice none 0 0, .int .u8 0]) ?_ (hy := Or.inl ⟨by rfl, by intro w hSw; have k0 := Cel.cell hSw.1 0; have k1 := Cel.cell hSw.1 1; have k2 := Cel.cell hSw.1 2; have k3 := Cel.cell hSw.1 3; have k4 := Cel.cell hSw.1 4; have k5 := Cel.cell hSw.1 5; have k6 := Cel.cell hSw.1 6; simp only [List.getElem?_cons_zero, List.getElem?_cons_succ] at k0 k1 k2 k3 k4 k5 k6; go_simp⟩)
  simp only [Act.put, List.setIfInBounds_toArray, List.set_cons_zero, List.set_cons_succ]
  refine tk 2 ⟨some 38, .load 34 (.tmp 1), 34, "law.go:220", #[], none⟩ (.agg #[.int .i64 k, .string s, .int .i64 p, .slice ab nb cb, .int .u32 u, .int .i32 i, .slice ar nr cr]) ?_ (hy := Or.inl ⟨by rfl, by intro w hSw; have k0 := Cel.cell hSw.2 0; have k1 := Cel.cell hSw.2 1; have k2 := Cel.cell hSw.2 2; have k3 := Cel.cell hSw.2 3; have k4 := Cel.cell hSw.2 4; have k5 := Cel.cell hSw.2 5; have k6 := Cel.cell hSw.2 6; simp only [List.getElem?_cons_zero, List.getElem?_cons_succ] at k0 k1 k2 k3 k4 k5 k6; go_simp⟩)
  simp only [Act.put, List.setIfInBounds_toArray, List.set_cons_zero, List.set_cons_succ]
  refine wpAnyH_ready (rs := [3]) (by kernel_rfl) (by simp) (AllReadyH.cons (o := ⟨some 39, .call { callee := .value (.func 7), args := #[.tmp 37, .tmp 38], argTypes := #[28, 34] }, 4, "law.go:220", #[⟨1, .data⟩, ⟨2, .data⟩], none⟩) rfl (fun KQ hK => ?_) AllReadyH.nil)
  go_simp
  refine (HT.out _ a1 a2 a3 c1 c2 c3 _ _ _ _ HK6.out.below HS1.out HS2.out HS3.out).mono ?_
  rintro e w6 ⟨rfl, hb6⟩
  have HK7 := hid (HK6.out.on hb6)
  clear hb6 HK6 HS1 HS2 HS3
  go_wp2_with fail
  refine hK.out _ _ ⟨HK7.out.cel 0 rfl, HK7.out.cel 5 rfl⟩ (fun hHeld => ?_)
  clear hK KQ
  try simp only [Act.put, List.setIfInBounds_toArray, List.set_cons_zero, List.set_cons_succ]
  refine tk 4 ⟨some 40, .move (.tmp 39), 4, "law.go:220", #[⟨3, .data⟩, ⟨3, .chain⟩], none⟩ (.bool true) ?_
  simp only [Act.put, List.setIfInBounds_toArray, List.set_cons_zero, List.set_cons_succ]
  refine tk 5 ⟨some 41, .move (.tmp 5), 39, "law.go:220", #[⟨4, .guard⟩], some (4, true)⟩ (.int .i64 e1) ?_
  simp only [Act.put, List.setIfInBounds_toArray, List.set_cons_zero, List.set_cons_succ]
  refine tk 6 ⟨some 42, .fieldAddr 34 (.tmp 1) 1, 0, "law.go:220", #[⟨4, .guard⟩], some (4, true)⟩ (.pointer (some ⟨g1, 1, none⟩)) ?_
  simp only [Act.put, List.setIfInBounds_toArray, List.set_cons_zero, List.set_cons_succ]
  refine tk 7 ⟨some 43, .load 9 (.tmp 42), 9, "law.go:220", #[⟨6, .data⟩, ⟨4, .guard⟩], some (4, true)⟩ (.string s) ?_ (hy := Or.inl ⟨by rfl, by intro w hSw; have k1 := Cel.cell hSw.2 1; simp only [List.getElem?_cons_zero, List.getElem?_cons_succ] at k1; go_simp⟩)
  simp only [Act.put, List.setIfInBounds_toArray, List.set_cons_zero, List.set_cons_succ]
  refine wpAnyH_ready (rs := [8]) (by kernel_rfl) (by simp) (AllReadyH.cons (o := ⟨some 44, .call { callee := .value (.func 17), args := #[.tmp 43], argTypes := #[9] }, 48, "law.go:220", #[⟨7, .data⟩, ⟨4, .chain⟩, ⟨4, .guard⟩], some (4, true)⟩) rfl (fun KQ hK => ?_) AllReadyH.nil)
  go_simp
  refine (HL1.out _).mono ?_
  rintro e w7 ⟨b1, d1, rfl, hs7, hb7⟩
  have HK8 := hid (HK7.out.on hb7)
  clear hs7 hb7 HK7
  go_wp2_with fail
  refine hK.out _ _ ⟨HK8.out.cel 0 rfl, HK8.out.cel 5 rfl⟩ (fun hHeld => ?_)
  clear hK KQ
  try simp only [Act.put, List.setIfInBounds_toArray, List.set_cons_zero, List.set_cons_succ]
  refine tk 9 ⟨some 45, .extract (.tmp 44) 0, 24, "law.go:220", #[⟨8, .data⟩, ⟨4, .guard⟩], some (4, true)⟩ (.slice b1 L1.length d1) ?_
  simp only [Act.put, List.setIfInBounds_toArray, List.set_cons_zero, List.set_cons_succ]
  refine tk 10 ⟨some 46, .extract (.tmp 44) 1, 3, "law.go:220", #[⟨8, .data⟩, ⟨4, .guard⟩], some (4, true)⟩ (.int .i64 e1) ?_
  simp only [Act.put, List.setIfInBounds_toArray, List.set_cons_zero, List.set_cons_succ]
  refine wpAnyH_ready (rs := [11]) (by kernel_rfl) (by simp) (AllReadyH.cons (o := ⟨some 47, .call { callee := .value (.func 16), args := #[.tmp 45, .tmp 46], argTypes := #[24, 3] }, 3, "law.go:220", #[⟨9, .data⟩, ⟨10, .data⟩, ⟨8, .chain⟩, ⟨4, .guard⟩], some (4, true)⟩) rfl (fun KQ hK => ?_) AllReadyH.nil)
  go_simp
  refine (second_any _ _ _).mono ?_
  rintro e w8 ⟨rfl, rfl⟩
  go_wp2_with fail
  refine hK.out _ _ ⟨HK8.out.cel 0 rfl, HK8.out.cel 5 rfl⟩ (fun hHeld => ?_)
  clear hK KQ
  try simp only [Act.put, List.setIfInBounds_toArray, List.set_cons_zero, List.set_cons_succ]
  refine tk 12 ⟨some 48, .binOp .eql 3 (.tmp 41) (.tmp 47) 3, 4, "law.go:220", #[⟨5, .data⟩, ⟨11, .data⟩, ⟨4, .guard⟩], some (4, true)⟩ (.bool true) ?_
  simp only [Act.put, List.setIfInBounds_toArray, List.set_cons_zero, List.set_cons_succ]
  refine tk 13 ⟨some 49, .pick (.tmp 40) (.tmp 48) (.const (.bool false)), 4, "law.go:220", #[⟨4, .data⟩, ⟨12, .data⟩], none⟩ (.bool true) ?_
  simp only [Act.put, List.setIfInBounds_toArray, List.set_cons_zero, List.set_cons_succ]
  refine tk 14 ⟨some 50, .move (.tmp 49), 4, "law.go:220", #[⟨13, .data⟩, ⟨11, .chain⟩], none⟩ (.bool true) ?_
  simp only [Act.put, List.setIfInBounds_toArray, List.set_cons_zero, List.set_cons_succ]
  refine tk 15 ⟨some 51, .move (.tmp 8), 39, "law.go:220", #[⟨14, .guard⟩], some (14, true)⟩ (.int .i64 e2) ?_
  simp only [Act.put, List.setIfInBounds_toArray, List.set_cons_zero, List.set_cons_succ]
  refine tk 16 ⟨some 52, .fieldAddr 34 (.tmp 1) 1, 0, "law.go:220", #[⟨14, .guard⟩], some (14, true)⟩ (.pointer (some ⟨g1, 1, none⟩)) ?_
  simp only [Act.put, List.setIfInBounds_toArray, List.set_cons_zero, List.set_cons_succ]
  refine tk 17 ⟨some 53, .load 9 (.tmp 52), 9, "law.go:220", #[⟨16, .data⟩, ⟨14, .guard⟩], some (14, true)⟩ (.string s) ?_ (hy := Or.inl ⟨by rfl, by intro w hSw; have k1 := Cel.cell hSw.2 1; simp only [List.getElem?_cons_zero, List.getElem?_cons_succ] at k1; go_simp⟩)
  simp only [Act.put, List.setIfInBounds_toArray, List.set_cons_zero, List.set_cons_succ]
  refine wpAnyH_ready (rs := [18]) (by kernel_rfl) (by simp) (AllReadyH.cons (o := ⟨some 54, .call { callee := .value (.func 19), args := #[.tmp 53], argTypes := #[9] }, 52, "law.go:220", #[⟨17, .data⟩, ⟨14, .chain⟩, ⟨14, .guard⟩], some (14, true)⟩) rfl (fun KQ hK => ?_) AllReadyH.nil)
  go_simp
  refine (HL2.out _).mono ?_
  rintro e w9 ⟨b2, d2, k2, rfl, hs9, hb9⟩
  have HK9 := hid (HK8.out.on hb9)
  clear hs9 hb9 HK8
  go_wp2_with fail
  refine hK.out _ _ ⟨HK9.out.cel 0 rfl, HK9.out.cel 5 rfl⟩ (fun hHeld => ?_)
  clear hK KQ
  try simp only [Act.put, List.setIfInBounds_toArray, List.set_cons_zero, List.set_cons_succ]
  refine tk 19 ⟨some 55, .extract (.tmp 54) 0, 51, "law.go:220", #[⟨18, .data⟩, ⟨14, .guard⟩], some (14, true)⟩ (.slice b2 L2.length d2) ?_
  simp only [Act.put, List.setIfInBounds_toArray, List.set_cons_zero, List.set_cons_succ]
  refine tk 20 ⟨some 56, .extract (.tmp 54) 1, 3, "law.go:220", #[⟨18, .data⟩, ⟨14, .guard⟩], some (14, true)⟩ (.int .i64 k2) ?_
  simp only [Act.put, List.setIfInBounds_toArray, List.set_cons_zero, List.set_cons_succ]
  refine tk 21 ⟨some 57, .extract (.tmp 54) 2, 3, "law.go:220", #[⟨18, .data⟩, ⟨14, .guard⟩], some (14, true)⟩ (.int .i64 e2) ?_
  simp only [Act.put, List.setIfInBounds_toArray, List.set_cons_zero, List.set_cons_succ]
  refine wpAnyH_ready (rs := [22]) (by kernel_rfl) (by simp) (AllReadyH.cons (o := ⟨some 58, .call { callee := .value (.func 18), args := #[.tmp 55, .tmp 56, .tmp 57], argTypes := #[51, 3, 3] }, 3, "law.go:220", #[⟨19, .data⟩, ⟨20, .data⟩, ⟨21, .data⟩, ⟨18, .chain⟩, ⟨14, .guard⟩], some (14, true)⟩) rfl (fun KQ hK => ?_) AllReadyH.nil)
  go_simp
  refine (third_any _ _ _ _).mono ?_
  rintro e w10 ⟨rfl, rfl⟩
  go_wp2_with fail
  refine hK.out _ _ ⟨HK9.out.cel 0 rfl, HK9.out.cel 5 rfl⟩ (fun hHeld => ?_)
  clear hK KQ
  try simp only [Act.put, List.setIfInBounds_toArray, List.set_cons_zero, List.set_cons_succ]
  refine tk 23 ⟨some 59, .binOp .eql 3 (.tmp 51) (.tmp 58) 3, 4, "law.go:220", #[⟨15, .data⟩, ⟨22, .data⟩, ⟨14, .guard⟩], some (14, true)⟩ (.bool true) ?_
  simp only [Act.put, List.setIfInBounds_toArray, List.set_cons_zero, List.set_cons_succ]
  refine tk 24 ⟨some 60, .pick (.tmp 50) (.tmp 59) (.const (.bool false)), 4, "law.go:220", #[⟨14, .data⟩, ⟨23, .data⟩], none⟩ (.bool true) ?_
  simp only [Act.put, List.setIfInBounds_toArray, List.set_cons_zero, List.set_cons_succ]
  refine tk 25 ⟨some 61, .move (.tmp 60), 4, "law.go:220", #[⟨24, .data⟩, ⟨22, .chain⟩], none⟩ (.bool true) ?_
  simp only [Act.put, List.setIfInBounds_toArray, List.set_cons_zero, List.set_cons_succ]
  refine tk 26 ⟨some 62, .move (.tmp 10), 39, "law.go:220", #[⟨25, .guard⟩, { on := 29, ground := .gcOnly Departure.lateStores }], some (25, true)⟩ (.int .i64 0) ?_
  simp only [Act.put, List.setIfInBounds_toArray, List.set_cons_zero, List.set_cons_succ]
  refine tk 27 ⟨some 63, .binOp .eql 3 (.tmp 62) (.const (.int .i64 0)) 3, 4, "law.go:220", #[⟨26, .data⟩, ⟨25, .guard⟩, { on := 29, ground := .gcOnly Departure.lateStores }], some (25, true)⟩ (.bool true) ?_
  simp only [Act.put, List.setIfInBounds_toArray, List.set_cons_zero, List.set_cons_succ]
  refine tk 28 ⟨some 64, .pick (.tmp 61) (.tmp 63) (.const (.bool false)), 4, "law.go:220", #[⟨25, .data⟩, ⟨27, .data⟩, { on := 29, ground := .gcOnly Departure.lateStores }], none⟩ (.bool true) ?_
  simp only [Act.put, List.setIfInBounds_toArray, List.set_cons_zero, List.set_cons_succ]
  refine wpAnyH_ready (rs := [29]) (by kernel_rfl) (by simp) (AllReadyH.cons (o := ⟨none, .store 28 (.tmp 2) (.tmp 36), 0, "law.go:220", #[⟨0, .data⟩, ⟨25, .chain⟩, ⟨0, .phase⟩, { on := 1, ground := .textOnly Departure.lateStores }, { on := 2, ground := .textOnly Departure.lateStores }, { on := 3, ground := .textOnly Departure.lateStoresUnsure }, { on := 4, ground := .textOnly Departure.lateStores }, { on := 5, ground := .textOnly Departure.lateStores }, { on := 6, ground := .textOnly Departure.lateStores }, { on := 7, ground := .textOnly Departure.lateStores }, { on := 8, ground := .textOnly Departure.lateStoresUnsure }, { on := 9, ground := .textOnly Departure.lateStores }, { on := 10, ground := .textOnly Departure.lateStores }, { on := 11, ground := .textOnly Departure.lateStoresUnsure }, { on := 12, ground := .textOnly Departure.lateStores }, { on := 13, ground := .textOnly Departure.lateStores }, { on := 14, ground := .textOnly Departure.lateStores }, { on := 15, ground := .textOnly Departure.lateStores }, { on := 16, ground := .textOnly Departure.lateStores }, { on := 17, ground := .textOnly Departure.lateStores }, { on := 18, ground := .textOnly Departure.lateStoresUnsure }, { on := 19, ground := .textOnly Departure.lateStores }, { on := 20, ground := .textOnly Departure.lateStores }, { on := 21, ground := .textOnly Departure.lateStores }, { on := 22, ground := .textOnly Departure.lateStoresUnsure }, { on := 23, ground := .textOnly Departure.lateStores }, { on := 24, ground := .textOnly Departure.lateStores }, { on := 25, ground := .textOnly Departure.lateStores }, { on := 26, ground := .textOnly Departure.lateStores }, { on := 27, ground := .textOnly Departure.lateStores }, { on := 28, ground := .textOnly Departure.lateStores }], none⟩) rfl (fun KQ hK => ?_) AllReadyH.nil)
  rw [if_pos (by rfl)]
  refine wp_store_box 28 _ _ rfl (g1 + 1) [.slice a1 L1.length c1, .slice none 0 0, .slice a2 L2.length c2, .slice none 0 0, .slice a3 l.length c3, .slice none 0 0, .int .u8 0] rfl rfl (HK9.out.cel 4 rfl) (by rw [size28]; rfl) rfl (by simp [Value.oneCell']) ?_
  have HKA := hid (HK9.out.put 4 rfl [.slice a1 L1.length c1, .slice none 0 0, .slice a2 L2.length c2, .slice none 0 0, .slice a3 l.length c3, .slice none 0 0, .int .u8 0])
  clear HK9
  refine hK.out _ _ ⟨HKA.out.cel 0 rfl, HKA.out.cel 5 rfl⟩ (fun hHeld => ?_)
  clear hK KQ
  try simp only [Act.put]
  revert HKA
  generalize World.setRow _ _ _ = w11
  intro HKA
  refine wpAnyH_ready (rs := [30]) (by kernel_rfl) (by simp) (AllReadyH.cons (o := ⟨some 3, .assign (.tmp 64), 4, "law.go:220", #[⟨28, .data⟩, ⟨29, .chain⟩, ⟨0, .phase⟩, ⟨1, .phase⟩, ⟨2, .phase⟩, ⟨3, .phase⟩, ⟨4, .phase⟩, ⟨5, .phase⟩, ⟨6, .phase⟩, ⟨7, .phase⟩, ⟨8, .phase⟩, ⟨9, .phase⟩, ⟨10, .phase⟩, ⟨11, .phase⟩, ⟨12, .phase⟩, ⟨13, .phase⟩, ⟨14, .phase⟩, ⟨15, .phase⟩, ⟨16, .phase⟩, ⟨17, .phase⟩, ⟨18, .phase⟩, ⟨19, .phase⟩, ⟨20, .phase⟩, ⟨21, .phase⟩, ⟨22, .phase⟩, ⟨23, .phase⟩, ⟨24, .phase⟩, ⟨25, .phase⟩, ⟨26, .phase⟩, ⟨27, .phase⟩, ⟨28, .phase⟩, ⟨29, .phase⟩], none⟩) rfl (fun KQ hK => ?_) AllReadyH.nil)
  go_simp
  refine hK.out _ _ ⟨HKA.out.cel 0 rfl, HKA.out.cel 5 rfl⟩ (fun hHeld => ?_)
  clear hK KQ
  try simp only [Act.put, List.setIfInBounds_toArray, List.set_cons_zero, List.set_cons_succ]
  refine wpAnyH_done (by kernel_rfl) ?_ _
  go_wp2_with fail
  refine ret_q2 rfl rfl (g1 + 1) [.slice a1 L1.length c1, .slice none 0 0, .slice a2 L2.length c2, .slice none 0 0, .slice a3 l.length c3, .slice none 0 0, .int .u8 0] rfl (HKA.out.cel 4 rfl) Tryz.underlying28 rfl (by rw [size28]; rfl) ⟨⟨a1, c1, a2, c2, a3, c3, L1, L2, l⟩, rfl, rfl, rfl, rfl, ?_⟩
  have hf := ((HKA.out.tail).er 3).er 3
  exact KS.rev3 hf
end Go.Proofs.YtbjinmlelchmgaaGreatDoor
