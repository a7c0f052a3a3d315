import Derived.Test.YtncnogndopgknaaGreatDoorP07
import Derived.Test.YtncnogndopgknaaGreatDoorP01
namespace Go.Proofs.YtncnogndopgknaaGreatDoor
open Go.RowKit

def shpI (op : Int) : ByteArray := if 1 ≤ op ∧ op < 25 then shp op.toNat else ⟨#[]⟩
theorem shape_any (W : World) (hF : Forms W) (op : Int) : Calls Tryz.prog 47 #[.int .i64 op] W fun e W' => e = .returned (.string (shpI op)) ∧ W = W' := by
  by_cases h : 1 ≤ op ∧ op < 25
  · have hc := (hF op.toNat (by omega)).2
    have HR : Hid (shp op.toNat = shpI op) := (if_pos h).symm
    generalize shp op.toNat = s at *
    obtain ⟨o0, o1⟩ := h
    have o2 : 0 ≤ op := by omega
    clear hF
    go_enter Tryz.func47, Tryz.ntmps47
    go_wp2_with (go_at_call 69; refine (isOp_any _ _).mono ?_; rintro e w' ⟨rfl, rfl⟩)
    go_ret
    exact ⟨congrArg (fun x => Ending.returned (.string x)) HR.out, rfl⟩
  · have HR : Hid (⟨#[]⟩ = shpI op) := (if_neg h).symm
    have HO' : Hid (∀ w, Calls Tryz.prog 69 #[.int .i64 op] w fun e W' => e = .returned (.bool false) ∧ w = W') := fun w => by have := isOp_any w op; rwa [decide_eq_false h] at this
    clear hF h
    go_enter Tryz.func47, Tryz.ntmps47
    go_wp2_with (go_at_call 69; refine (HO'.out _).mono ?_; rintro e w' ⟨rfl, rfl⟩)
    go_ret
    exact ⟨congrArg (fun x => Ending.returned (.string x)) HR.out, rfl⟩

def decL (w : Int) (L : List Nat) : Ins := L.foldl (fun r l => r.put l (rd w l)) ⟨M.Fld w 26 6, 0, 0, 0, 0, 0⟩
def decI (w : Int) : Ins := decL w (ltr (shpI (M.Fld w 26 6)))
def decOk (w : Int) : Prop := chk (decI w) = 0 ∧ enc (decI w) = w
instance (w : Int) : Decidable (decOk w) := by unfold decOk; exact inferInstance
def dec (w : Int) : Ins := if decOk w then decI w else Ins.z
def decE (w : Int) : Int := if decOk w then 0 else 50
theorem decL_snoc (w : Int) (L : List Nat) (l : Nat) : decL w (L ++ [l]) = (decL w L).put l (rd w l) := by simp [decL, List.foldl_append]
theorem rd_ok (w : Int) (l : Nat) (h : letter l) : -32768 ≤ rd w l ∧ rd w l ≤ 65535 := by
  have e := M.ext_eq (M.Fld w 0 16) 16 (by decide) (by decide)
  have b := M.fld_bounds w 0 16 (by decide)
  have b1 := M.fld_bounds w 22 4 (by decide)
  have b2 := M.fld_bounds w 18 4 (by decide)
  have b3 := M.fld_bounds w 14 4 (by decide)
  have b4 := M.fld_bounds w 22 3 (by decide)
  have x : -32768 ≤ M.Ext (M.Fld w 0 16) 16 ∧ M.Ext (M.Fld w 0 16) 16 ≤ 65535 := by
    unfold M.Ext
    have : M.Fld w 0 16 % 2 ^ 16 = M.Fld w 0 16 := Int.emod_eq_of_lt b.1 (by simpa using b.2.1)
    rw [this]
    simp only [Nat.reduceSub, Int.reducePow] at *
    split <;> omega
  simp only [Int.reducePow] at *
  rcases h with rfl | rfl | rfl | rfl | rfl | rfl | rfl <;> simp [rd, fl] <;> omega
theorem put_imm (r : Ins) (l : Nat) (v : Int) (h : -32768 ≤ r.imm ∧ r.imm ≤ 65535) (hv : -32768 ≤ v ∧ v ≤ 65535) : -32768 ≤ (r.put l v).imm ∧ (r.put l v).imm ≤ 65535 := by
  unfold Ins.put
  repeat' split
  all_goals simp only <;> omega
theorem shpI_ok (op : Int) : (shpI op).size ≤ 3 ∧ ∀ k (h : k < (shpI op).size), letter (shpI op)[k].toNat := by
  unfold shpI
  split
  · have h2 := shp_ok op.toNat (by omega)
    exact ⟨h2.1, fun k hk => h2.2 _ (List.mem_iff_getElem.2 ⟨k, by rw [ltr_len]; exact hk, ltr_get _ k hk⟩)⟩
  · exact ⟨by decide, fun k hk => absurd hk (by simp [ByteArray.size])⟩

theorem ret_st2 {P : Program} {fn : Func} {p q : Tmp} {ty e : TypeId} {d : TypeDesc} {a : Act} {w : World} {post : Ending → World → Prop} (hr : fn.results = #[.cell p ty, .tmp q]) (hd : a.defers = []) (g : Nat) (cs : List Value)
    (hp : a.tmps.getD p undef = .pointer (some ⟨g, 0, none⟩)) (hb : Cel w g e cs) (hu : P.underlying ty = some d) (hdd : (match d with | .struct _ | .array _ _ => true | _ => false) = true) (hi : (P.info? ty).map (·.size) = some cs.length) (h : post (.returned (.tuple #[.agg cs.toArray, a.tmps.getD q undef])) w) :
    bodyPost P fn post .ret a w := by
  refine bodyPost_ret (v := .tuple #[.agg cs.toArray, a.tmps.getD q undef]) ?_ hd h
  have hp' : a.tmps[p]?.getD undef = .pointer (some ⟨g, 0, none⟩) := by simpa using hp
  have := run_loadVar_row (P := P) w g e ty _ (0, 0) _ hb hu hdd (by rw [hi]; simp)
  simp [results, hr, hp', asAddr, this]

set_option maxRecDepth 40000 in
set_option maxHeartbeats 4000000 in
theorem decode_any (W : World) (hF : Forms W) (hT : Tab W) (hW : 5 < W.heap.size) (w : Int) (w0 : 0 ≤ w) (w1 : w < 4294967296) :
    Calls Tryz.prog 29 #[.int .u32 w] W fun e W' => e = .returned (.tuple #[(dec w).v, .int .i64 (decE w)]) ∧ Below W.heap.size W W' := by
  have HT : Hid (∀ x, Below W.heap.size W x → Tab x ∧ Forms x ∧ 5 < x.heap.size) := fun x hb => ⟨hT.below hb hW, hF.below hb (by omega), by have := hb.size; omega⟩
  clear hF hT hW
  have Fw := fld_w w 26 6 (by decide)
  obtain ⟨op, HO⟩ : ∃ op, Hid (M.Fld w 26 6 = op) := ⟨_, rfl⟩
  have Hf : Hid (∀ x, Below W.heap.size W x → Calls Tryz.prog 46 #[.int .u32 w, .int .i64 26, .int .i64 6] x fun e W' => e = .returned (.int .u32 op) ∧ ∃ k, W' = x.drewN k) := fun x hb => by rw [← HO.out]; exact field_yes x (HT.out x hb).1 w 26 6 w0 w1 (by decide) (by decide) (by decide)
  rw [HO.out] at Fw
  obtain ⟨s, HSS⟩ : ∃ s, Hid (shpI op = s) := ⟨_, rfl⟩
  have HS := shpI_ok op
  rw [HSS.out] at HS
  have HS13 : Hid (∀ x, Below W.heap.size W x → Calls Tryz.prog 47 #[.int .i64 op] x fun e W' => e = .returned (.string s) ∧ x = W') := fun x hb => by rw [← HSS.out]; exact shape_any x (HT.out x hb).2.1 op
  have HL : Hid (∀ k (h : k < s.size), letter s[k].toNat) := HS.2
  have hs : (s.size : Int) ≤ 3 := by have := HS.1; omega
  clear HS
  go_enter Tryz.func29, Tryz.ntmps29
  go_wp2_with (first | (go_at_call 46; refine (Hf.out _ (below_one _ _)).mono ?_; rintro e w1 ⟨rfl, k1, rfl⟩) | (go_at_call 47; refine (HS13.out _ (Below.alloc (below_drewN (below_one _ _) _) (below_drewN (below_one _ _) _).size _)).mono ?_; rintro e w2 ⟨rfl, rfl⟩))
  clear Hf HS13
  have CI0 : Hid (CI W (((W.alloc (Obj.cells #[Value.int .i64 0, Value.int .i64 0, Value.int .i64 0, Value.int .i64 0, Value.int .i64 0, Value.int .i32 0] 84)).drewN k1).alloc (Obj.cells #[Value.int .i64 op, Value.int .i64 0, Value.int .i64 0, Value.int .i64 0, Value.int .i64 0, Value.int .i32 0] 84)) W.heap.size (W.heap.size + 1) Ins.z.cs (decL w []).cs) := by
    have h1 := below_drewN (below_one W (Obj.cells #[Value.int .i64 0, Value.int .i64 0, Value.int .i64 0, Value.int .i64 0, Value.int .i64 0, Value.int .i32 0] 84)) k1
    have hz : ((W.alloc (Obj.cells #[Value.int .i64 0, Value.int .i64 0, Value.int .i64 0, Value.int .i64 0, Value.int .i64 0, Value.int .i32 0] 84)).drewN k1).heap.size = W.heap.size + 1 := by show (W.heap.push _).size = _; simp
    have c1 : Cel ((W.alloc (Obj.cells #[Value.int .i64 0, Value.int .i64 0, Value.int .i64 0, Value.int .i64 0, Value.int .i64 0, Value.int .i32 0] 84)).drewN k1) W.heap.size 84 Ins.z.cs := Cel.new W 84 Ins.z.cs
    generalize (W.alloc (Obj.cells #[Value.int .i64 0, Value.int .i64 0, Value.int .i64 0, Value.int .i64 0, Value.int .i64 0, Value.int .i32 0] 84)).drewN k1 = Y at *
    have c2 : Cel (Y.alloc (Obj.cells #[Value.int .i64 op, Value.int .i64 0, Value.int .i64 0, Value.int .i64 0, Value.int .i64 0, Value.int .i32 0] 84)) Y.heap.size 84 [Value.int .i64 op, Value.int .i64 0, Value.int .i64 0, Value.int .i64 0, Value.int .i64 0, Value.int .i32 0] := Cel.new _ _ _
    rw [hz] at c2
    refine ⟨below_on h1 (below_one _ _), c1.on (below_one _ _), ?_, Nat.le_refl _, by omega, by omega⟩
    rw [show decL w [] = ⟨op, 0, 0, 0, 0, 0⟩ by rw [← HO.out]; rfl]
    exact c2
  generalize ((W.alloc (Obj.cells #[Value.int .i64 0, Value.int .i64 0, Value.int .i64 0, Value.int .i64 0, Value.int .i64 0, Value.int .i32 0] 84)).drewN k1).alloc (Obj.cells #[Value.int .i64 op, Value.int .i64 0, Value.int .i64 0, Value.int .i64 0, Value.int .i64 0, Value.int .i32 0] 84) = X at *
  obtain ⟨gd, hgd⟩ : ∃ g, W.heap.size + 1 = g := ⟨_, rfl⟩
  obtain ⟨gz, hgz⟩ : ∃ g, W.heap.size = g := ⟨_, rfl⟩
  rw [hgd] at CI0 ⊢
  rw [hgz] at CI0 ⊢
  clear hgd hgz
  go_loopw [18] (fun i wr => ∃ (k : Nat) (R : Ins), k ≤ s.size ∧ i = .int .i64 k ∧ Hid (CI W wr gz gd Ins.z.cs R.cs) ∧ Hid (R = decL w ((ltr s).take k) ∧ -32768 ≤ R.imm ∧ R.imm ≤ 65535)) (fun i _ => s.size - (intOf i).toNat)
  case atStart => exact ⟨0, _, Nat.zero_le _, rfl, CI0, rfl, (show (-32768 : Int) ≤ 0 by decide), (show (0 : Int) ≤ 65535 by decide)⟩
  case round =>
    clear CI0
    obtain ⟨k, R, hk, rfl, HCI, HH⟩ := hrel
    by_cases hk2 : k < s.size
    · have c1 : (k : Int) < (s.size : Int) := by omega
      obtain ⟨l, hlk⟩ : ∃ l, s[k].toNat = l := ⟨_, rfl⟩
      have HLL : Hid (letter l) := by have := HL.out k hk2; rw [hlk] at this; exact this
      have RD : Hid (-32768 ≤ rd w l ∧ rd w l ≤ 65535) := rd_ok w l HLL.out
      go_wp2_with fail
      have CX0 : Hid (CI W wr.drew gz gd Ins.z.cs R.cs) := HCI.out.on (Below.refl _ _).drew
      refine wp_region_held_drew (S := fun x => But gd wr x) (by kernel_rfl) (but_drew _ _) (fun hHeld => ?_)
      refine tk 1 ⟨some 22, .move (.tmp 5), 9, "isa.go:102", #[], none⟩ (.string s) ?_
      simp only [Act.put, List.setIfInBounds_toArray, List.set_cons_zero, List.set_cons_succ]
      refine tk 2 ⟨some 23, .move (.tmp 6), 3, "isa.go:102", #[], none⟩ (.int .i64 (k : Int)) ?_
      simp only [Act.put, List.setIfInBounds_toArray, List.set_cons_zero, List.set_cons_succ]
      refine tk 3 ⟨some 24, .index 9 (.tmp 22) (.tmp 23), 5, "isa.go:102", #[⟨1, .data⟩, ⟨2, .data⟩], none⟩ (.int .u8 (l : Int)) ?_
      simp only [Act.put, List.setIfInBounds_toArray, List.set_cons_zero, List.set_cons_succ]
      refine tk 4 ⟨some 25, .move (.tmp 5), 9, "isa.go:102", #[], none⟩ (.string s) ?_
      simp only [Act.put, List.setIfInBounds_toArray, List.set_cons_zero, List.set_cons_succ]
      refine tk 5 ⟨some 26, .move (.tmp 6), 3, "isa.go:102", #[], none⟩ (.int .i64 (k : Int)) ?_
      simp only [Act.put, List.setIfInBounds_toArray, List.set_cons_zero, List.set_cons_succ]
      refine tk 6 ⟨some 27, .index 9 (.tmp 25) (.tmp 26), 5, "isa.go:102", #[⟨4, .data⟩, ⟨5, .data⟩], none⟩ (.int .u8 (l : Int)) ?_
      simp only [Act.put, List.setIfInBounds_toArray, List.set_cons_zero, List.set_cons_succ]
      refine tk 8 ⟨some 29, .move (.tmp 0), 22, "isa.go:102", #[], none⟩ (.int .u32 w) ?_
      simp only [Act.put, List.setIfInBounds_toArray, List.set_cons_zero, List.set_cons_succ]
      have BX0 : Hid (But gd wr wr.drew) := but_drew _ _
      generalize wr.drew = x0 at *
      refine wpAnyH_ready (rs := [0, 7]) (by kernel_rfl) (by simp) (AllReadyH.cons (o := ⟨some 21, .load 84 (.tmp 4), 84, "isa.go:102", #[], none⟩) rfl (fun KQ hK => ?_) (AllReadyH.cons (o := ⟨some 28, .call { callee := .value (.func 44), args := #[.tmp 27], argTypes := #[5] }, 125, "isa.go:102", #[⟨6, .data⟩], none⟩) rfl (fun KQ hK => ?_) AllReadyH.nil))
      · rw [if_pos (by rfl)]
        refine wp_load_mid 84 _ rfl gd 0 rfl R.cs _ CX0.out.r.range Tryz.underlying84 rfl size27 ?_
        refine hK.out _ _ BX0.out (fun hHeld => ?_)
        clear hK KQ
        try simp only [Act.put, List.setIfInBounds_toArray, List.set_cons_zero, List.set_cons_succ]
        refine wpAnyH_ready (rs := [7]) (by kernel_rfl) (by simp) (AllReadyH.cons (o := ⟨some 28, .call { callee := .value (.func 44), args := #[.tmp 27], argTypes := #[5] }, 125, "isa.go:102", #[⟨6, .data⟩], none⟩) rfl (fun KQ hK => ?_) AllReadyH.nil)
        go_simp
        refine (fieldOf_any l HLL.out _ rfl _).mono ?_
        rintro e w1x ⟨rfl, hb1⟩
        have BB1 : Hid (But gd wr w1x) := (BX0.out).more hb1
        have C1 : Hid (CI W w1x gz gd Ins.z.cs R.cs) := CX0.out.on hb1
        go_wp2_with fail
        refine hK.out _ _ BB1.out (fun hHeld => ?_)
        clear hK KQ
        try simp only [Act.put, List.setIfInBounds_toArray, List.set_cons_zero, List.set_cons_succ]
        refine wpAnyH_ready (rs := [9]) (by kernel_rfl) (by simp) (AllReadyH.cons (o := ⟨some 30, .call { callee := .value (.func 49), args := #[.tmp 28, .tmp 29], argTypes := #[125, 22] }, 3, "isa.go:102", #[⟨7, .data⟩, ⟨8, .data⟩, ⟨7, .chain⟩], none⟩) rfl (fun KQ hK => ?_) AllReadyH.nil)
        go_simp
        refine (iread_any _ (HT.out _ C1.out.below).1 (HT.out _ C1.out.below).2.2 w w0 w1 l HLL.out).mono ?_
        rintro e w2x ⟨rfl, hb2⟩
        have BB2 : Hid (But gd wr w2x) := (BB1.out).more hb2
        have C2 : Hid (CI W w2x gz gd Ins.z.cs R.cs) := C1.out.on hb2
        go_wp2_with fail
        refine hK.out _ _ BB2.out (fun hHeld => ?_)
        clear hK KQ
        try simp only [Act.put, List.setIfInBounds_toArray, List.set_cons_zero, List.set_cons_succ]
        refine wpAnyH_ready (rs := [10]) (by kernel_rfl) (by simp) (AllReadyH.cons (o := ⟨some 31, .call { callee := .value (.func 48), args := #[.tmp 21, .tmp 24, .tmp 30], argTypes := #[84, 5, 3] }, 84, "isa.go:102", #[⟨0, .data⟩, ⟨3, .data⟩, ⟨9, .data⟩, ⟨9, .chain⟩], none⟩) rfl (fun KQ hK => ?_) AllReadyH.nil)
        go_simp
        refine (with_any R l HLL.out _ rfl (rd w l) (by have := RD.out; omega) (by have := RD.out; omega) _).mono ?_
        rintro e w3x ⟨rfl, hb3⟩
        have BB3 : Hid (But gd wr w3x) := (BB2.out).more hb3
        have C3 : Hid (CI W w3x gz gd Ins.z.cs R.cs) := C2.out.on hb3
        go_wp2_with fail
        refine hK.out _ _ BB3.out (fun hHeld => ?_)
        clear hK KQ
        try simp only [Act.put, List.setIfInBounds_toArray, List.set_cons_zero, List.set_cons_succ]
        refine wpAnyH_ready (rs := [11]) (by kernel_rfl) (by simp) (AllReadyH.cons (o := ⟨none, .store 84 (.tmp 4) (.tmp 31), 0, "isa.go:102", #[⟨10, .data⟩, ⟨10, .chain⟩, ⟨0, .phase⟩, ⟨1, .phase⟩, ⟨2, .phase⟩, ⟨3, .phase⟩, ⟨4, .phase⟩, ⟨5, .phase⟩, ⟨6, .phase⟩, ⟨7, .phase⟩, ⟨8, .phase⟩, ⟨9, .phase⟩, ⟨10, .phase⟩], none⟩) rfl (fun KQ hK => ?_) AllReadyH.nil)
        rw [if_pos (by rfl)]
        refine wp_store_st 84 _ _ rfl gd (R.put l (rd w l)).cs rfl rfl C3.out.r size27 rfl rfl ?_
        refine hK.out _ _ (BB3.out.trans (but_setRow _ _ _)) (fun hHeld => ?_)
        clear hK KQ
        simp only [Act.put]
        refine wpAnyH_done (by kernel_rfl) ?_ _
        have CF : Hid (CI W (w3x.setRow gd (R.put l (rd w l)).cs.toArray) gz gd Ins.z.cs (R.put l (rd w l)).cs) := C3.out.set _
        clear hHeld
        generalize (w3x.setRow gd (R.put l (rd w l)).cs.toArray) = w11 at *
        go_wp2_with fail
        go_roundw
        case measure => simp [intOf]; omega
        case rel => exact ⟨k + 1, R.put l (rd w l), by omega, by go_num, CF, by rw [ltr_snoc s k hk2, decL_snoc, hlk, HH.out.1], put_imm R l _ HH.out.2 RD.out⟩
      · go_simp
        refine (fieldOf_any l HLL.out _ rfl _).mono ?_
        rintro e w1x ⟨rfl, hb1⟩
        have BB1 : Hid (But gd wr w1x) := (BX0.out).more hb1
        have C1 : Hid (CI W w1x gz gd Ins.z.cs R.cs) := CX0.out.on hb1
        go_wp2_with fail
        refine hK.out _ _ BB1.out (fun hHeld => ?_)
        clear hK KQ
        try simp only [Act.put, List.setIfInBounds_toArray, List.set_cons_zero, List.set_cons_succ]
        refine wpAnyH_ready (rs := [0, 9]) (by kernel_rfl) (by simp) (AllReadyH.cons (o := ⟨some 21, .load 84 (.tmp 4), 84, "isa.go:102", #[], none⟩) rfl (fun KQ hK => ?_) (AllReadyH.cons (o := ⟨some 30, .call { callee := .value (.func 49), args := #[.tmp 28, .tmp 29], argTypes := #[125, 22] }, 3, "isa.go:102", #[⟨7, .data⟩, ⟨8, .data⟩, ⟨7, .chain⟩], none⟩) rfl (fun KQ hK => ?_) AllReadyH.nil))
        · rw [if_pos (by rfl)]
          refine wp_load_mid 84 _ rfl gd 0 rfl R.cs _ C1.out.r.range Tryz.underlying84 rfl size27 ?_
          refine hK.out _ _ BB1.out (fun hHeld => ?_)
          clear hK KQ
          try simp only [Act.put, List.setIfInBounds_toArray, List.set_cons_zero, List.set_cons_succ]
          refine wpAnyH_ready (rs := [9]) (by kernel_rfl) (by simp) (AllReadyH.cons (o := ⟨some 30, .call { callee := .value (.func 49), args := #[.tmp 28, .tmp 29], argTypes := #[125, 22] }, 3, "isa.go:102", #[⟨7, .data⟩, ⟨8, .data⟩, ⟨7, .chain⟩], none⟩) rfl (fun KQ hK => ?_) AllReadyH.nil)
          go_simp
          refine (iread_any _ (HT.out _ C1.out.below).1 (HT.out _ C1.out.below).2.2 w w0 w1 l HLL.out).mono ?_
          rintro e w2x ⟨rfl, hb2⟩
          have BB2 : Hid (But gd wr w2x) := (BB1.out).more hb2
          have C2 : Hid (CI W w2x gz gd Ins.z.cs R.cs) := C1.out.on hb2
          go_wp2_with fail
          refine hK.out _ _ BB2.out (fun hHeld => ?_)
          clear hK KQ
          try simp only [Act.put, List.setIfInBounds_toArray, List.set_cons_zero, List.set_cons_succ]
          refine wpAnyH_ready (rs := [10]) (by kernel_rfl) (by simp) (AllReadyH.cons (o := ⟨some 31, .call { callee := .value (.func 48), args := #[.tmp 21, .tmp 24, .tmp 30], argTypes := #[84, 5, 3] }, 84, "isa.go:102", #[⟨0, .data⟩, ⟨3, .data⟩, ⟨9, .data⟩, ⟨9, .chain⟩], none⟩) rfl (fun KQ hK => ?_) AllReadyH.nil)
          go_simp
          refine (with_any R l HLL.out _ rfl (rd w l) (by have := RD.out; omega) (by have := RD.out; omega) _).mono ?_
          rintro e w3x ⟨rfl, hb3⟩
          have BB3 : Hid (But gd wr w3x) := (BB2.out).more hb3
          have C3 : Hid (CI W w3x gz gd Ins.z.cs R.cs) := C2.out.on hb3
          go_wp2_with fail
          refine hK.out _ _ BB3.out (fun hHeld => ?_)
          clear hK KQ
          try simp only [Act.put, List.setIfInBounds_toArray, List.set_cons_zero, List.set_cons_succ]
          refine wpAnyH_ready (rs := [11]) (by kernel_rfl) (by simp) (AllReadyH.cons (o := ⟨none, .store 84 (.tmp 4) (.tmp 31), 0, "isa.go:102", #[⟨10, .data⟩, ⟨10, .chain⟩, ⟨0, .phase⟩, ⟨1, .phase⟩, ⟨2, .phase⟩, ⟨3, .phase⟩, ⟨4, .phase⟩, ⟨5, .phase⟩, ⟨6, .phase⟩, ⟨7, .phase⟩, ⟨8, .phase⟩, ⟨9, .phase⟩, ⟨10, .phase⟩], none⟩) rfl (fun KQ hK => ?_) AllReadyH.nil)
          rw [if_pos (by rfl)]
          refine wp_store_st 84 _ _ rfl gd (R.put l (rd w l)).cs rfl rfl C3.out.r size27 rfl rfl ?_
          refine hK.out _ _ (BB3.out.trans (but_setRow _ _ _)) (fun hHeld => ?_)
          clear hK KQ
          simp only [Act.put]
          refine wpAnyH_done (by kernel_rfl) ?_ _
          have CF : Hid (CI W (w3x.setRow gd (R.put l (rd w l)).cs.toArray) gz gd Ins.z.cs (R.put l (rd w l)).cs) := C3.out.set _
          clear hHeld
          generalize (w3x.setRow gd (R.put l (rd w l)).cs.toArray) = w11 at *
          go_wp2_with fail
          go_roundw
          case measure => simp [intOf]; omega
          case rel => exact ⟨k + 1, R.put l (rd w l), by omega, by go_num, CF, by rw [ltr_snoc s k hk2, decL_snoc, hlk, HH.out.1], put_imm R l _ HH.out.2 RD.out⟩
        · go_simp
          refine (iread_any _ (HT.out _ C1.out.below).1 (HT.out _ C1.out.below).2.2 w w0 w1 l HLL.out).mono ?_
          rintro e w2x ⟨rfl, hb2⟩
          have BB2 : Hid (But gd wr w2x) := (BB1.out).more hb2
          have C2 : Hid (CI W w2x gz gd Ins.z.cs R.cs) := C1.out.on hb2
          go_wp2_with fail
          refine hK.out _ _ BB2.out (fun hHeld => ?_)
          clear hK KQ
          try simp only [Act.put, List.setIfInBounds_toArray, List.set_cons_zero, List.set_cons_succ]
          refine wpAnyH_ready (rs := [0]) (by kernel_rfl) (by simp) (AllReadyH.cons (o := ⟨some 21, .load 84 (.tmp 4), 84, "isa.go:102", #[], none⟩) rfl (fun KQ hK => ?_) AllReadyH.nil)
          rw [if_pos (by rfl)]
          refine wp_load_mid 84 _ rfl gd 0 rfl R.cs _ C2.out.r.range Tryz.underlying84 rfl size27 ?_
          refine hK.out _ _ BB2.out (fun hHeld => ?_)
          clear hK KQ
          try simp only [Act.put, List.setIfInBounds_toArray, List.set_cons_zero, List.set_cons_succ]
          refine wpAnyH_ready (rs := [10]) (by kernel_rfl) (by simp) (AllReadyH.cons (o := ⟨some 31, .call { callee := .value (.func 48), args := #[.tmp 21, .tmp 24, .tmp 30], argTypes := #[84, 5, 3] }, 84, "isa.go:102", #[⟨0, .data⟩, ⟨3, .data⟩, ⟨9, .data⟩, ⟨9, .chain⟩], none⟩) rfl (fun KQ hK => ?_) AllReadyH.nil)
          go_simp
          refine (with_any R l HLL.out _ rfl (rd w l) (by have := RD.out; omega) (by have := RD.out; omega) _).mono ?_
          rintro e w3x ⟨rfl, hb3⟩
          have BB3 : Hid (But gd wr w3x) := (BB2.out).more hb3
          have C3 : Hid (CI W w3x gz gd Ins.z.cs R.cs) := C2.out.on hb3
          go_wp2_with fail
          refine hK.out _ _ BB3.out (fun hHeld => ?_)
          clear hK KQ
          try simp only [Act.put, List.setIfInBounds_toArray, List.set_cons_zero, List.set_cons_succ]
          refine wpAnyH_ready (rs := [11]) (by kernel_rfl) (by simp) (AllReadyH.cons (o := ⟨none, .store 84 (.tmp 4) (.tmp 31), 0, "isa.go:102", #[⟨10, .data⟩, ⟨10, .chain⟩, ⟨0, .phase⟩, ⟨1, .phase⟩, ⟨2, .phase⟩, ⟨3, .phase⟩, ⟨4, .phase⟩, ⟨5, .phase⟩, ⟨6, .phase⟩, ⟨7, .phase⟩, ⟨8, .phase⟩, ⟨9, .phase⟩, ⟨10, .phase⟩], none⟩) rfl (fun KQ hK => ?_) AllReadyH.nil)
          rw [if_pos (by rfl)]
          refine wp_store_st 84 _ _ rfl gd (R.put l (rd w l)).cs rfl rfl C3.out.r size27 rfl rfl ?_
          refine hK.out _ _ (BB3.out.trans (but_setRow _ _ _)) (fun hHeld => ?_)
          clear hK KQ
          simp only [Act.put]
          refine wpAnyH_done (by kernel_rfl) ?_ _
          have CF : Hid (CI W (w3x.setRow gd (R.put l (rd w l)).cs.toArray) gz gd Ins.z.cs (R.put l (rd w l)).cs) := C3.out.set _
          clear hHeld
          generalize (w3x.setRow gd (R.put l (rd w l)).cs.toArray) = w11 at *
          go_wp2_with fail
          go_roundw
          case measure => simp [intOf]; omega
          case rel => exact ⟨k + 1, R.put l (rd w l), by omega, by go_num, CF, by rw [ltr_snoc s k hk2, decL_snoc, hlk, HH.out.1], put_imm R l _ HH.out.2 RD.out⟩
    · obtain rfl : k = s.size := by omega
      have HT2 : Hid (R = decI w) := (show R = decI w by have := HH.out.1; rw [show (ltr s).take s.size = ltr s by rw [← ltr_len, List.take_length], ← HSS.out, ← HO.out] at this; exact this)
      have HE : Hid (∀ x, Below W.heap.size W x → Calls Tryz.prog 28 #[R.v] x fun e W' => e = .returned (.tuple #[.int .u32 (enc R), .int .i64 (chk R)]) ∧ Below x.heap.size x W') := fun x hb => encode_any x (HT.out x hb).2.1 (HT.out x hb).1 (HT.out x hb).2.2 R (by have := HH.out.2; omega) (by have := HH.out.2; omega)
      have HD : Hid (∀ v e : Int, enc R = v → chk R = e → (if e = 0 ∧ v = w then R else Ins.z) = dec w ∧ (if e = 0 ∧ v = w then 0 else 50) = decE w) := fun v e h1 h2 => by
        have h3 := HT2.out
        subst h1 h2 h3
        by_cases h : decOk w
        · have h' : chk (decI w) = 0 ∧ enc (decI w) = w := h
          rw [if_pos h', if_pos h', dec, decE, if_pos h, if_pos h]
          exact ⟨rfl, rfl⟩
        · have h' : ¬ (chk (decI w) = 0 ∧ enc (decI w) = w) := h
          rw [if_neg h', if_neg h', dec, decE, if_neg h, if_neg h]
          exact ⟨rfl, rfl⟩
      clear HH hk hk2 HT2 HSS HO
      obtain ⟨p0, p1, p2, p3, p4, p5⟩ := R
      have z0 : wr.cell? ⟨gd, 0, none⟩ = some (.int .i64 p0) := HCI.out.r.cell 0
      have z1 : wr.cell? ⟨gd, 1, none⟩ = some (.int .i64 p1) := HCI.out.r.cell 1
      have z2 : wr.cell? ⟨gd, 2, none⟩ = some (.int .i64 p2) := HCI.out.r.cell 2
      have z3 : wr.cell? ⟨gd, 3, none⟩ = some (.int .i64 p3) := HCI.out.r.cell 3
      have z4 : wr.cell? ⟨gd, 4, none⟩ = some (.int .i64 p4) := HCI.out.r.cell 4
      have z5 : wr.cell? ⟨gd, 5, none⟩ = some (.int .i32 p5) := HCI.out.r.cell 5
      obtain ⟨v, hv⟩ : ∃ v, enc ⟨p0, p1, p2, p3, p4, p5⟩ = v := ⟨_, rfl⟩
      obtain ⟨e, he⟩ : ∃ e, chk ⟨p0, p1, p2, p3, p4, p5⟩ = e := ⟨_, rfl⟩
      have HD2 := HD.out v e hv he
      rw [hv, he] at HE
      clear HD hv he
      by_cases he : e = 0
      · subst he
        by_cases hv : v = w
        · subst hv
          have HV : Hid (Ending.returned (.tuple #[(Ins.mk p0 p1 p2 p3 p4 p5).v, .int .i64 0]) = .returned (.tuple #[(dec v).v, .int .i64 (decE v)])) := (show _ = _ by rw [← HD2.1, ← HD2.2, if_pos ⟨rfl, rfl⟩, if_pos ⟨rfl, rfl⟩])
          clear HD2
          go_wp2_with (first | (go_at_call 28; refine (HE.out _ HCI.out.below).mono ?_; rintro e w5 ⟨rfl, hb5⟩; have C5 := HCI.out.on hb5; have y0 : w5.cell? ⟨gd, 0, none⟩ = some (.int .i64 p0) := C5.r.cell 0; have y1 : w5.cell? ⟨gd, 1, none⟩ = some (.int .i64 p1) := C5.r.cell 1; have y2 : w5.cell? ⟨gd, 2, none⟩ = some (.int .i64 p2) := C5.r.cell 2; have y3 : w5.cell? ⟨gd, 3, none⟩ = some (.int .i64 p3) := C5.r.cell 3; have y4 : w5.cell? ⟨gd, 4, none⟩ = some (.int .i64 p4) := C5.r.cell 4; have y5 : w5.cell? ⟨gd, 5, none⟩ = some (.int .i32 p5) := C5.r.cell 5; have C5' : Hid _ := C5; clear C5) | (refine wpList_store_st rfl 84 _ _ rfl gz _ rfl rfl C5'.out.i size27 rfl rfl ?_; intro w6 hc6 hb6 hs6))
          exact ret_st2 rfl rfl gz _ rfl hc6 Tryz.underlying84 rfl size27 ⟨HV.out, C5'.out.below.trans (hb6.below C5'.out.hi C5'.out.below.size)⟩
        · have HV : Hid (Ending.returned (.tuple #[Ins.z.v, .int .i64 50]) = .returned (.tuple #[(dec w).v, .int .i64 (decE w)])) := (show _ = _ by rw [← HD2.1, ← HD2.2, if_neg (fun h => hv h.2), if_neg (fun h => hv h.2)])
          have hv' : (v != w) = true := by simpa using hv
          clear HD2 hv
          go_wp2_with (first | (go_at_call 28; refine (HE.out _ HCI.out.below).mono ?_; rintro e w5 ⟨rfl, hb5⟩; have C5 := HCI.out.on hb5; have y0 : w5.cell? ⟨gd, 0, none⟩ = some (.int .i64 p0) := C5.r.cell 0; have y1 : w5.cell? ⟨gd, 1, none⟩ = some (.int .i64 p1) := C5.r.cell 1; have y2 : w5.cell? ⟨gd, 2, none⟩ = some (.int .i64 p2) := C5.r.cell 2; have y3 : w5.cell? ⟨gd, 3, none⟩ = some (.int .i64 p3) := C5.r.cell 3; have y4 : w5.cell? ⟨gd, 4, none⟩ = some (.int .i64 p4) := C5.r.cell 4; have y5 : w5.cell? ⟨gd, 5, none⟩ = some (.int .i32 p5) := C5.r.cell 5; have C5' : Hid _ := C5; clear C5) | (refine wpList_store_st rfl 84 _ _ rfl gz _ rfl rfl C5'.out.i size27 rfl rfl ?_; intro w6 hc6 hb6 hs6))
          exact ret_st2 rfl rfl gz _ rfl hc6 Tryz.underlying84 rfl size27 ⟨HV.out, C5'.out.below.trans (hb6.below C5'.out.hi C5'.out.below.size)⟩
      · have HV : Hid (Ending.returned (.tuple #[Ins.z.v, .int .i64 50]) = .returned (.tuple #[(dec w).v, .int .i64 (decE w)])) := (show _ = _ by rw [← HD2.1, ← HD2.2, if_neg (fun h => he h.1), if_neg (fun h => he h.1)])
        have he' : (e != 0) = true := by simpa using he
        clear HD2 he
        go_wp2_with (first | (go_at_call 28; refine (HE.out _ HCI.out.below).mono ?_; rintro e w5 ⟨rfl, hb5⟩; have C5 := HCI.out.on hb5; have y0 : w5.cell? ⟨gd, 0, none⟩ = some (.int .i64 p0) := C5.r.cell 0; have y1 : w5.cell? ⟨gd, 1, none⟩ = some (.int .i64 p1) := C5.r.cell 1; have y2 : w5.cell? ⟨gd, 2, none⟩ = some (.int .i64 p2) := C5.r.cell 2; have y3 : w5.cell? ⟨gd, 3, none⟩ = some (.int .i64 p3) := C5.r.cell 3; have y4 : w5.cell? ⟨gd, 4, none⟩ = some (.int .i64 p4) := C5.r.cell 4; have y5 : w5.cell? ⟨gd, 5, none⟩ = some (.int .i32 p5) := C5.r.cell 5; have C5' : Hid _ := C5; clear C5) | (refine wpList_store_st rfl 84 _ _ rfl gz _ rfl rfl C5'.out.i size27 rfl rfl ?_; intro w6 hc6 hb6 hs6))
        exact ret_st2 rfl rfl gz _ rfl hc6 Tryz.underlying84 rfl size27 ⟨HV.out, C5'.out.below.trans (hb6.below C5'.out.hi C5'.out.below.size)⟩
end Go.Proofs.YtncnogndopgknaaGreatDoor
