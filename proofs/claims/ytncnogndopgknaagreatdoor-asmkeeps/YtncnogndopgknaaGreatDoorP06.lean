import Derived.Test.YtncnogndopgknaaGreatDoorP05
import Derived.Test.YtncnogndopgknaaGreatDoorP01
namespace Go.Proofs.YtncnogndopgknaaGreatDoor
open Go.RowKit

set_option maxRecDepth 40000 in
set_option maxHeartbeats 4000000 in
theorem check_yes (W : World) (s : ByteArray) (op cond a b c imm r : Int) (o0 : 1 ≤ op) (o1 : op < 25) (i0 : -2147483648 ≤ imm) (i1 : imm < 2147483648) (hc : W.cell? ⟨1, op.toNat * 2 + 1, none⟩ = some (.string s)) (hW : 5 < W.heap.size) (hs : (s.size : Int) ≤ 3)
    (hl : ∀ k (h : k < s.size), letter s[k].toNat) (hr : (if (∀ l ∈ ltr s, okAt ⟨op, cond, a, b, c, imm⟩ l) ∧ clr ⟨op, cond, a, b, c, imm⟩ (ltr s) = Ins.z then 0 else 51) = r) :
    Calls Tryz.prog 42 #[(Ins.mk op cond a b c imm).v] W fun e W' => e = .returned (.int .i64 r) ∧ Below W.heap.size W W' := by
  have HS : Hid (∀ w, Below W.heap.size W w → w.cell? ⟨1, op.toNat * 2 + 1, none⟩ = some (.string s)) := fun w hb => (hb.cell (p := ⟨1, op.toNat * 2 + 1, none⟩) (by simp only; omega)).trans hc
  have HL : Hid (∀ k (h : k < s.size), letter s[k].toNat) := hl
  have HR : Hid ((if (∀ l ∈ ltr s, okAt ⟨op, cond, a, b, c, imm⟩ l) ∧ clr ⟨op, cond, a, b, c, imm⟩ (ltr s) = Ins.z then 0 else 51) = r) := hr
  clear hc hW hl hr
  simp only [Ins.v]
  go_enter Tryz.func42, Tryz.ntmps42
  go_wp2_with (go_at_call 69; refine (isOp_any _ _).mono ?_; rintro e w' ⟨rfl, rfl⟩)
  have BX : Hid (Below W.heap.size W (W.alloc (Obj.cells #[Value.int .i64 op, Value.int .i64 cond, Value.int .i64 a, Value.int .i64 b, Value.int .i64 c, Value.int .i32 imm] 84))) := below_one _ _
  have CX : Hid (Cel (W.alloc (Obj.cells #[Value.int .i64 op, Value.int .i64 cond, Value.int .i64 a, Value.int .i64 b, Value.int .i64 c, Value.int .i32 imm] 84)) W.heap.size 84 (Ins.mk op cond a b c imm).cs) := Cel.new _ _ _
  generalize W.alloc (Obj.cells #[Value.int .i64 op, Value.int .i64 cond, Value.int .i64 a, Value.int .i64 b, Value.int .i64 c, Value.int .i32 imm] 84) = X at *
  have GX : W.heap.size < X.heap.size := CX.out.lt
  have HX5 : Hid (∀ w, Below X.heap.size X w → w.cell? ⟨1, op.toNat * 2 + 1, none⟩ = some (.string s)) := fun w hb => HS.out w (BX.out.trans (hb.mono BX.out.size))
  have RX : Hid (∀ w, Below X.heap.size X w → w.rangeAt W.heap.size 0 (Ins.mk op cond a b c imm).cs) := fun w hb => (CX.out.below hb GX).range
  have R0 : Hid (∀ w, Below X.heap.size X w → w.cell? ⟨W.heap.size, 0, none⟩ = some (.int .i64 op)) := fun w hb => (CX.out.below hb GX).cell 0
  have o2 : 0 ≤ op := by omega
  refine wp_region_held_drew (S := fun w => Below X.heap.size X w) (by kernel_rfl) ((Below.refl _ _).drew) (fun hHeld => ?_)
  refine tk 0 ⟨some 12, .load 84 (.tmp 1), 84, "isa.go:68", #[], none⟩ (.agg #[.int .i64 op, .int .i64 cond, .int .i64 a, .int .i64 b, .int .i64 c, .int .i32 imm]) ?_ (hy := yieldsIf_load_mid (by rfl) _ _ rfl _ _ rfl _ _ (fun w hSw => RX.out w hSw) Tryz.underlying84 rfl size27)
  simp only [Act.put, List.setIfInBounds_toArray, List.set_cons_zero, List.set_cons_succ]
  refine tk 1 ⟨some 13, .fieldAddr 84 (.tmp 1) 0, 0, "isa.go:68", #[{ on := 7, ground := .gcOnly Departure.lateStores }], none⟩ (.pointer (some ⟨W.heap.size, 0, none⟩)) ?_
  simp only [Act.put, List.setIfInBounds_toArray, List.set_cons_zero, List.set_cons_succ]
  refine tk 2 ⟨some 14, .load 82 (.tmp 13), 82, "isa.go:68", #[⟨1, .data⟩, { on := 7, ground := .gcOnly Departure.lateStores }], none⟩ (.int .i64 op) ?_ (hy := Or.inl ⟨by rfl, by intro w hSw; have hcc := R0.out w hSw; go_simp⟩)
  simp only [Act.put, List.setIfInBounds_toArray, List.set_cons_zero, List.set_cons_succ]
  refine tk 3 ⟨some 15, .indexAddr 122 (.global 1) (.tmp 14), 0, "isa.go:68", #[⟨2, .data⟩, { on := 7, ground := .gcOnly Departure.lateStores }], none⟩ (.pointer (some ⟨1, op.toNat * 2, none⟩)) ?_
  simp only [Act.put, List.setIfInBounds_toArray, List.set_cons_zero, List.set_cons_succ]
  refine tk 4 ⟨some 16, .fieldAddr 121 (.tmp 15) 1, 0, "isa.go:68", #[⟨3, .data⟩, { on := 7, ground := .gcOnly Departure.lateStores }], none⟩ (.pointer (some ⟨1, op.toNat * 2 + 1, none⟩)) ?_
  simp only [Act.put, List.setIfInBounds_toArray, List.set_cons_zero, List.set_cons_succ]
  refine tk 5 ⟨some 17, .load 9 (.tmp 16), 9, "isa.go:68", #[⟨4, .data⟩, { on := 7, ground := .gcOnly Departure.lateStores }], none⟩ (.string s) ?_ (hy := Or.inl ⟨by rfl, by intro w hSw; have hcc := HX5.out w hSw; go_simp⟩)
  simp only [Act.put, List.setIfInBounds_toArray, List.set_cons_zero, List.set_cons_succ]
  refine wpAnyH_ready (rs := [6]) (by kernel_rfl) (by simp) (AllReadyH.cons (o := ⟨some 3, .alloc 84, 0, "isa.go:68", #[], none⟩) rfl (fun KQ hK => ?_) AllReadyH.nil)
  go_simp
  refine hK.out _ _ (((Below.refl _ _).drew).alloc (Nat.le_refl _) _) (fun hHeld => ?_)
  clear hK KQ
  try simp only [Act.put, List.setIfInBounds_toArray, List.set_cons_zero, List.set_cons_succ]
  refine wpAnyH_ready (rs := [7]) (by kernel_rfl) (by simp) (AllReadyH.cons (o := ⟨none, .store 84 (.tmp 3) (.tmp 12), 0, "isa.go:68", #[⟨6, .data⟩, ⟨0, .data⟩, ⟨0, .phase⟩, { on := 1, ground := .textOnly Departure.lateStores }, { on := 2, ground := .textOnly Departure.lateStores }, { on := 3, ground := .textOnly Departure.lateStores }, { on := 4, ground := .textOnly Departure.lateStores }, { on := 5, ground := .textOnly Departure.lateStores }, ⟨6, .phase⟩], none⟩) rfl (fun KQ hK => ?_) AllReadyH.nil)
  go_simp
  refine hK.out _ _ (((Below.refl _ _).drew).alloc (Nat.le_refl _) _) (fun hHeld => ?_)
  clear hK KQ
  try simp only [Act.put, List.setIfInBounds_toArray, List.set_cons_zero, List.set_cons_succ]
  refine wpAnyH_ready (rs := [8]) (by kernel_rfl) (by simp) (AllReadyH.cons (o := ⟨some 4, .assign (.tmp 17), 9, "isa.go:68", #[⟨5, .data⟩, ⟨7, .chain⟩, ⟨0, .phase⟩, ⟨1, .phase⟩, ⟨2, .phase⟩, ⟨3, .phase⟩, ⟨4, .phase⟩, ⟨5, .phase⟩, ⟨6, .phase⟩, ⟨7, .phase⟩], none⟩) rfl (fun KQ hK => ?_) AllReadyH.nil)
  go_simp
  refine hK.out _ _ (((Below.refl _ _).drew).alloc (Nat.le_refl _) _) (fun hHeld => ?_)
  clear hK KQ
  try simp only [Act.put, List.setIfInBounds_toArray, List.set_cons_zero, List.set_cons_succ]
  refine wpAnyH_done (by kernel_rfl) ?_ _
  clear hHeld
  go_wp2_with fail
  have CI0 : Hid (CI W (X.alloc (Obj.cells #[Value.int .i64 0, Value.int .i64 cond, Value.int .i64 a, Value.int .i64 b, Value.int .i64 c, Value.int .i32 imm] 84)).drew W.heap.size X.heap.size (Ins.mk op cond a b c imm).cs (clr (Ins.mk op cond a b c imm) []).cs) :=
    ⟨(below_on BX.out (below_one _ _)).drew, CX.out.on ((below_one _ _).drew), Cel.new X 84 _, Nat.le_refl _, BX.out.size, by omega⟩
  obtain ⟨gi, hgi⟩ : ∃ g, W.heap.size = g := ⟨_, rfl⟩
  obtain ⟨gr, hgr⟩ : ∃ g, X.heap.size = g := ⟨_, rfl⟩
  rw [hgr] at CI0 ⊢
  rw [hgi] at CI0 ⊢
  clear HX5 RX R0 BX CX GX hgi hgr
  go_loopw [21] (fun i wr => ∃ (k : Nat) (r : Ins), k ≤ s.size ∧ i = .int .i64 k ∧ CI W wr gi gr (Ins.mk op cond a b c imm).cs r.cs ∧ Hid (r = clr (Ins.mk op cond a b c imm) ((ltr s).take k) ∧ ∀ l ∈ (ltr s).take k, okAt (Ins.mk op cond a b c imm) l)) (fun i _ => s.size - (intOf i).toNat)
  case atStart => exact ⟨0, _, Nat.zero_le _, rfl, CI0.out, rfl, by simp⟩
  case round =>
    clear CI0
    obtain ⟨k, R, hk, rfl, hCI, HH⟩ := hrel
    by_cases hk2 : k < s.size
    · have c1 : (k : Int) < (s.size : Int) := by omega
      go_wp2_with fail
      obtain ⟨l, hlk⟩ : ∃ l, s[k].toNat = l := ⟨_, rfl⟩
      have HLL : Hid (letter l) := by have := HL.out k hk2; rw [hlk] at this; exact this
      have HCI : Hid (CI W wr gi gr (Ins.mk op cond a b c imm).cs R.cs) := hCI
      have RI : Hid (∀ w, Below wr.heap.size wr w → w.rangeAt gi 0 (Ins.mk op cond a b c imm).cs) := fun w hb => (HCI.out.on hb).i.range
      clear hCI
      refine wp_region_held_drew (S := fun w => Below wr.heap.size wr w) (by kernel_rfl) ((Below.refl _ _).drew) (fun hHeld => ?_)
      refine tk 0 ⟨some 24, .move (.tmp 4), 9, "isa.go:71", #[], none⟩ (.string s) ?_
      simp only [Act.put, List.setIfInBounds_toArray, List.set_cons_zero, List.set_cons_succ]
      refine tk 1 ⟨some 25, .move (.tmp 5), 3, "isa.go:71", #[], none⟩ (.int .i64 (k : Int)) ?_
      simp only [Act.put, List.setIfInBounds_toArray, List.set_cons_zero, List.set_cons_succ]
      refine tk 2 ⟨some 26, .index 9 (.tmp 24) (.tmp 25), 5, "isa.go:71", #[⟨0, .data⟩, ⟨1, .data⟩], none⟩ (.int .u8 (l : Int)) ?_
      simp only [Act.put, List.setIfInBounds_toArray, List.set_cons_zero, List.set_cons_succ]
      refine tk 4 ⟨some 28, .load 84 (.tmp 1), 84, "isa.go:71", #[], none⟩ (.agg #[.int .i64 op, .int .i64 cond, .int .i64 a, .int .i64 b, .int .i64 c, .int .i32 imm]) ?_ (hy := yieldsIf_load_mid (by rfl) _ _ rfl _ _ rfl _ _ (fun w hSw => RI.out w hSw) Tryz.underlying84 rfl size27)
      simp only [Act.put, List.setIfInBounds_toArray, List.set_cons_zero, List.set_cons_succ]
      refine tk 5 ⟨some 29, .move (.tmp 4), 9, "isa.go:71", #[], none⟩ (.string s) ?_
      simp only [Act.put, List.setIfInBounds_toArray, List.set_cons_zero, List.set_cons_succ]
      refine tk 6 ⟨some 30, .move (.tmp 5), 3, "isa.go:71", #[], none⟩ (.int .i64 (k : Int)) ?_
      simp only [Act.put, List.setIfInBounds_toArray, List.set_cons_zero, List.set_cons_succ]
      refine tk 7 ⟨some 31, .index 9 (.tmp 29) (.tmp 30), 5, "isa.go:71", #[⟨5, .data⟩, ⟨6, .data⟩], none⟩ (.int .u8 (l : Int)) ?_
      simp only [Act.put, List.setIfInBounds_toArray, List.set_cons_zero, List.set_cons_succ]
      have Bx0 : Below wr.heap.size wr wr.drew := (Below.refl _ _).drew
      generalize wr.drew = x0 at *
      refine wpAnyH_ready (rs := [3, 9]) (by kernel_rfl) (by simp) (AllReadyH.cons (o := ⟨some 27, .call { callee := .value (.func 44), args := #[.tmp 26], argTypes := #[5] }, 125, "isa.go:71", #[⟨2, .data⟩], none⟩) rfl (fun KQ hK => ?_) (AllReadyH.cons (o := ⟨some 6, .alloc 125, 0, "isa.go:71", #[], none⟩) rfl (fun KQ hK => ?_) AllReadyH.nil))
      · go_simp
        refine (fieldOf_any l HLL.out _ rfl _).mono ?_
        rintro e w1 ⟨rfl, hb1⟩
        have B1 : Below wr.heap.size wr w1 := below_on Bx0 hb1
        go_wp2_with fail
        refine hK.out _ _ B1 (fun hHeld => ?_)
        clear hK KQ
        try simp only [Act.put, List.setIfInBounds_toArray, List.set_cons_zero, List.set_cons_succ]
        refine wpAnyH_ready (rs := [8, 9]) (by kernel_rfl) (by simp) (AllReadyH.cons (o := ⟨some 32, .call { callee := .value (.func 45), args := #[.tmp 28, .tmp 31], argTypes := #[84, 5] }, 3, "isa.go:71", #[⟨4, .data⟩, ⟨7, .data⟩, ⟨3, .chain⟩], none⟩) rfl (fun KQ hK => ?_) (AllReadyH.cons (o := ⟨some 6, .alloc 125, 0, "isa.go:71", #[], none⟩) rfl (fun KQ hK => ?_) AllReadyH.nil))
        · go_simp
          refine (inum_any (Ins.mk op cond a b c imm) i0 i1 l HLL.out _ rfl _).mono ?_
          rintro e w2 ⟨rfl, hb2⟩
          have B2 : Below wr.heap.size wr w2 := below_on B1 hb2
          go_wp2_with fail
          refine hK.out _ _ B2 (fun hHeld => ?_)
          clear hK KQ
          try simp only [Act.put, List.setIfInBounds_toArray, List.set_cons_zero, List.set_cons_succ]
          refine wpAnyH_ready (rs := [9]) (by kernel_rfl) (by simp) (AllReadyH.cons (o := ⟨some 6, .alloc 125, 0, "isa.go:71", #[], none⟩) rfl (fun KQ hK => ?_) AllReadyH.nil)
          go_simp
          have Bal : Below wr.heap.size wr (w2.alloc (Obj.cells #[Value.int .i64 0, Value.int .i64 0, Value.int .i64 0, Value.int .i64 0] 125)) := B2.alloc B2.size _
          have CF : Cel (w2.alloc (Obj.cells #[Value.int .i64 0, Value.int .i64 0, Value.int .i64 0, Value.int .i64 0] 125)) w2.heap.size 125 [Value.int .i64 0, Value.int .i64 0, Value.int .i64 0, Value.int .i64 0] := Cel.new _ _ _
          have zA : wr.heap.size ≤ w2.heap.size := B2.size
          refine hK.out _ _ Bal (fun hHeld => ?_)
          clear hK KQ
          try simp only [Act.put, List.setIfInBounds_toArray, List.set_cons_zero, List.set_cons_succ]
          generalize w2.alloc (Obj.cells #[Value.int .i64 0, Value.int .i64 0, Value.int .i64 0, Value.int .i64 0] 125) = wal at *
          generalize w2.heap.size = gf at *
          refine wpAnyH_ready (rs := [10]) (by kernel_rfl) (by simp) (AllReadyH.cons (o := ⟨none, .store 125 (.tmp 6) (.tmp 27), 0, "isa.go:71", #[⟨9, .data⟩, ⟨3, .data⟩, ⟨8, .chain⟩, ⟨0, .phase⟩, ⟨1, .phase⟩, ⟨2, .phase⟩, ⟨3, .phase⟩, { on := 4, ground := .textOnly Departure.lateStores }, { on := 5, ground := .textOnly Departure.lateStores }, { on := 6, ground := .textOnly Departure.lateStores }, { on := 7, ground := .textOnly Departure.lateStores }, { on := 8, ground := .textOnly Departure.lateStoresUnsure }, ⟨9, .phase⟩], none⟩) rfl (fun KQ hK => ?_) AllReadyH.nil)
          rw [if_pos (by rfl)]
          refine wp_store_st 125 _ _ rfl gf (fl l).cs rfl rfl CF size66 rfl rfl ?_
          refine hK.out _ _ (Bal.trans ((but_setRow _ _ _).below zA Bal.size)) (fun hHeld => ?_)
          clear hK KQ
          simp only [Act.put]
          refine wpAnyH_ready (rs := [11]) (by kernel_rfl) (by simp) (AllReadyH.cons (o := ⟨some 7, .assign (.tmp 32), 3, "isa.go:71", #[⟨8, .data⟩, ⟨10, .chain⟩, ⟨0, .phase⟩, ⟨1, .phase⟩, ⟨2, .phase⟩, ⟨3, .phase⟩, ⟨4, .phase⟩, ⟨5, .phase⟩, ⟨6, .phase⟩, ⟨7, .phase⟩, ⟨8, .phase⟩, ⟨9, .phase⟩, ⟨10, .phase⟩], none⟩) rfl (fun KQ hK => ?_) AllReadyH.nil)
          go_simp
          refine hK.out _ _ (Bal.trans ((but_setRow _ _ _).below zA Bal.size)) (fun hHeld => ?_)
          clear hK KQ
          try simp only [Act.put, List.setIfInBounds_toArray, List.set_cons_zero, List.set_cons_succ]
          refine wpAnyH_done (by kernel_rfl) ?_ _
          have HEND : Hid (Below wr.heap.size wr (wal.setRow gf (fl l).cs.toArray)) := (Bal.trans ((but_setRow _ _ _).below zA Bal.size))
          have HCE : Hid (Cel (wal.setRow gf (fl l).cs.toArray) gf 125 (fl l).cs) := (CF.set (fl l).cs)
          clear hHeld
          generalize (wal.setRow gf (fl l).cs.toArray) = w9 at *
          have CW : Hid (CI W w9 gi gr (Ins.mk op cond a b c imm).cs R.cs) := HCI.out.on HEND.out
          have f2 : w9.cell? ⟨gf, 2, none⟩ = some (.int .i64 (fl l).least) := HCE.out.cell 2
          have f3 : w9.cell? ⟨gf, 3, none⟩ = some (.int .i64 (fl l).most) := HCE.out.cell 3
          by_cases hok : okAt (Ins.mk op cond a b c imm) l
          · obtain ⟨q1, q2⟩ := hok
            have QQ : Hid (okAt (Ins.mk op cond a b c imm) l) := ⟨q1, q2⟩
            have CX9 : Hid (CI W w9.drew gi gr (Ins.mk op cond a b c imm).cs R.cs) := CW.out.on (Below.refl _ _).drew
            go_wp2_with fail
            refine wp_region_held_drew (S := fun w => But gr w9 w) (by kernel_rfl) (but_drew _ _) (fun hHeld => ?_)
            refine tk 1 ⟨some 44, .move (.tmp 4), 9, "isa.go:75", #[], none⟩ (.string s) ?_
            simp only [Act.put, List.setIfInBounds_toArray, List.set_cons_zero, List.set_cons_succ]
            refine tk 2 ⟨some 45, .move (.tmp 5), 3, "isa.go:75", #[], none⟩ (.int .i64 (k : Int)) ?_
            simp only [Act.put, List.setIfInBounds_toArray, List.set_cons_zero, List.set_cons_succ]
            refine tk 3 ⟨some 46, .index 9 (.tmp 44) (.tmp 45), 5, "isa.go:75", #[⟨1, .data⟩, ⟨2, .data⟩], none⟩ (.int .u8 (l : Int)) ?_
            simp only [Act.put, List.setIfInBounds_toArray, List.set_cons_zero, List.set_cons_succ]
            refine wpAnyH_ready (rs := [0]) (by kernel_rfl) (by simp) (AllReadyH.cons (o := ⟨some 43, .load 84 (.tmp 3), 84, "isa.go:75", #[], none⟩) rfl (fun KQ hK => ?_) AllReadyH.nil)
            rw [if_pos (by rfl)]
            refine wp_load_mid 84 _ rfl gr 0 rfl R.cs _ CX9.out.r.range Tryz.underlying84 rfl size27 ?_
            refine hK.out _ _ (but_drew _ _) (fun hHeld => ?_)
            clear hK KQ
            try simp only [Act.put, List.setIfInBounds_toArray, List.set_cons_zero, List.set_cons_succ]
            refine wpAnyH_ready (rs := [4]) (by kernel_rfl) (by simp) (AllReadyH.cons (o := ⟨some 47, .call { callee := .value (.func 48), args := #[.tmp 43, .tmp 46, .const (.int .i64 0)], argTypes := #[84, 5, 3] }, 84, "isa.go:75", #[⟨0, .data⟩, ⟨3, .data⟩], none⟩) rfl (fun KQ hK => ?_) AllReadyH.nil)
            go_simp
            refine (with_any R l HLL.out _ rfl 0 (by decide) (by decide) _).mono ?_
            rintro e w10 ⟨rfl, hb10⟩
            have HB10 : Hid (But gr w9 w10) := (but_drew _ _).more hb10
            have C10 : Hid (CI W w10 gi gr (Ins.mk op cond a b c imm).cs R.cs) := CX9.out.on hb10
            go_wp2_with fail
            refine hK.out _ _ HB10.out (fun hHeld => ?_)
            clear hK KQ
            try simp only [Act.put, List.setIfInBounds_toArray, List.set_cons_zero, List.set_cons_succ]
            refine wpAnyH_ready (rs := [5]) (by kernel_rfl) (by simp) (AllReadyH.cons (o := ⟨none, .store 84 (.tmp 3) (.tmp 47), 0, "isa.go:75", #[⟨4, .data⟩, ⟨4, .chain⟩, ⟨0, .phase⟩, ⟨1, .phase⟩, ⟨2, .phase⟩, ⟨3, .phase⟩, ⟨4, .phase⟩], none⟩) rfl (fun KQ hK => ?_) AllReadyH.nil)
            rw [if_pos (by rfl)]
            refine wp_store_st 84 _ _ rfl gr (R.put l 0).cs rfl rfl C10.out.r size27 rfl rfl ?_
            refine hK.out _ _ (HB10.out.trans (but_setRow _ _ _)) (fun hHeld => ?_)
            clear hK KQ
            simp only [Act.put]
            refine wpAnyH_done (by kernel_rfl) ?_ _
            have CF : Hid (CI W (w10.setRow gr (R.put l 0).cs.toArray) gi gr (Ins.mk op cond a b c imm).cs (R.put l 0).cs) := C10.out.set _
            clear hHeld
            generalize w10.setRow gr (R.put l 0).cs.toArray = w11 at *
            go_wp2_with fail
            go_roundw
            case measure => simp [intOf]; omega
            case rel => exact ⟨k + 1, R.put l 0, by omega, by go_num, CF.out, by rw [ltr_snoc s k hk2, clr_snoc, hlk, HH.out.1], by rw [ltr_snoc s k hk2, hlk]; intro m hm; rcases List.mem_append.1 hm with hm | hm; exact HH.out.2 m hm; rw [List.mem_singleton.1 hm]; exact QQ.out⟩
          · have HF : Hid ((51 : Int) = r) := (if_neg (fun h => hok (h.1 l (List.mem_iff_getElem.2 ⟨k, by rw [ltr_len]; exact hk2, by rw [ltr_get s k hk2, hlk]⟩)))).symm.trans HR.out
            have hq : (Ins.mk op cond a b c imm).num l < (fl l).least ∨ ((fl l).least ≤ (Ins.mk op cond a b c imm).num l ∧ (fl l).most < (Ins.mk op cond a b c imm).num l) := by unfold okAt at hok; omega
            clear hok
            rcases hq with q1 | ⟨q1, q2⟩
            all_goals
              go_wp2_with fail
              go_ret
              exact ⟨ret_int HF.out, CW.out.below⟩
        · go_simp
          have Bal : Below wr.heap.size wr (w1.alloc (Obj.cells #[Value.int .i64 0, Value.int .i64 0, Value.int .i64 0, Value.int .i64 0] 125)) := B1.alloc B1.size _
          have CF : Cel (w1.alloc (Obj.cells #[Value.int .i64 0, Value.int .i64 0, Value.int .i64 0, Value.int .i64 0] 125)) w1.heap.size 125 [Value.int .i64 0, Value.int .i64 0, Value.int .i64 0, Value.int .i64 0] := Cel.new _ _ _
          have zA : wr.heap.size ≤ w1.heap.size := B1.size
          refine hK.out _ _ Bal (fun hHeld => ?_)
          clear hK KQ
          try simp only [Act.put, List.setIfInBounds_toArray, List.set_cons_zero, List.set_cons_succ]
          generalize w1.alloc (Obj.cells #[Value.int .i64 0, Value.int .i64 0, Value.int .i64 0, Value.int .i64 0] 125) = wal at *
          generalize w1.heap.size = gf at *
          refine wpAnyH_ready (rs := [8]) (by kernel_rfl) (by simp) (AllReadyH.cons (o := ⟨some 32, .call { callee := .value (.func 45), args := #[.tmp 28, .tmp 31], argTypes := #[84, 5] }, 3, "isa.go:71", #[⟨4, .data⟩, ⟨7, .data⟩, ⟨3, .chain⟩], none⟩) rfl (fun KQ hK => ?_) AllReadyH.nil)
          go_simp
          refine (inum_any (Ins.mk op cond a b c imm) i0 i1 l HLL.out _ rfl _).mono ?_
          rintro e w2 ⟨rfl, hb2⟩
          have B2 : Below wr.heap.size wr w2 := below_on Bal hb2
          have CF2 := CF.on hb2
          go_wp2_with fail
          refine hK.out _ _ B2 (fun hHeld => ?_)
          clear hK KQ
          try simp only [Act.put, List.setIfInBounds_toArray, List.set_cons_zero, List.set_cons_succ]
          refine wpAnyH_ready (rs := [10]) (by kernel_rfl) (by simp) (AllReadyH.cons (o := ⟨none, .store 125 (.tmp 6) (.tmp 27), 0, "isa.go:71", #[⟨9, .data⟩, ⟨3, .data⟩, ⟨8, .chain⟩, ⟨0, .phase⟩, ⟨1, .phase⟩, ⟨2, .phase⟩, ⟨3, .phase⟩, { on := 4, ground := .textOnly Departure.lateStores }, { on := 5, ground := .textOnly Departure.lateStores }, { on := 6, ground := .textOnly Departure.lateStores }, { on := 7, ground := .textOnly Departure.lateStores }, { on := 8, ground := .textOnly Departure.lateStoresUnsure }, ⟨9, .phase⟩], none⟩) rfl (fun KQ hK => ?_) AllReadyH.nil)
          rw [if_pos (by rfl)]
          refine wp_store_st 125 _ _ rfl gf (fl l).cs rfl rfl CF2 size66 rfl rfl ?_
          refine hK.out _ _ (B2.trans ((but_setRow _ _ _).below zA B2.size)) (fun hHeld => ?_)
          clear hK KQ
          simp only [Act.put]
          refine wpAnyH_ready (rs := [11]) (by kernel_rfl) (by simp) (AllReadyH.cons (o := ⟨some 7, .assign (.tmp 32), 3, "isa.go:71", #[⟨8, .data⟩, ⟨10, .chain⟩, ⟨0, .phase⟩, ⟨1, .phase⟩, ⟨2, .phase⟩, ⟨3, .phase⟩, ⟨4, .phase⟩, ⟨5, .phase⟩, ⟨6, .phase⟩, ⟨7, .phase⟩, ⟨8, .phase⟩, ⟨9, .phase⟩, ⟨10, .phase⟩], none⟩) rfl (fun KQ hK => ?_) AllReadyH.nil)
          go_simp
          refine hK.out _ _ (B2.trans ((but_setRow _ _ _).below zA B2.size)) (fun hHeld => ?_)
          clear hK KQ
          try simp only [Act.put, List.setIfInBounds_toArray, List.set_cons_zero, List.set_cons_succ]
          refine wpAnyH_done (by kernel_rfl) ?_ _
          have HEND : Hid (Below wr.heap.size wr (w2.setRow gf (fl l).cs.toArray)) := (B2.trans ((but_setRow _ _ _).below zA B2.size))
          have HCE : Hid (Cel (w2.setRow gf (fl l).cs.toArray) gf 125 (fl l).cs) := (CF2.set (fl l).cs)
          clear hHeld
          generalize (w2.setRow gf (fl l).cs.toArray) = w9 at *
          have CW : Hid (CI W w9 gi gr (Ins.mk op cond a b c imm).cs R.cs) := HCI.out.on HEND.out
          have f2 : w9.cell? ⟨gf, 2, none⟩ = some (.int .i64 (fl l).least) := HCE.out.cell 2
          have f3 : w9.cell? ⟨gf, 3, none⟩ = some (.int .i64 (fl l).most) := HCE.out.cell 3
          by_cases hok : okAt (Ins.mk op cond a b c imm) l
          · obtain ⟨q1, q2⟩ := hok
            have QQ : Hid (okAt (Ins.mk op cond a b c imm) l) := ⟨q1, q2⟩
            have CX9 : Hid (CI W w9.drew gi gr (Ins.mk op cond a b c imm).cs R.cs) := CW.out.on (Below.refl _ _).drew
            go_wp2_with fail
            refine wp_region_held_drew (S := fun w => But gr w9 w) (by kernel_rfl) (but_drew _ _) (fun hHeld => ?_)
            refine tk 1 ⟨some 44, .move (.tmp 4), 9, "isa.go:75", #[], none⟩ (.string s) ?_
            simp only [Act.put, List.setIfInBounds_toArray, List.set_cons_zero, List.set_cons_succ]
            refine tk 2 ⟨some 45, .move (.tmp 5), 3, "isa.go:75", #[], none⟩ (.int .i64 (k : Int)) ?_
            simp only [Act.put, List.setIfInBounds_toArray, List.set_cons_zero, List.set_cons_succ]
            refine tk 3 ⟨some 46, .index 9 (.tmp 44) (.tmp 45), 5, "isa.go:75", #[⟨1, .data⟩, ⟨2, .data⟩], none⟩ (.int .u8 (l : Int)) ?_
            simp only [Act.put, List.setIfInBounds_toArray, List.set_cons_zero, List.set_cons_succ]
            refine wpAnyH_ready (rs := [0]) (by kernel_rfl) (by simp) (AllReadyH.cons (o := ⟨some 43, .load 84 (.tmp 3), 84, "isa.go:75", #[], none⟩) rfl (fun KQ hK => ?_) AllReadyH.nil)
            rw [if_pos (by rfl)]
            refine wp_load_mid 84 _ rfl gr 0 rfl R.cs _ CX9.out.r.range Tryz.underlying84 rfl size27 ?_
            refine hK.out _ _ (but_drew _ _) (fun hHeld => ?_)
            clear hK KQ
            try simp only [Act.put, List.setIfInBounds_toArray, List.set_cons_zero, List.set_cons_succ]
            refine wpAnyH_ready (rs := [4]) (by kernel_rfl) (by simp) (AllReadyH.cons (o := ⟨some 47, .call { callee := .value (.func 48), args := #[.tmp 43, .tmp 46, .const (.int .i64 0)], argTypes := #[84, 5, 3] }, 84, "isa.go:75", #[⟨0, .data⟩, ⟨3, .data⟩], none⟩) rfl (fun KQ hK => ?_) AllReadyH.nil)
            go_simp
            refine (with_any R l HLL.out _ rfl 0 (by decide) (by decide) _).mono ?_
            rintro e w10 ⟨rfl, hb10⟩
            have HB10 : Hid (But gr w9 w10) := (but_drew _ _).more hb10
            have C10 : Hid (CI W w10 gi gr (Ins.mk op cond a b c imm).cs R.cs) := CX9.out.on hb10
            go_wp2_with fail
            refine hK.out _ _ HB10.out (fun hHeld => ?_)
            clear hK KQ
            try simp only [Act.put, List.setIfInBounds_toArray, List.set_cons_zero, List.set_cons_succ]
            refine wpAnyH_ready (rs := [5]) (by kernel_rfl) (by simp) (AllReadyH.cons (o := ⟨none, .store 84 (.tmp 3) (.tmp 47), 0, "isa.go:75", #[⟨4, .data⟩, ⟨4, .chain⟩, ⟨0, .phase⟩, ⟨1, .phase⟩, ⟨2, .phase⟩, ⟨3, .phase⟩, ⟨4, .phase⟩], none⟩) rfl (fun KQ hK => ?_) AllReadyH.nil)
            rw [if_pos (by rfl)]
            refine wp_store_st 84 _ _ rfl gr (R.put l 0).cs rfl rfl C10.out.r size27 rfl rfl ?_
            refine hK.out _ _ (HB10.out.trans (but_setRow _ _ _)) (fun hHeld => ?_)
            clear hK KQ
            simp only [Act.put]
            refine wpAnyH_done (by kernel_rfl) ?_ _
            have CF : Hid (CI W (w10.setRow gr (R.put l 0).cs.toArray) gi gr (Ins.mk op cond a b c imm).cs (R.put l 0).cs) := C10.out.set _
            clear hHeld
            generalize w10.setRow gr (R.put l 0).cs.toArray = w11 at *
            go_wp2_with fail
            go_roundw
            case measure => simp [intOf]; omega
            case rel => exact ⟨k + 1, R.put l 0, by omega, by go_num, CF.out, by rw [ltr_snoc s k hk2, clr_snoc, hlk, HH.out.1], by rw [ltr_snoc s k hk2, hlk]; intro m hm; rcases List.mem_append.1 hm with hm | hm; exact HH.out.2 m hm; rw [List.mem_singleton.1 hm]; exact QQ.out⟩
          · have HF : Hid ((51 : Int) = r) := (if_neg (fun h => hok (h.1 l (List.mem_iff_getElem.2 ⟨k, by rw [ltr_len]; exact hk2, by rw [ltr_get s k hk2, hlk]⟩)))).symm.trans HR.out
            have hq : (Ins.mk op cond a b c imm).num l < (fl l).least ∨ ((fl l).least ≤ (Ins.mk op cond a b c imm).num l ∧ (fl l).most < (Ins.mk op cond a b c imm).num l) := by unfold okAt at hok; omega
            clear hok
            rcases hq with q1 | ⟨q1, q2⟩
            all_goals
              go_wp2_with fail
              go_ret
              exact ⟨ret_int HF.out, CW.out.below⟩
      · go_simp
        have Bal : Below wr.heap.size wr (x0.alloc (Obj.cells #[Value.int .i64 0, Value.int .i64 0, Value.int .i64 0, Value.int .i64 0] 125)) := Bx0.alloc Bx0.size _
        have CF : Cel (x0.alloc (Obj.cells #[Value.int .i64 0, Value.int .i64 0, Value.int .i64 0, Value.int .i64 0] 125)) x0.heap.size 125 [Value.int .i64 0, Value.int .i64 0, Value.int .i64 0, Value.int .i64 0] := Cel.new _ _ _
        have zA : wr.heap.size ≤ x0.heap.size := Bx0.size
        refine hK.out _ _ Bal (fun hHeld => ?_)
        clear hK KQ
        try simp only [Act.put, List.setIfInBounds_toArray, List.set_cons_zero, List.set_cons_succ]
        generalize x0.alloc (Obj.cells #[Value.int .i64 0, Value.int .i64 0, Value.int .i64 0, Value.int .i64 0] 125) = wal at *
        generalize x0.heap.size = gf at *
        refine wpAnyH_ready (rs := [3]) (by kernel_rfl) (by simp) (AllReadyH.cons (o := ⟨some 27, .call { callee := .value (.func 44), args := #[.tmp 26], argTypes := #[5] }, 125, "isa.go:71", #[⟨2, .data⟩], none⟩) rfl (fun KQ hK => ?_) AllReadyH.nil)
        go_simp
        refine (fieldOf_any l HLL.out _ rfl _).mono ?_
        rintro e w1 ⟨rfl, hb1⟩
        have B1 : Below wr.heap.size wr w1 := below_on Bal hb1
        have CF1 := CF.on hb1
        go_wp2_with fail
        refine hK.out _ _ B1 (fun hHeld => ?_)
        clear hK KQ
        try simp only [Act.put, List.setIfInBounds_toArray, List.set_cons_zero, List.set_cons_succ]
        refine wpAnyH_ready (rs := [8]) (by kernel_rfl) (by simp) (AllReadyH.cons (o := ⟨some 32, .call { callee := .value (.func 45), args := #[.tmp 28, .tmp 31], argTypes := #[84, 5] }, 3, "isa.go:71", #[⟨4, .data⟩, ⟨7, .data⟩, ⟨3, .chain⟩], none⟩) rfl (fun KQ hK => ?_) AllReadyH.nil)
        go_simp
        refine (inum_any (Ins.mk op cond a b c imm) i0 i1 l HLL.out _ rfl _).mono ?_
        rintro e w2 ⟨rfl, hb2⟩
        have B2 : Below wr.heap.size wr w2 := below_on B1 hb2
        have CF2 := CF1.on hb2
        go_wp2_with fail
        refine hK.out _ _ B2 (fun hHeld => ?_)
        clear hK KQ
        try simp only [Act.put, List.setIfInBounds_toArray, List.set_cons_zero, List.set_cons_succ]
        refine wpAnyH_ready (rs := [10]) (by kernel_rfl) (by simp) (AllReadyH.cons (o := ⟨none, .store 125 (.tmp 6) (.tmp 27), 0, "isa.go:71", #[⟨9, .data⟩, ⟨3, .data⟩, ⟨8, .chain⟩, ⟨0, .phase⟩, ⟨1, .phase⟩, ⟨2, .phase⟩, ⟨3, .phase⟩, { on := 4, ground := .textOnly Departure.lateStores }, { on := 5, ground := .textOnly Departure.lateStores }, { on := 6, ground := .textOnly Departure.lateStores }, { on := 7, ground := .textOnly Departure.lateStores }, { on := 8, ground := .textOnly Departure.lateStoresUnsure }, ⟨9, .phase⟩], none⟩) rfl (fun KQ hK => ?_) AllReadyH.nil)
        rw [if_pos (by rfl)]
        refine wp_store_st 125 _ _ rfl gf (fl l).cs rfl rfl CF2 size66 rfl rfl ?_
        refine hK.out _ _ (B2.trans ((but_setRow _ _ _).below zA B2.size)) (fun hHeld => ?_)
        clear hK KQ
        simp only [Act.put]
        refine wpAnyH_ready (rs := [11]) (by kernel_rfl) (by simp) (AllReadyH.cons (o := ⟨some 7, .assign (.tmp 32), 3, "isa.go:71", #[⟨8, .data⟩, ⟨10, .chain⟩, ⟨0, .phase⟩, ⟨1, .phase⟩, ⟨2, .phase⟩, ⟨3, .phase⟩, ⟨4, .phase⟩, ⟨5, .phase⟩, ⟨6, .phase⟩, ⟨7, .phase⟩, ⟨8, .phase⟩, ⟨9, .phase⟩, ⟨10, .phase⟩], none⟩) rfl (fun KQ hK => ?_) AllReadyH.nil)
        go_simp
        refine hK.out _ _ (B2.trans ((but_setRow _ _ _).below zA B2.size)) (fun hHeld => ?_)
        clear hK KQ
        try simp only [Act.put, List.setIfInBounds_toArray, List.set_cons_zero, List.set_cons_succ]
        refine wpAnyH_done (by kernel_rfl) ?_ _
        have HEND : Hid (Below wr.heap.size wr (w2.setRow gf (fl l).cs.toArray)) := (B2.trans ((but_setRow _ _ _).below zA B2.size))
        have HCE : Hid (Cel (w2.setRow gf (fl l).cs.toArray) gf 125 (fl l).cs) := (CF2.set (fl l).cs)
        clear hHeld
        generalize (w2.setRow gf (fl l).cs.toArray) = w9 at *
        have CW : Hid (CI W w9 gi gr (Ins.mk op cond a b c imm).cs R.cs) := HCI.out.on HEND.out
        have f2 : w9.cell? ⟨gf, 2, none⟩ = some (.int .i64 (fl l).least) := HCE.out.cell 2
        have f3 : w9.cell? ⟨gf, 3, none⟩ = some (.int .i64 (fl l).most) := HCE.out.cell 3
        by_cases hok : okAt (Ins.mk op cond a b c imm) l
        · obtain ⟨q1, q2⟩ := hok
          have QQ : Hid (okAt (Ins.mk op cond a b c imm) l) := ⟨q1, q2⟩
          have CX9 : Hid (CI W w9.drew gi gr (Ins.mk op cond a b c imm).cs R.cs) := CW.out.on (Below.refl _ _).drew
          go_wp2_with fail
          refine wp_region_held_drew (S := fun w => But gr w9 w) (by kernel_rfl) (but_drew _ _) (fun hHeld => ?_)
          refine tk 1 ⟨some 44, .move (.tmp 4), 9, "isa.go:75", #[], none⟩ (.string s) ?_
          simp only [Act.put, List.setIfInBounds_toArray, List.set_cons_zero, List.set_cons_succ]
          refine tk 2 ⟨some 45, .move (.tmp 5), 3, "isa.go:75", #[], none⟩ (.int .i64 (k : Int)) ?_
          simp only [Act.put, List.setIfInBounds_toArray, List.set_cons_zero, List.set_cons_succ]
          refine tk 3 ⟨some 46, .index 9 (.tmp 44) (.tmp 45), 5, "isa.go:75", #[⟨1, .data⟩, ⟨2, .data⟩], none⟩ (.int .u8 (l : Int)) ?_
          simp only [Act.put, List.setIfInBounds_toArray, List.set_cons_zero, List.set_cons_succ]
          refine wpAnyH_ready (rs := [0]) (by kernel_rfl) (by simp) (AllReadyH.cons (o := ⟨some 43, .load 84 (.tmp 3), 84, "isa.go:75", #[], none⟩) rfl (fun KQ hK => ?_) AllReadyH.nil)
          rw [if_pos (by rfl)]
          refine wp_load_mid 84 _ rfl gr 0 rfl R.cs _ CX9.out.r.range Tryz.underlying84 rfl size27 ?_
          refine hK.out _ _ (but_drew _ _) (fun hHeld => ?_)
          clear hK KQ
          try simp only [Act.put, List.setIfInBounds_toArray, List.set_cons_zero, List.set_cons_succ]
          refine wpAnyH_ready (rs := [4]) (by kernel_rfl) (by simp) (AllReadyH.cons (o := ⟨some 47, .call { callee := .value (.func 48), args := #[.tmp 43, .tmp 46, .const (.int .i64 0)], argTypes := #[84, 5, 3] }, 84, "isa.go:75", #[⟨0, .data⟩, ⟨3, .data⟩], none⟩) rfl (fun KQ hK => ?_) AllReadyH.nil)
          go_simp
          refine (with_any R l HLL.out _ rfl 0 (by decide) (by decide) _).mono ?_
          rintro e w10 ⟨rfl, hb10⟩
          have HB10 : Hid (But gr w9 w10) := (but_drew _ _).more hb10
          have C10 : Hid (CI W w10 gi gr (Ins.mk op cond a b c imm).cs R.cs) := CX9.out.on hb10
          go_wp2_with fail
          refine hK.out _ _ HB10.out (fun hHeld => ?_)
          clear hK KQ
          try simp only [Act.put, List.setIfInBounds_toArray, List.set_cons_zero, List.set_cons_succ]
          refine wpAnyH_ready (rs := [5]) (by kernel_rfl) (by simp) (AllReadyH.cons (o := ⟨none, .store 84 (.tmp 3) (.tmp 47), 0, "isa.go:75", #[⟨4, .data⟩, ⟨4, .chain⟩, ⟨0, .phase⟩, ⟨1, .phase⟩, ⟨2, .phase⟩, ⟨3, .phase⟩, ⟨4, .phase⟩], none⟩) rfl (fun KQ hK => ?_) AllReadyH.nil)
          rw [if_pos (by rfl)]
          refine wp_store_st 84 _ _ rfl gr (R.put l 0).cs rfl rfl C10.out.r size27 rfl rfl ?_
          refine hK.out _ _ (HB10.out.trans (but_setRow _ _ _)) (fun hHeld => ?_)
          clear hK KQ
          simp only [Act.put]
          refine wpAnyH_done (by kernel_rfl) ?_ _
          have CF : Hid (CI W (w10.setRow gr (R.put l 0).cs.toArray) gi gr (Ins.mk op cond a b c imm).cs (R.put l 0).cs) := C10.out.set _
          clear hHeld
          generalize w10.setRow gr (R.put l 0).cs.toArray = w11 at *
          go_wp2_with fail
          go_roundw
          case measure => simp [intOf]; omega
          case rel => exact ⟨k + 1, R.put l 0, by omega, by go_num, CF.out, by rw [ltr_snoc s k hk2, clr_snoc, hlk, HH.out.1], by rw [ltr_snoc s k hk2, hlk]; intro m hm; rcases List.mem_append.1 hm with hm | hm; exact HH.out.2 m hm; rw [List.mem_singleton.1 hm]; exact QQ.out⟩
        · have HF : Hid ((51 : Int) = r) := (if_neg (fun h => hok (h.1 l (List.mem_iff_getElem.2 ⟨k, by rw [ltr_len]; exact hk2, by rw [ltr_get s k hk2, hlk]⟩)))).symm.trans HR.out
          have hq : (Ins.mk op cond a b c imm).num l < (fl l).least ∨ ((fl l).least ≤ (Ins.mk op cond a b c imm).num l ∧ (fl l).most < (Ins.mk op cond a b c imm).num l) := by unfold okAt at hok; omega
          clear hok
          rcases hq with q1 | ⟨q1, q2⟩
          all_goals
            go_wp2_with fail
            go_ret
            exact ⟨ret_int HF.out, CW.out.below⟩
    · obtain rfl : k = s.size := by omega
      have HT : Hid (R = clr (Ins.mk op cond a b c imm) (ltr s) ∧ ∀ l ∈ ltr s, okAt (Ins.mk op cond a b c imm) l) := by have := HH.out; rw [show (ltr s).take s.size = ltr s by rw [← ltr_len, List.take_length]] at this; exact this
      have HCI : Hid (CI W wr gi gr (Ins.mk op cond a b c imm).cs R.cs) := hCI
      by_cases hz : R = Ins.z
      · have HF : Hid ((0 : Int) = r) := (if_pos ⟨HT.out.2, HT.out.1.symm.trans hz⟩).symm.trans HR.out
        subst hz
        have z0 : wr.cell? ⟨gr, 0, none⟩ = some (.int .i64 0) := HCI.out.r.cell 0
        have z1 : wr.cell? ⟨gr, 1, none⟩ = some (.int .i64 0) := HCI.out.r.cell 1
        have z2 : wr.cell? ⟨gr, 2, none⟩ = some (.int .i64 0) := HCI.out.r.cell 2
        have z3 : wr.cell? ⟨gr, 3, none⟩ = some (.int .i64 0) := HCI.out.r.cell 3
        have z4 : wr.cell? ⟨gr, 4, none⟩ = some (.int .i64 0) := HCI.out.r.cell 4
        have z5 : wr.cell? ⟨gr, 5, none⟩ = some (.int .i32 0) := HCI.out.r.cell 5
        clear hCI hk hk2
        go_wp2_with fail
        go_ret
        exact ⟨ret_int HF.out, HCI.out.below⟩
      · have HF : Hid ((51 : Int) = r) := (if_neg (fun h => hz (HT.out.1.trans h.2))).symm.trans HR.out
        obtain ⟨p0, p1, p2, p3, p4, p5⟩ := R
        have z0 : wr.cell? ⟨gr, 0, none⟩ = some (.int .i64 p0) := HCI.out.r.cell 0
        have z1 : wr.cell? ⟨gr, 1, none⟩ = some (.int .i64 p1) := HCI.out.r.cell 1
        have z2 : wr.cell? ⟨gr, 2, none⟩ = some (.int .i64 p2) := HCI.out.r.cell 2
        have z3 : wr.cell? ⟨gr, 3, none⟩ = some (.int .i64 p3) := HCI.out.r.cell 3
        have z4 : wr.cell? ⟨gr, 4, none⟩ = some (.int .i64 p4) := HCI.out.r.cell 4
        have z5 : wr.cell? ⟨gr, 5, none⟩ = some (.int .i32 p5) := HCI.out.r.cell 5
        have HZ : Hid (¬ (Ins.mk p0 p1 p2 p3 p4 p5 = Ins.z)) := hz
        clear hCI hk hk2 hz
        go_wp2_with fail
        all_goals first | (go_ret; exact ⟨ret_int HF.out, HCI.out.below⟩) | exact absurd (show Ins.mk p0 p1 p2 p3 p4 p5 = Ins.z by subst_vars; rfl) HZ.out
instance (l : Nat) : Decidable (letter l) := by unfold letter; exact inferInstance
theorem shp_ok : ∀ n < 25, (shp n).size ≤ 3 ∧ ∀ l ∈ ltr (shp n), letter l := by decide +kernel
theorem check_any (W : World) (hF : Forms W) (hW : 5 < W.heap.size) (i : Ins) (i0 : -2147483648 ≤ i.imm) (i1 : i.imm < 2147483648) :
    Calls Tryz.prog 42 #[i.v] W fun e W' => e = .returned (.int .i64 (chk i)) ∧ Below W.heap.size W W' := by
  obtain ⟨op, cond, a, b, c, imm⟩ := i
  by_cases h : 1 ≤ op ∧ op < 25
  · obtain ⟨n, rfl⟩ := Int.eq_ofNat_of_zero_le (show 0 ≤ op by omega)
    have h2 := shp_ok n (by omega)
    exact check_yes W (shp n) n cond a b c imm _ h.1 h.2 i0 i1 (by rw [Int.toNat_natCast]; exact (hF n (by omega)).2) hW (by omega) (fun k hk => h2.2 _ (List.mem_iff_getElem.2 ⟨k, by rw [ltr_len]; exact hk, ltr_get _ k hk⟩)) (by unfold chk; rw [if_pos h, Int.toNat_natCast])
  · have HR : Hid ((50 : Int) = chk ⟨op, cond, a, b, c, imm⟩) := (if_neg h).symm
    have HI := isOp_any
    have HO : ∀ w, Calls Tryz.prog 69 #[.int .i64 op] w fun e W' => e = .returned (.bool false) ∧ w = W' := fun w => by have := isOp_any w op; rwa [decide_eq_false h] at this
    have HO' : Hid _ := HO
    clear HO HI h hF hW
    simp only [Ins.v]
    go_enter Tryz.func42, Tryz.ntmps42
    go_wp2_with (go_at_call 69; refine (HO'.out _).mono ?_; rintro e w' ⟨rfl, rfl⟩)
    go_ret
    exact ⟨ret_int HR.out, below_one _ _⟩
end Go.Proofs.YtncnogndopgknaaGreatDoor
