/- The document's moved 31 (its regions 1 and 3 are drawn). -/
import Derived.Test.YteldpapacdbbiaaGreatDoorE5E6E7
import Derived.Test.YteldpapacdbbiaaGreatDoorA0Ab
namespace Go.Proofs.YteldpapacdbbiaaGreatDoor
open Go.RowKit
set_option maxHeartbeats 8000000
set_option maxRecDepth 100000
attribute [-simp] Tryz.isAgg34 Tryz.sizeOf34 Tryz.isAgg24
theorem under42 : Tryz.prog.underlying 42 = some (.struct (Tryz.prog.fieldsOf 42)) := by kernel_rfl
theorem size42 : (Tryz.prog.info? 42).map (·.size) = some 2 := by kernel_rfl
def zg : Obj := .cells #[.int .u32 0, .int .u32 0, .int .u32 0, .int .u32 0, .int .u32 0, .int .u32 0, .int .u32 0, .int .u32 0, .int .u32 0, .int .u32 0, .int .u32 0, .int .u32 0, .int .u32 0, .int .u32 0, .int .u32 0, .int .u32 0, .bool false, .bool false, .bool false] 34
theorem M5.new (W : World) (r : Rf) (m : MS) (h : RMem W r m) (f : F) (cs : List Value) : RB W (((((W.alloc (.cells f.cs.toArray 34)).alloc (.cells f.nx.cs.toArray 34)).alloc (.cells cs.toArray 85)).alloc zg).alloc (.cells (evc 0 0).toArray 42)) r r m [(W.heap.size + 1 + 1 + 1 + 1, 42, evc 0 0), (W.heap.size + 1 + 1 + 1, 34, F.zero.cs), (W.heap.size + 1 + 1, 85, cs), (W.heap.size + 1, 34, f.nx.cs), (W.heap.size, 34, f.cs)] := by
  have hz : zg = .cells F.zero.cs.toArray 34 := by unfold zg; rw [zc]
  rw [hz]
  have h5 := (((((RB.start h).box 34 f.cs).box 34 f.nx.cs).box 85 cs).box 34 F.zero.cs).box 42 (evc 0 0)
  simp only [World.size_alloc] at h5
  exact h5
theorem moved_15 (W : World) (r : Rf) (m : MS) (h : RMem W r m) (hU : m.U) (l : Int) (f : F) (cond a b c imm v : Int) (hvi : imm % 4294967296 = v) (a0 : 0 ≤ a) (a1 : a < 15) (b0 : 0 ≤ b) (b1 : b < 15) (_ : 0 ≤ c) (_ : c < 15) :
    Calls Tryz.prog 31 #[ptr r.g, .int .i64 l, f.v, f.nx.v, .agg #[.int .i64 15, .int .i64 cond, .int .i64 a, .int .i64 b, .int .i64 c, .int .i64 imm]] W fun x w' => x = .returned (if m.trE l ((rg f b + v) % 4294967296) 0 = 0 then .tuple #[(f.nx.put a.toNat (m.rcW l ((rg f b + v) % 4294967296) 0 0)).v, .agg (evc 0 0).toArray] else .tuple #[f.v, .agg (evc 4 ((rg f b + v) % 4294967296)).toArray]) ∧ ∃ r', RSt W w' r r' (m.rcM l ((rg f b + v) % 4294967296) 0 0) := by
  have HX := hid (M5.new W r m h f [.int .i64 15, .int .i64 cond, .int .i64 a, .int .i64 b, .int .i64 c, .int .i64 imm])
  have HCl := hid (fun w (hm : RMem w r m) => rloaded_any w r m hm hU l ((rg f b + v) % 4294967296) 0 (by omega) (by omega) (.inl rfl))
  have HI := hid hvi
  clear h hU hvi
  simp only [F.v] at *
  simp only [zg, evc] at HX
  unfold ptr at *
  generalize hv : (rg f b + v) % 4294967296 = va at HCl ⊢
  have HV := hid hv
  clear hv
  generalize m.rcM l va 0 0 = m2 at *
  generalize m.rcW l va 0 0 = wv at *
  generalize m.trE l va 0 = te at *
  go_enter Tryz.func31, Tryz.ntmps31
  go_upto_region 1 with fail
  generalize hX : ((((W.alloc _).alloc _).alloc _).alloc _).alloc _ = X at *
  clear hX
  generalize W.heap.size + 1 + 1 + 1 + 1 = g11 at *
  generalize W.heap.size + 1 + 1 + 1 = g10 at *
  generalize W.heap.size + 1 + 1 = g9 at *
  generalize W.heap.size + 1 = g8 at *
  generalize W.heap.size = g7 at HX ⊢
  have HD := hid (HX.out.on (Below.refl _ _).drew)
  clear HX
  refine wp_region_held_drew (S := fun x => RB W x r r m [(g11, 42, evc 0 0), (g10, 34, F.zero.cs), (g9, 85, [.int .i64 15, .int .i64 cond, .int .i64 a, .int .i64 b, .int .i64 c, .int .i64 imm]), (g8, 34, f.nx.cs), (g7, 34, f.cs)]) (by kernel_rfl) HD.out (fun hHeld => ?_)
  refine wpAnyH_take (i := 0) (oi := { dst := some 15, op := Op.fieldAddr 85 (Operand.tmp 9) 3, type := 0, pos := "ref.go:127", after := #[], guard := none }) (v := .pointer (some ⟨g9, 3, none⟩)) rfl (by kernel_rfl) (by kernel_rfl) (by kernel_rfl) (fun _ _ _ h => h) (Or.inl ⟨by rfl, by intro w hSw; go_simp⟩) (by assumption) ?_
  simp only [Act.put, List.setIfInBounds_toArray, List.set_cons_zero, List.set_cons_succ]
  refine wpAnyH_take (i := 1) (oi := { dst := some 16, op := Op.load 3 (Operand.tmp 15), type := 3, pos := "ref.go:127", after := #[{ on := 0, ground := Ground.data }], guard := none }) (v := .int .i64 b) rfl (by kernel_rfl) (by kernel_rfl) (by kernel_rfl) (fun _ _ _ h => h) (Or.inl ⟨by rfl, by intro w hSw; have hq : w.cell? ⟨g9, 3, none⟩ = some (.int .i64 b) := (hSw.get 2 rfl).cell 3; go_simp⟩) (by assumption) ?_
  simp only [Act.put, List.setIfInBounds_toArray, List.set_cons_zero, List.set_cons_succ]
  refine wpAnyH_take (i := 2) (oi := { dst := some 17, op := Op.fieldAddr 34 (Operand.tmp 7) 0, type := 0, pos := "ref.go:127", after := #[], guard := none }) (v := .pointer (some ⟨g7, 0, none⟩)) rfl (by kernel_rfl) (by kernel_rfl) (by kernel_rfl) (fun _ _ _ h => h) (Or.inl ⟨by rfl, by intro w hSw; go_simp⟩) (by assumption) ?_
  simp only [Act.put, List.setIfInBounds_toArray, List.set_cons_zero, List.set_cons_succ]
  refine wpAnyH_take (i := 3) (oi := { dst := some 18, op := Op.indexAddr 24 (Operand.tmp 17) (Operand.tmp 16), type := 0, pos := "ref.go:127", after := #[{ on := 2, ground := Ground.data }, { on := 1, ground := Ground.data }], guard := none }) (v := .pointer (some ⟨g7, b.toNat, none⟩)) rfl (by kernel_rfl) (by kernel_rfl) (by kernel_rfl) (fun _ _ _ h => h) (Or.inl ⟨by rfl, by intro w hSw; go_simp⟩) (by assumption) ?_
  simp only [Act.put, List.setIfInBounds_toArray, List.set_cons_zero, List.set_cons_succ]
  refine wpAnyH_take (i := 4) (oi := { dst := some 19, op := Op.load 23 (Operand.tmp 18), type := 23, pos := "ref.go:127", after := #[{ on := 3, ground := Ground.data }], guard := none }) (v := .int .u32 (rg f b)) rfl (by kernel_rfl) (by kernel_rfl) (by kernel_rfl) (fun _ _ _ h => h) (Or.inl ⟨by rfl, by intro w hSw; have hq : w.cell? ⟨g7, b.toNat, none⟩ = some (.int .u32 (rg f b)) := ((hSw.get 4 rfl).cell _).trans (f.at _ (by omega)); go_simp⟩) (by assumption) ?_
  simp only [Act.put, List.setIfInBounds_toArray, List.set_cons_zero, List.set_cons_succ]
  refine wpAnyH_take (i := 5) (oi := { dst := some 20, op := Op.fieldAddr 85 (Operand.tmp 9) 5, type := 0, pos := "ref.go:127", after := #[], guard := none }) (v := .pointer (some ⟨g9, 5, none⟩)) rfl (by kernel_rfl) (by kernel_rfl) (by kernel_rfl) (fun _ _ _ h => h) (Or.inl ⟨by rfl, by intro w hSw; go_simp⟩) (by assumption) ?_
  simp only [Act.put, List.setIfInBounds_toArray, List.set_cons_zero, List.set_cons_succ]
  refine wpAnyH_take (i := 6) (oi := { dst := some 21, op := Op.load 3 (Operand.tmp 20), type := 3, pos := "ref.go:127", after := #[{ on := 5, ground := Ground.data }], guard := none }) (v := .int .i64 imm) rfl (by kernel_rfl) (by kernel_rfl) (by kernel_rfl) (fun _ _ _ h => h) (Or.inl ⟨by rfl, by intro w hSw; have hq : w.cell? ⟨g9, 5, none⟩ = some (.int .i64 imm) := (hSw.get 2 rfl).cell 5; go_simp⟩) (by assumption) ?_
  simp only [Act.put, List.setIfInBounds_toArray, List.set_cons_zero, List.set_cons_succ]
  refine wpAnyH_take (i := 7) (oi := { dst := some 22, op := Op.convert 3 23 (Operand.tmp 21), type := 23, pos := "ref.go:127", after := #[{ on := 6, ground := Ground.data }], guard := none }) (v := .int .u32 v) rfl (by kernel_rfl) (by kernel_rfl) (by kernel_rfl) (fun _ _ _ h => h) (Or.inl ⟨by rfl, by intro w hSw; go_simp; exact HI.out⟩) (by assumption) ?_
  simp only [Act.put, List.setIfInBounds_toArray, List.set_cons_zero, List.set_cons_succ]
  refine wpAnyH_take (i := 8) (oi := { dst := some 23, op := Op.binOp BinOp.add 23 (Operand.tmp 19) (Operand.tmp 22) 23, type := 23, pos := "ref.go:127", after := #[{ on := 4, ground := Ground.data }, { on := 7, ground := Ground.data }], guard := none }) (v := .int .u32 ((rg f b + v) % 4294967296)) rfl (by kernel_rfl) (by kernel_rfl) (by kernel_rfl) (fun _ _ _ h => h) (Or.inl ⟨by rfl, by intro w hSw; go_simp; rfl⟩) (by assumption) ?_
  simp only [Act.put, List.setIfInBounds_toArray, List.set_cons_zero, List.set_cons_succ]
  refine wpAnyH_ready (rs := [9]) (by kernel_rfl) (by simp) (AllReadyH.cons (o := { dst := some 12, op := Op.assign (Operand.tmp 23), type := 23, pos := "ref.go:127", after := #[{ on := 8, ground := Ground.data }, { on := 0, ground := Ground.phase }, { on := 1, ground := Ground.phase }, { on := 2, ground := Ground.phase }, { on := 3, ground := Ground.phase }, { on := 4, ground := Ground.phase }, { on := 5, ground := Ground.phase }, { on := 6, ground := Ground.phase }, { on := 7, ground := Ground.phase }, { on := 8, ground := Ground.phase }], guard := none }) rfl (fun KQ hK => ?_) AllReadyH.nil)
  go_simp
  refine hK.out _ _ HD.out (fun hHeld => ?_)
  clear hK KQ
  try simp only [Act.put, List.setIfInBounds_toArray, List.set_cons_zero, List.set_cons_succ]
  refine wpAnyH_done (by kernel_rfl) ?_ _

  have y0 : X.drew.cell? ⟨g9, 0, none⟩ = some (.int .i64 15) := (HD.out.get 2 rfl).cell 0
  have HD2 := hid HD.out
  clear HD
  generalize X.drew = Y at *
  rw [HV.out]
  have y2 : Y.cell? ⟨g9, 2, none⟩ = some (.int .i64 a) := (HD2.out.get 2 rfl).cell 2
  have ya : Y.cell? ⟨g7, a.toNat, none⟩ = some (.int .u32 (rg f a)) := ((HD2.out.get 4 rfl).cell _).trans (f.at _ (by omega))
  by_cases t0 : te = 0
  · subst t0
    go_upto_region 11 with (go_at_call 28; refine (HCl.out _ HD2.out.st.mem).mono ?_; rintro e w2 ⟨rfl, hs2⟩; have B2 := hid (HD2.out.call hs2); clear hs2)
    have z2 : w2.cell? ⟨g9, 2, none⟩ = some (.int .i64 a) := (B2.out.get 2 rfl).cell 2
    have za : w2.cell? ⟨g8, a.toNat, none⟩ = some (.int .u32 (f.nx.r a.toNat)) := ((B2.out.get 3 rfl).cell _).trans (f.nx.at _ (by omega))
    have zf8 := (B2.out.get 3 rfl).free a.toNat
    go_upto_region 12 with fail
    have B3 := hid (B2.out.put (x' := w2.setCell ⟨g8, a.toNat, none⟩ (.int .u32 wv)) (es := (f.nx.put a.toNat wv).cs) 3 rfl (by rw [← f.nx.set a.toNat (by omega) wv]; exact (B2.out.get 3 rfl).setCell a.toNat (.int .u32 wv)) (.setCell _ _ _ _ (by simp)))
    simp only [List.set_cons_zero, List.set_cons_succ] at B3
    generalize hY3 : World.setCell _ _ _ = w3 at *
    clear hY3 B2 z2 za zf8
    go_wp2_with (first | (refine wpList_load_g rfl _ rfl g8 (f.nx.put a.toNat wv) rfl (B3.out.get 3 rfl) ?_) | (refine wpList_store_g rfl _ _ rfl g10 F.zero (f.nx.put a.toNat wv) rfl rfl (B3.out.get 1 rfl) ?_; intro w4 hc3 hb3 hs3; have B4 := hid (B3.out.put 1 rfl hc3 hb3); clear hc3 hb3 hs3) | (refine wpList_store_st rfl 42 _ _ rfl g11 (evc 0 0) rfl rfl (B4.out.get 0 rfl) size42 rfl rfl ?_; intro w5 hc4 hb4 hs4; have B5 := hid (B4.out.put 0 rfl hc4 hb4); clear hc4 hb4 hs4))
    exact ret_two rfl rfl g10 g11 _ _ rfl rfl (B5.out.get 1 rfl) (B5.out.get 0 rfl) under25 under42 rfl rfl (by rw [size25, F.len]) size42 ⟨rfl, r, B5.out.st⟩
  · have t1 : (te == 0) = false := by simpa using t0
    rw [t1] at HCl
    go_upto_region 10 with (go_at_call 28; refine (HCl.out _ HD2.out.st.mem).mono ?_; rintro e w2 ⟨rfl, hs2⟩; have B2 := hid (HD2.out.call hs2); clear hs2)
    go_wp2_with (first | (refine wpList_load_g rfl _ rfl g7 f rfl (B2.out.get 4 rfl) ?_) | (refine wpList_store_g rfl _ _ rfl g10 F.zero f rfl rfl (B2.out.get 1 rfl) ?_; intro w3 hc3 hb3 hs3; have B3 := hid (B2.out.put 1 rfl hc3 hb3); clear hc3 hb3 hs3) | (refine wpList_store_st rfl 42 _ _ rfl g11 (evc 4 va) rfl rfl (B3.out.get 0 rfl) size42 rfl rfl ?_; intro w4 hc4 hb4 hs4; have B4 := hid (B3.out.put 0 rfl hc4 hb4); clear hc4 hb4 hs4))
    exact ret_two rfl rfl g10 g11 _ _ rfl rfl (B4.out.get 1 rfl) (B4.out.get 0 rfl) under25 under42 rfl rfl (by rw [size25, F.len]) size42 ⟨rfl, r, B4.out.st⟩
theorem moved_16 (W : World) (r : Rf) (m : MS) (h : RMem W r m) (hU : m.U) (l : Int) (f : F) (cond a b c imm v : Int) (hvi : imm % 4294967296 = v) (a0 : 0 ≤ a) (a1 : a < 15) (b0 : 0 ≤ b) (b1 : b < 15) (_ : 0 ≤ c) (_ : c < 15) :
    Calls Tryz.prog 31 #[ptr r.g, .int .i64 l, f.v, f.nx.v, .agg #[.int .i64 16, .int .i64 cond, .int .i64 a, .int .i64 b, .int .i64 c, .int .i64 imm]] W fun x w' => x = .returned (if m.trE l ((rg f b + v) % 4294967296) 1 = 0 then .tuple #[f.nx.v, .agg (evc 0 0).toArray] else .tuple #[f.v, .agg (evc 4 ((rg f b + v) % 4294967296)).toArray]) ∧ ∃ r', RSt W w' r r' (m.rcM l ((rg f b + v) % 4294967296) 1 (rg f a)) := by
  have HX := hid (M5.new W r m h f [.int .i64 16, .int .i64 cond, .int .i64 a, .int .i64 b, .int .i64 c, .int .i64 imm])
  have HCl := hid (fun w (hm : RMem w r m) => rstored_any w r m hm hU l ((rg f b + v) % 4294967296) (rg f a) (by omega) (by omega))
  have HI := hid hvi
  clear h hU hvi
  simp only [F.v] at *
  simp only [zg, evc] at HX
  unfold ptr at *
  generalize hv : (rg f b + v) % 4294967296 = va at HCl ⊢
  have HV := hid hv
  clear hv
  generalize m.rcM l va 1 (rg f a) = m2 at *
  skip
  generalize m.trE l va 1 = te at *
  go_enter Tryz.func31, Tryz.ntmps31
  go_upto_region 1 with fail
  generalize hX : ((((W.alloc _).alloc _).alloc _).alloc _).alloc _ = X at *
  clear hX
  generalize W.heap.size + 1 + 1 + 1 + 1 = g11 at *
  generalize W.heap.size + 1 + 1 + 1 = g10 at *
  generalize W.heap.size + 1 + 1 = g9 at *
  generalize W.heap.size + 1 = g8 at *
  generalize W.heap.size = g7 at HX ⊢
  have HD := hid (HX.out.on (Below.refl _ _).drew)
  clear HX
  refine wp_region_held_drew (S := fun x => RB W x r r m [(g11, 42, evc 0 0), (g10, 34, F.zero.cs), (g9, 85, [.int .i64 16, .int .i64 cond, .int .i64 a, .int .i64 b, .int .i64 c, .int .i64 imm]), (g8, 34, f.nx.cs), (g7, 34, f.cs)]) (by kernel_rfl) HD.out (fun hHeld => ?_)
  refine wpAnyH_take (i := 0) (oi := { dst := some 15, op := Op.fieldAddr 85 (Operand.tmp 9) 3, type := 0, pos := "ref.go:127", after := #[], guard := none }) (v := .pointer (some ⟨g9, 3, none⟩)) rfl (by kernel_rfl) (by kernel_rfl) (by kernel_rfl) (fun _ _ _ h => h) (Or.inl ⟨by rfl, by intro w hSw; go_simp⟩) (by assumption) ?_
  simp only [Act.put, List.setIfInBounds_toArray, List.set_cons_zero, List.set_cons_succ]
  refine wpAnyH_take (i := 1) (oi := { dst := some 16, op := Op.load 3 (Operand.tmp 15), type := 3, pos := "ref.go:127", after := #[{ on := 0, ground := Ground.data }], guard := none }) (v := .int .i64 b) rfl (by kernel_rfl) (by kernel_rfl) (by kernel_rfl) (fun _ _ _ h => h) (Or.inl ⟨by rfl, by intro w hSw; have hq : w.cell? ⟨g9, 3, none⟩ = some (.int .i64 b) := (hSw.get 2 rfl).cell 3; go_simp⟩) (by assumption) ?_
  simp only [Act.put, List.setIfInBounds_toArray, List.set_cons_zero, List.set_cons_succ]
  refine wpAnyH_take (i := 2) (oi := { dst := some 17, op := Op.fieldAddr 34 (Operand.tmp 7) 0, type := 0, pos := "ref.go:127", after := #[], guard := none }) (v := .pointer (some ⟨g7, 0, none⟩)) rfl (by kernel_rfl) (by kernel_rfl) (by kernel_rfl) (fun _ _ _ h => h) (Or.inl ⟨by rfl, by intro w hSw; go_simp⟩) (by assumption) ?_
  simp only [Act.put, List.setIfInBounds_toArray, List.set_cons_zero, List.set_cons_succ]
  refine wpAnyH_take (i := 3) (oi := { dst := some 18, op := Op.indexAddr 24 (Operand.tmp 17) (Operand.tmp 16), type := 0, pos := "ref.go:127", after := #[{ on := 2, ground := Ground.data }, { on := 1, ground := Ground.data }], guard := none }) (v := .pointer (some ⟨g7, b.toNat, none⟩)) rfl (by kernel_rfl) (by kernel_rfl) (by kernel_rfl) (fun _ _ _ h => h) (Or.inl ⟨by rfl, by intro w hSw; go_simp⟩) (by assumption) ?_
  simp only [Act.put, List.setIfInBounds_toArray, List.set_cons_zero, List.set_cons_succ]
  refine wpAnyH_take (i := 4) (oi := { dst := some 19, op := Op.load 23 (Operand.tmp 18), type := 23, pos := "ref.go:127", after := #[{ on := 3, ground := Ground.data }], guard := none }) (v := .int .u32 (rg f b)) rfl (by kernel_rfl) (by kernel_rfl) (by kernel_rfl) (fun _ _ _ h => h) (Or.inl ⟨by rfl, by intro w hSw; have hq : w.cell? ⟨g7, b.toNat, none⟩ = some (.int .u32 (rg f b)) := ((hSw.get 4 rfl).cell _).trans (f.at _ (by omega)); go_simp⟩) (by assumption) ?_
  simp only [Act.put, List.setIfInBounds_toArray, List.set_cons_zero, List.set_cons_succ]
  refine wpAnyH_take (i := 5) (oi := { dst := some 20, op := Op.fieldAddr 85 (Operand.tmp 9) 5, type := 0, pos := "ref.go:127", after := #[], guard := none }) (v := .pointer (some ⟨g9, 5, none⟩)) rfl (by kernel_rfl) (by kernel_rfl) (by kernel_rfl) (fun _ _ _ h => h) (Or.inl ⟨by rfl, by intro w hSw; go_simp⟩) (by assumption) ?_
  simp only [Act.put, List.setIfInBounds_toArray, List.set_cons_zero, List.set_cons_succ]
  refine wpAnyH_take (i := 6) (oi := { dst := some 21, op := Op.load 3 (Operand.tmp 20), type := 3, pos := "ref.go:127", after := #[{ on := 5, ground := Ground.data }], guard := none }) (v := .int .i64 imm) rfl (by kernel_rfl) (by kernel_rfl) (by kernel_rfl) (fun _ _ _ h => h) (Or.inl ⟨by rfl, by intro w hSw; have hq : w.cell? ⟨g9, 5, none⟩ = some (.int .i64 imm) := (hSw.get 2 rfl).cell 5; go_simp⟩) (by assumption) ?_
  simp only [Act.put, List.setIfInBounds_toArray, List.set_cons_zero, List.set_cons_succ]
  refine wpAnyH_take (i := 7) (oi := { dst := some 22, op := Op.convert 3 23 (Operand.tmp 21), type := 23, pos := "ref.go:127", after := #[{ on := 6, ground := Ground.data }], guard := none }) (v := .int .u32 v) rfl (by kernel_rfl) (by kernel_rfl) (by kernel_rfl) (fun _ _ _ h => h) (Or.inl ⟨by rfl, by intro w hSw; go_simp; exact HI.out⟩) (by assumption) ?_
  simp only [Act.put, List.setIfInBounds_toArray, List.set_cons_zero, List.set_cons_succ]
  refine wpAnyH_take (i := 8) (oi := { dst := some 23, op := Op.binOp BinOp.add 23 (Operand.tmp 19) (Operand.tmp 22) 23, type := 23, pos := "ref.go:127", after := #[{ on := 4, ground := Ground.data }, { on := 7, ground := Ground.data }], guard := none }) (v := .int .u32 ((rg f b + v) % 4294967296)) rfl (by kernel_rfl) (by kernel_rfl) (by kernel_rfl) (fun _ _ _ h => h) (Or.inl ⟨by rfl, by intro w hSw; go_simp; rfl⟩) (by assumption) ?_
  simp only [Act.put, List.setIfInBounds_toArray, List.set_cons_zero, List.set_cons_succ]
  refine wpAnyH_ready (rs := [9]) (by kernel_rfl) (by simp) (AllReadyH.cons (o := { dst := some 12, op := Op.assign (Operand.tmp 23), type := 23, pos := "ref.go:127", after := #[{ on := 8, ground := Ground.data }, { on := 0, ground := Ground.phase }, { on := 1, ground := Ground.phase }, { on := 2, ground := Ground.phase }, { on := 3, ground := Ground.phase }, { on := 4, ground := Ground.phase }, { on := 5, ground := Ground.phase }, { on := 6, ground := Ground.phase }, { on := 7, ground := Ground.phase }, { on := 8, ground := Ground.phase }], guard := none }) rfl (fun KQ hK => ?_) AllReadyH.nil)
  go_simp
  refine hK.out _ _ HD.out (fun hHeld => ?_)
  clear hK KQ
  try simp only [Act.put, List.setIfInBounds_toArray, List.set_cons_zero, List.set_cons_succ]
  refine wpAnyH_done (by kernel_rfl) ?_ _

  have y0 : X.drew.cell? ⟨g9, 0, none⟩ = some (.int .i64 16) := (HD.out.get 2 rfl).cell 0
  have HD2 := hid HD.out
  clear HD
  generalize X.drew = Y at *
  rw [HV.out]
  have y2 : Y.cell? ⟨g9, 2, none⟩ = some (.int .i64 a) := (HD2.out.get 2 rfl).cell 2
  have ya : Y.cell? ⟨g7, a.toNat, none⟩ = some (.int .u32 (rg f a)) := ((HD2.out.get 4 rfl).cell _).trans (f.at _ (by omega))
  by_cases t0 : te = 0
  · subst t0
    go_upto_region 7 with (go_at_call 66; refine (HCl.out _ HD2.out.st.mem).mono ?_; rintro e w2 ⟨rfl, r2, hs2⟩; have B2 := hid (HD2.out.call hs2); clear hs2)
    go_wp2_with (first | (refine wpList_load_g rfl _ rfl g8 f.nx rfl (B2.out.get 3 rfl) ?_) | (refine wpList_store_g rfl _ _ rfl g10 F.zero f.nx rfl rfl (B2.out.get 1 rfl) ?_; intro w3 hc3 hb3 hs3; have B3 := hid (B2.out.put 1 rfl hc3 hb3); clear hc3 hb3 hs3) | (refine wpList_store_st rfl 42 _ _ rfl g11 (evc 0 0) rfl rfl (B3.out.get 0 rfl) size42 rfl rfl ?_; intro w4 hc4 hb4 hs4; have B4 := hid (B3.out.put 0 rfl hc4 hb4); clear hc4 hb4 hs4))
    exact ret_two rfl rfl g10 g11 _ _ rfl rfl (B4.out.get 1 rfl) (B4.out.get 0 rfl) under25 under42 rfl rfl (by rw [size25, F.len]) size42 ⟨rfl, r2, B4.out.st⟩
  · have t1 : (te == 0) = false := by simpa using t0
    rw [t1] at HCl
    go_upto_region 6 with (go_at_call 66; refine (HCl.out _ HD2.out.st.mem).mono ?_; rintro e w2 ⟨rfl, r2, hs2⟩; have B2 := hid (HD2.out.call hs2); clear hs2)
    go_wp2_with (first | (refine wpList_load_g rfl _ rfl g7 f rfl (B2.out.get 4 rfl) ?_) | (refine wpList_store_g rfl _ _ rfl g10 F.zero f rfl rfl (B2.out.get 1 rfl) ?_; intro w3 hc3 hb3 hs3; have B3 := hid (B2.out.put 1 rfl hc3 hb3); clear hc3 hb3 hs3) | (refine wpList_store_st rfl 42 _ _ rfl g11 (evc 4 va) rfl rfl (B3.out.get 0 rfl) size42 rfl rfl ?_; intro w4 hc4 hb4 hs4; have B4 := hid (B3.out.put 0 rfl hc4 hb4); clear hc4 hb4 hs4))
    exact ret_two rfl rfl g10 g11 _ _ rfl rfl (B4.out.get 1 rfl) (B4.out.get 0 rfl) under25 under42 rfl rfl (by rw [size25, F.len]) size42 ⟨rfl, r2, B4.out.st⟩
theorem moved_17 (W : World) (r : Rf) (m : MS) (h : RMem W r m) (hU : m.U) (l : Int) (f : F) (cond a b c imm v : Int) (hvi : imm % 4294967296 = v) (a0 : 0 ≤ a) (a1 : a < 15) (b0 : 0 ≤ b) (b1 : b < 15) (c0 : 0 ≤ c) (c1 : c < 15) :
    Calls Tryz.prog 31 #[ptr r.g, .int .i64 l, f.v, f.nx.v, .agg #[.int .i64 17, .int .i64 cond, .int .i64 a, .int .i64 b, .int .i64 c, .int .i64 imm]] W fun x w' => x = .returned (if m.trE l ((rg f b + rg f c) % 4294967296) 0 = 0 then .tuple #[(f.nx.put a.toNat (m.rcW l ((rg f b + rg f c) % 4294967296) 0 0)).v, .agg (evc 0 0).toArray] else .tuple #[f.v, .agg (evc 4 ((rg f b + rg f c) % 4294967296)).toArray]) ∧ ∃ r', RSt W w' r r' (m.rcM l ((rg f b + rg f c) % 4294967296) 0 0) := by
  have HX := hid (M5.new W r m h f [.int .i64 17, .int .i64 cond, .int .i64 a, .int .i64 b, .int .i64 c, .int .i64 imm])
  have HCl := hid (fun w (hm : RMem w r m) => rloaded_any w r m hm hU l ((rg f b + rg f c) % 4294967296) 0 (by omega) (by omega) (.inl rfl))
  have HI := hid hvi
  clear h hU hvi
  simp only [F.v] at *
  simp only [zg, evc] at HX
  unfold ptr at *
  generalize hv : (rg f b + rg f c) % 4294967296 = va at HCl ⊢
  have HV := hid hv
  clear hv
  generalize m.rcM l va 0 0 = m2 at *
  generalize m.rcW l va 0 0 = wv at *
  generalize m.trE l va 0 = te at *
  go_enter Tryz.func31, Tryz.ntmps31
  go_upto_region 1 with fail
  generalize hX : ((((W.alloc _).alloc _).alloc _).alloc _).alloc _ = X at *
  clear hX
  generalize W.heap.size + 1 + 1 + 1 + 1 = g11 at *
  generalize W.heap.size + 1 + 1 + 1 = g10 at *
  generalize W.heap.size + 1 + 1 = g9 at *
  generalize W.heap.size + 1 = g8 at *
  generalize W.heap.size = g7 at HX ⊢
  have HD := hid (HX.out.on (Below.refl _ _).drew)
  clear HX
  refine wp_region_held_drew (S := fun x => RB W x r r m [(g11, 42, evc 0 0), (g10, 34, F.zero.cs), (g9, 85, [.int .i64 17, .int .i64 cond, .int .i64 a, .int .i64 b, .int .i64 c, .int .i64 imm]), (g8, 34, f.nx.cs), (g7, 34, f.cs)]) (by kernel_rfl) HD.out (fun hHeld => ?_)
  refine wpAnyH_take (i := 0) (oi := { dst := some 15, op := Op.fieldAddr 85 (Operand.tmp 9) 3, type := 0, pos := "ref.go:127", after := #[], guard := none }) (v := .pointer (some ⟨g9, 3, none⟩)) rfl (by kernel_rfl) (by kernel_rfl) (by kernel_rfl) (fun _ _ _ h => h) (Or.inl ⟨by rfl, by intro w hSw; go_simp⟩) (by assumption) ?_
  simp only [Act.put, List.setIfInBounds_toArray, List.set_cons_zero, List.set_cons_succ]
  refine wpAnyH_take (i := 1) (oi := { dst := some 16, op := Op.load 3 (Operand.tmp 15), type := 3, pos := "ref.go:127", after := #[{ on := 0, ground := Ground.data }], guard := none }) (v := .int .i64 b) rfl (by kernel_rfl) (by kernel_rfl) (by kernel_rfl) (fun _ _ _ h => h) (Or.inl ⟨by rfl, by intro w hSw; have hq : w.cell? ⟨g9, 3, none⟩ = some (.int .i64 b) := (hSw.get 2 rfl).cell 3; go_simp⟩) (by assumption) ?_
  simp only [Act.put, List.setIfInBounds_toArray, List.set_cons_zero, List.set_cons_succ]
  refine wpAnyH_take (i := 2) (oi := { dst := some 17, op := Op.fieldAddr 34 (Operand.tmp 7) 0, type := 0, pos := "ref.go:127", after := #[], guard := none }) (v := .pointer (some ⟨g7, 0, none⟩)) rfl (by kernel_rfl) (by kernel_rfl) (by kernel_rfl) (fun _ _ _ h => h) (Or.inl ⟨by rfl, by intro w hSw; go_simp⟩) (by assumption) ?_
  simp only [Act.put, List.setIfInBounds_toArray, List.set_cons_zero, List.set_cons_succ]
  refine wpAnyH_take (i := 3) (oi := { dst := some 18, op := Op.indexAddr 24 (Operand.tmp 17) (Operand.tmp 16), type := 0, pos := "ref.go:127", after := #[{ on := 2, ground := Ground.data }, { on := 1, ground := Ground.data }], guard := none }) (v := .pointer (some ⟨g7, b.toNat, none⟩)) rfl (by kernel_rfl) (by kernel_rfl) (by kernel_rfl) (fun _ _ _ h => h) (Or.inl ⟨by rfl, by intro w hSw; go_simp⟩) (by assumption) ?_
  simp only [Act.put, List.setIfInBounds_toArray, List.set_cons_zero, List.set_cons_succ]
  refine wpAnyH_take (i := 4) (oi := { dst := some 19, op := Op.load 23 (Operand.tmp 18), type := 23, pos := "ref.go:127", after := #[{ on := 3, ground := Ground.data }], guard := none }) (v := .int .u32 (rg f b)) rfl (by kernel_rfl) (by kernel_rfl) (by kernel_rfl) (fun _ _ _ h => h) (Or.inl ⟨by rfl, by intro w hSw; have hq : w.cell? ⟨g7, b.toNat, none⟩ = some (.int .u32 (rg f b)) := ((hSw.get 4 rfl).cell _).trans (f.at _ (by omega)); go_simp⟩) (by assumption) ?_
  simp only [Act.put, List.setIfInBounds_toArray, List.set_cons_zero, List.set_cons_succ]
  refine wpAnyH_take (i := 5) (oi := { dst := some 20, op := Op.fieldAddr 85 (Operand.tmp 9) 5, type := 0, pos := "ref.go:127", after := #[], guard := none }) (v := .pointer (some ⟨g9, 5, none⟩)) rfl (by kernel_rfl) (by kernel_rfl) (by kernel_rfl) (fun _ _ _ h => h) (Or.inl ⟨by rfl, by intro w hSw; go_simp⟩) (by assumption) ?_
  simp only [Act.put, List.setIfInBounds_toArray, List.set_cons_zero, List.set_cons_succ]
  refine wpAnyH_take (i := 6) (oi := { dst := some 21, op := Op.load 3 (Operand.tmp 20), type := 3, pos := "ref.go:127", after := #[{ on := 5, ground := Ground.data }], guard := none }) (v := .int .i64 imm) rfl (by kernel_rfl) (by kernel_rfl) (by kernel_rfl) (fun _ _ _ h => h) (Or.inl ⟨by rfl, by intro w hSw; have hq : w.cell? ⟨g9, 5, none⟩ = some (.int .i64 imm) := (hSw.get 2 rfl).cell 5; go_simp⟩) (by assumption) ?_
  simp only [Act.put, List.setIfInBounds_toArray, List.set_cons_zero, List.set_cons_succ]
  refine wpAnyH_take (i := 7) (oi := { dst := some 22, op := Op.convert 3 23 (Operand.tmp 21), type := 23, pos := "ref.go:127", after := #[{ on := 6, ground := Ground.data }], guard := none }) (v := .int .u32 v) rfl (by kernel_rfl) (by kernel_rfl) (by kernel_rfl) (fun _ _ _ h => h) (Or.inl ⟨by rfl, by intro w hSw; go_simp; exact HI.out⟩) (by assumption) ?_
  simp only [Act.put, List.setIfInBounds_toArray, List.set_cons_zero, List.set_cons_succ]
  refine wpAnyH_take (i := 8) (oi := { dst := some 23, op := Op.binOp BinOp.add 23 (Operand.tmp 19) (Operand.tmp 22) 23, type := 23, pos := "ref.go:127", after := #[{ on := 4, ground := Ground.data }, { on := 7, ground := Ground.data }], guard := none }) (v := .int .u32 ((rg f b + v) % 4294967296)) rfl (by kernel_rfl) (by kernel_rfl) (by kernel_rfl) (fun _ _ _ h => h) (Or.inl ⟨by rfl, by intro w hSw; go_simp; rfl⟩) (by assumption) ?_
  simp only [Act.put, List.setIfInBounds_toArray, List.set_cons_zero, List.set_cons_succ]
  refine wpAnyH_ready (rs := [9]) (by kernel_rfl) (by simp) (AllReadyH.cons (o := { dst := some 12, op := Op.assign (Operand.tmp 23), type := 23, pos := "ref.go:127", after := #[{ on := 8, ground := Ground.data }, { on := 0, ground := Ground.phase }, { on := 1, ground := Ground.phase }, { on := 2, ground := Ground.phase }, { on := 3, ground := Ground.phase }, { on := 4, ground := Ground.phase }, { on := 5, ground := Ground.phase }, { on := 6, ground := Ground.phase }, { on := 7, ground := Ground.phase }, { on := 8, ground := Ground.phase }], guard := none }) rfl (fun KQ hK => ?_) AllReadyH.nil)
  go_simp
  refine hK.out _ _ HD.out (fun hHeld => ?_)
  clear hK KQ
  try simp only [Act.put, List.setIfInBounds_toArray, List.set_cons_zero, List.set_cons_succ]
  refine wpAnyH_done (by kernel_rfl) ?_ _

  have y0 : X.drew.cell? ⟨g9, 0, none⟩ = some (.int .i64 17) := (HD.out.get 2 rfl).cell 0
  go_upto_region 3 with fail
  have HD2 := hid (HD.out.on (Below.refl _ _).drew)
  clear HD y0
  refine wp_region_held_drew (S := fun x => RB W x r r m [(g11, 42, evc 0 0), (g10, 34, F.zero.cs), (g9, 85, [.int .i64 17, .int .i64 cond, .int .i64 a, .int .i64 b, .int .i64 c, .int .i64 imm]), (g8, 34, f.nx.cs), (g7, 34, f.cs)]) (by kernel_rfl) HD2.out (fun hHeld => ?_)
  refine wpAnyH_take (i := 0) (oi := { dst := some 27, op := Op.fieldAddr 85 (Operand.tmp 9) 3, type := 0, pos := "ref.go:129", after := #[], guard := none }) (v := .pointer (some ⟨g9, 3, none⟩)) rfl (by kernel_rfl) (by kernel_rfl) (by kernel_rfl) (fun _ _ _ h => h) (Or.inl ⟨by rfl, by intro w hSw; go_simp⟩) (by assumption) ?_
  simp only [Act.put, List.setIfInBounds_toArray, List.set_cons_zero, List.set_cons_succ]
  refine wpAnyH_take (i := 1) (oi := { dst := some 28, op := Op.load 3 (Operand.tmp 27), type := 3, pos := "ref.go:129", after := #[{ on := 0, ground := Ground.data }], guard := none }) (v := .int .i64 b) rfl (by kernel_rfl) (by kernel_rfl) (by kernel_rfl) (fun _ _ _ h => h) (Or.inl ⟨by rfl, by intro w hSw; have hq : w.cell? ⟨g9, 3, none⟩ = some (.int .i64 b) := (hSw.get 2 rfl).cell 3; go_simp⟩) (by assumption) ?_
  simp only [Act.put, List.setIfInBounds_toArray, List.set_cons_zero, List.set_cons_succ]
  refine wpAnyH_take (i := 2) (oi := { dst := some 29, op := Op.fieldAddr 34 (Operand.tmp 7) 0, type := 0, pos := "ref.go:129", after := #[], guard := none }) (v := .pointer (some ⟨g7, 0, none⟩)) rfl (by kernel_rfl) (by kernel_rfl) (by kernel_rfl) (fun _ _ _ h => h) (Or.inl ⟨by rfl, by intro w hSw; go_simp⟩) (by assumption) ?_
  simp only [Act.put, List.setIfInBounds_toArray, List.set_cons_zero, List.set_cons_succ]
  refine wpAnyH_take (i := 3) (oi := { dst := some 30, op := Op.indexAddr 24 (Operand.tmp 29) (Operand.tmp 28), type := 0, pos := "ref.go:129", after := #[{ on := 2, ground := Ground.data }, { on := 1, ground := Ground.data }], guard := none }) (v := .pointer (some ⟨g7, b.toNat, none⟩)) rfl (by kernel_rfl) (by kernel_rfl) (by kernel_rfl) (fun _ _ _ h => h) (Or.inl ⟨by rfl, by intro w hSw; go_simp⟩) (by assumption) ?_
  simp only [Act.put, List.setIfInBounds_toArray, List.set_cons_zero, List.set_cons_succ]
  refine wpAnyH_take (i := 4) (oi := { dst := some 31, op := Op.load 23 (Operand.tmp 30), type := 23, pos := "ref.go:129", after := #[{ on := 3, ground := Ground.data }], guard := none }) (v := .int .u32 (rg f b)) rfl (by kernel_rfl) (by kernel_rfl) (by kernel_rfl) (fun _ _ _ h => h) (Or.inl ⟨by rfl, by intro w hSw; have hq : w.cell? ⟨g7, b.toNat, none⟩ = some (.int .u32 (rg f b)) := ((hSw.get 4 rfl).cell _).trans (f.at _ (by omega)); go_simp⟩) (by assumption) ?_
  simp only [Act.put, List.setIfInBounds_toArray, List.set_cons_zero, List.set_cons_succ]
  refine wpAnyH_take (i := 5) (oi := { dst := some 32, op := Op.fieldAddr 85 (Operand.tmp 9) 4, type := 0, pos := "ref.go:129", after := #[], guard := none }) (v := .pointer (some ⟨g9, 4, none⟩)) rfl (by kernel_rfl) (by kernel_rfl) (by kernel_rfl) (fun _ _ _ h => h) (Or.inl ⟨by rfl, by intro w hSw; go_simp⟩) (by assumption) ?_
  simp only [Act.put, List.setIfInBounds_toArray, List.set_cons_zero, List.set_cons_succ]
  refine wpAnyH_take (i := 6) (oi := { dst := some 33, op := Op.load 3 (Operand.tmp 32), type := 3, pos := "ref.go:129", after := #[{ on := 5, ground := Ground.data }], guard := none }) (v := .int .i64 c) rfl (by kernel_rfl) (by kernel_rfl) (by kernel_rfl) (fun _ _ _ h => h) (Or.inl ⟨by rfl, by intro w hSw; have hq : w.cell? ⟨g9, 4, none⟩ = some (.int .i64 c) := (hSw.get 2 rfl).cell 4; go_simp⟩) (by assumption) ?_
  simp only [Act.put, List.setIfInBounds_toArray, List.set_cons_zero, List.set_cons_succ]
  refine wpAnyH_take (i := 7) (oi := { dst := some 34, op := Op.fieldAddr 34 (Operand.tmp 7) 0, type := 0, pos := "ref.go:129", after := #[], guard := none }) (v := .pointer (some ⟨g7, 0, none⟩)) rfl (by kernel_rfl) (by kernel_rfl) (by kernel_rfl) (fun _ _ _ h => h) (Or.inl ⟨by rfl, by intro w hSw; go_simp⟩) (by assumption) ?_
  simp only [Act.put, List.setIfInBounds_toArray, List.set_cons_zero, List.set_cons_succ]
  refine wpAnyH_take (i := 8) (oi := { dst := some 35, op := Op.indexAddr 24 (Operand.tmp 34) (Operand.tmp 33), type := 0, pos := "ref.go:129", after := #[{ on := 7, ground := Ground.data }, { on := 6, ground := Ground.data }], guard := none }) (v := .pointer (some ⟨g7, c.toNat, none⟩)) rfl (by kernel_rfl) (by kernel_rfl) (by kernel_rfl) (fun _ _ _ h => h) (Or.inl ⟨by rfl, by intro w hSw; go_simp⟩) (by assumption) ?_
  simp only [Act.put, List.setIfInBounds_toArray, List.set_cons_zero, List.set_cons_succ]
  refine wpAnyH_take (i := 9) (oi := { dst := some 36, op := Op.load 23 (Operand.tmp 35), type := 23, pos := "ref.go:129", after := #[{ on := 8, ground := Ground.data }], guard := none }) (v := .int .u32 (rg f c)) rfl (by kernel_rfl) (by kernel_rfl) (by kernel_rfl) (fun _ _ _ h => h) (Or.inl ⟨by rfl, by intro w hSw; have hq : w.cell? ⟨g7, c.toNat, none⟩ = some (.int .u32 (rg f c)) := ((hSw.get 4 rfl).cell _).trans (f.at _ (by omega)); go_simp⟩) (by assumption) ?_
  simp only [Act.put, List.setIfInBounds_toArray, List.set_cons_zero, List.set_cons_succ]
  refine wpAnyH_take (i := 10) (oi := { dst := some 37, op := Op.binOp BinOp.add 23 (Operand.tmp 31) (Operand.tmp 36) 23, type := 23, pos := "ref.go:129", after := #[{ on := 4, ground := Ground.data }, { on := 9, ground := Ground.data }], guard := none }) (v := .int .u32 ((rg f b + rg f c) % 4294967296)) rfl (by kernel_rfl) (by kernel_rfl) (by kernel_rfl) (fun _ _ _ h => h) (Or.inl ⟨by rfl, by intro w hSw; go_simp; rfl⟩) (by assumption) ?_
  simp only [Act.put, List.setIfInBounds_toArray, List.set_cons_zero, List.set_cons_succ]
  refine wpAnyH_ready (rs := [11]) (by kernel_rfl) (by simp) (AllReadyH.cons (o := { dst := some 12, op := Op.assign (Operand.tmp 37), type := 23, pos := "ref.go:129", after := #[{ on := 10, ground := Ground.data }, { on := 0, ground := Ground.phase }, { on := 1, ground := Ground.phase }, { on := 2, ground := Ground.phase }, { on := 3, ground := Ground.phase }, { on := 4, ground := Ground.phase }, { on := 5, ground := Ground.phase }, { on := 6, ground := Ground.phase }, { on := 7, ground := Ground.phase }, { on := 8, ground := Ground.phase }, { on := 9, ground := Ground.phase }, { on := 10, ground := Ground.phase }], guard := none }) rfl (fun KQ hK => ?_) AllReadyH.nil)
  go_simp
  refine hK.out _ _ HD2.out (fun hHeld => ?_)
  clear hK KQ
  try simp only [Act.put, List.setIfInBounds_toArray, List.set_cons_zero, List.set_cons_succ]
  refine wpAnyH_done (by kernel_rfl) ?_ _

  generalize X.drew.drew = Y at *
  have y0 : Y.cell? ⟨g9, 0, none⟩ = some (.int .i64 17) := (HD2.out.get 2 rfl).cell 0
  rw [HV.out]
  have y2 : Y.cell? ⟨g9, 2, none⟩ = some (.int .i64 a) := (HD2.out.get 2 rfl).cell 2
  have ya : Y.cell? ⟨g7, a.toNat, none⟩ = some (.int .u32 (rg f a)) := ((HD2.out.get 4 rfl).cell _).trans (f.at _ (by omega))
  by_cases t0 : te = 0
  · subst t0
    go_upto_region 11 with (go_at_call 28; refine (HCl.out _ HD2.out.st.mem).mono ?_; rintro e w2 ⟨rfl, hs2⟩; have B2 := hid (HD2.out.call hs2); clear hs2)
    have z2 : w2.cell? ⟨g9, 2, none⟩ = some (.int .i64 a) := (B2.out.get 2 rfl).cell 2
    have za : w2.cell? ⟨g8, a.toNat, none⟩ = some (.int .u32 (f.nx.r a.toNat)) := ((B2.out.get 3 rfl).cell _).trans (f.nx.at _ (by omega))
    have zf8 := (B2.out.get 3 rfl).free a.toNat
    go_upto_region 12 with fail
    have B3 := hid (B2.out.put (x' := w2.setCell ⟨g8, a.toNat, none⟩ (.int .u32 wv)) (es := (f.nx.put a.toNat wv).cs) 3 rfl (by rw [← f.nx.set a.toNat (by omega) wv]; exact (B2.out.get 3 rfl).setCell a.toNat (.int .u32 wv)) (.setCell _ _ _ _ (by simp)))
    simp only [List.set_cons_zero, List.set_cons_succ] at B3
    generalize hY3 : World.setCell _ _ _ = w3 at *
    clear hY3 B2 z2 za zf8
    go_wp2_with (first | (refine wpList_load_g rfl _ rfl g8 (f.nx.put a.toNat wv) rfl (B3.out.get 3 rfl) ?_) | (refine wpList_store_g rfl _ _ rfl g10 F.zero (f.nx.put a.toNat wv) rfl rfl (B3.out.get 1 rfl) ?_; intro w4 hc3 hb3 hs3; have B4 := hid (B3.out.put 1 rfl hc3 hb3); clear hc3 hb3 hs3) | (refine wpList_store_st rfl 42 _ _ rfl g11 (evc 0 0) rfl rfl (B4.out.get 0 rfl) size42 rfl rfl ?_; intro w5 hc4 hb4 hs4; have B5 := hid (B4.out.put 0 rfl hc4 hb4); clear hc4 hb4 hs4))
    exact ret_two rfl rfl g10 g11 _ _ rfl rfl (B5.out.get 1 rfl) (B5.out.get 0 rfl) under25 under42 rfl rfl (by rw [size25, F.len]) size42 ⟨rfl, r, B5.out.st⟩
  · have t1 : (te == 0) = false := by simpa using t0
    rw [t1] at HCl
    go_upto_region 10 with (go_at_call 28; refine (HCl.out _ HD2.out.st.mem).mono ?_; rintro e w2 ⟨rfl, hs2⟩; have B2 := hid (HD2.out.call hs2); clear hs2)
    go_wp2_with (first | (refine wpList_load_g rfl _ rfl g7 f rfl (B2.out.get 4 rfl) ?_) | (refine wpList_store_g rfl _ _ rfl g10 F.zero f rfl rfl (B2.out.get 1 rfl) ?_; intro w3 hc3 hb3 hs3; have B3 := hid (B2.out.put 1 rfl hc3 hb3); clear hc3 hb3 hs3) | (refine wpList_store_st rfl 42 _ _ rfl g11 (evc 4 va) rfl rfl (B3.out.get 0 rfl) size42 rfl rfl ?_; intro w4 hc4 hb4 hs4; have B4 := hid (B3.out.put 0 rfl hc4 hb4); clear hc4 hb4 hs4))
    exact ret_two rfl rfl g10 g11 _ _ rfl rfl (B4.out.get 1 rfl) (B4.out.get 0 rfl) under25 under42 rfl rfl (by rw [size25, F.len]) size42 ⟨rfl, r, B4.out.st⟩
theorem moved_18 (W : World) (r : Rf) (m : MS) (h : RMem W r m) (hU : m.U) (l : Int) (f : F) (cond a b c imm v : Int) (hvi : imm % 4294967296 = v) (a0 : 0 ≤ a) (a1 : a < 15) (b0 : 0 ≤ b) (b1 : b < 15) (c0 : 0 ≤ c) (c1 : c < 15) :
    Calls Tryz.prog 31 #[ptr r.g, .int .i64 l, f.v, f.nx.v, .agg #[.int .i64 18, .int .i64 cond, .int .i64 a, .int .i64 b, .int .i64 c, .int .i64 imm]] W fun x w' => x = .returned (if m.trE l ((rg f b + rg f c) % 4294967296) 1 = 0 then .tuple #[f.nx.v, .agg (evc 0 0).toArray] else .tuple #[f.v, .agg (evc 4 ((rg f b + rg f c) % 4294967296)).toArray]) ∧ ∃ r', RSt W w' r r' (m.rcM l ((rg f b + rg f c) % 4294967296) 1 (rg f a)) := by
  have HX := hid (M5.new W r m h f [.int .i64 18, .int .i64 cond, .int .i64 a, .int .i64 b, .int .i64 c, .int .i64 imm])
  have HCl := hid (fun w (hm : RMem w r m) => rstored_any w r m hm hU l ((rg f b + rg f c) % 4294967296) (rg f a) (by omega) (by omega))
  have HI := hid hvi
  clear h hU hvi
  simp only [F.v] at *
  simp only [zg, evc] at HX
  unfold ptr at *
  generalize hv : (rg f b + rg f c) % 4294967296 = va at HCl ⊢
  have HV := hid hv
  clear hv
  generalize m.rcM l va 1 (rg f a) = m2 at *
  skip
  generalize m.trE l va 1 = te at *
  go_enter Tryz.func31, Tryz.ntmps31
  go_upto_region 1 with fail
  generalize hX : ((((W.alloc _).alloc _).alloc _).alloc _).alloc _ = X at *
  clear hX
  generalize W.heap.size + 1 + 1 + 1 + 1 = g11 at *
  generalize W.heap.size + 1 + 1 + 1 = g10 at *
  generalize W.heap.size + 1 + 1 = g9 at *
  generalize W.heap.size + 1 = g8 at *
  generalize W.heap.size = g7 at HX ⊢
  have HD := hid (HX.out.on (Below.refl _ _).drew)
  clear HX
  refine wp_region_held_drew (S := fun x => RB W x r r m [(g11, 42, evc 0 0), (g10, 34, F.zero.cs), (g9, 85, [.int .i64 18, .int .i64 cond, .int .i64 a, .int .i64 b, .int .i64 c, .int .i64 imm]), (g8, 34, f.nx.cs), (g7, 34, f.cs)]) (by kernel_rfl) HD.out (fun hHeld => ?_)
  refine wpAnyH_take (i := 0) (oi := { dst := some 15, op := Op.fieldAddr 85 (Operand.tmp 9) 3, type := 0, pos := "ref.go:127", after := #[], guard := none }) (v := .pointer (some ⟨g9, 3, none⟩)) rfl (by kernel_rfl) (by kernel_rfl) (by kernel_rfl) (fun _ _ _ h => h) (Or.inl ⟨by rfl, by intro w hSw; go_simp⟩) (by assumption) ?_
  simp only [Act.put, List.setIfInBounds_toArray, List.set_cons_zero, List.set_cons_succ]
  refine wpAnyH_take (i := 1) (oi := { dst := some 16, op := Op.load 3 (Operand.tmp 15), type := 3, pos := "ref.go:127", after := #[{ on := 0, ground := Ground.data }], guard := none }) (v := .int .i64 b) rfl (by kernel_rfl) (by kernel_rfl) (by kernel_rfl) (fun _ _ _ h => h) (Or.inl ⟨by rfl, by intro w hSw; have hq : w.cell? ⟨g9, 3, none⟩ = some (.int .i64 b) := (hSw.get 2 rfl).cell 3; go_simp⟩) (by assumption) ?_
  simp only [Act.put, List.setIfInBounds_toArray, List.set_cons_zero, List.set_cons_succ]
  refine wpAnyH_take (i := 2) (oi := { dst := some 17, op := Op.fieldAddr 34 (Operand.tmp 7) 0, type := 0, pos := "ref.go:127", after := #[], guard := none }) (v := .pointer (some ⟨g7, 0, none⟩)) rfl (by kernel_rfl) (by kernel_rfl) (by kernel_rfl) (fun _ _ _ h => h) (Or.inl ⟨by rfl, by intro w hSw; go_simp⟩) (by assumption) ?_
  simp only [Act.put, List.setIfInBounds_toArray, List.set_cons_zero, List.set_cons_succ]
  refine wpAnyH_take (i := 3) (oi := { dst := some 18, op := Op.indexAddr 24 (Operand.tmp 17) (Operand.tmp 16), type := 0, pos := "ref.go:127", after := #[{ on := 2, ground := Ground.data }, { on := 1, ground := Ground.data }], guard := none }) (v := .pointer (some ⟨g7, b.toNat, none⟩)) rfl (by kernel_rfl) (by kernel_rfl) (by kernel_rfl) (fun _ _ _ h => h) (Or.inl ⟨by rfl, by intro w hSw; go_simp⟩) (by assumption) ?_
  simp only [Act.put, List.setIfInBounds_toArray, List.set_cons_zero, List.set_cons_succ]
  refine wpAnyH_take (i := 4) (oi := { dst := some 19, op := Op.load 23 (Operand.tmp 18), type := 23, pos := "ref.go:127", after := #[{ on := 3, ground := Ground.data }], guard := none }) (v := .int .u32 (rg f b)) rfl (by kernel_rfl) (by kernel_rfl) (by kernel_rfl) (fun _ _ _ h => h) (Or.inl ⟨by rfl, by intro w hSw; have hq : w.cell? ⟨g7, b.toNat, none⟩ = some (.int .u32 (rg f b)) := ((hSw.get 4 rfl).cell _).trans (f.at _ (by omega)); go_simp⟩) (by assumption) ?_
  simp only [Act.put, List.setIfInBounds_toArray, List.set_cons_zero, List.set_cons_succ]
  refine wpAnyH_take (i := 5) (oi := { dst := some 20, op := Op.fieldAddr 85 (Operand.tmp 9) 5, type := 0, pos := "ref.go:127", after := #[], guard := none }) (v := .pointer (some ⟨g9, 5, none⟩)) rfl (by kernel_rfl) (by kernel_rfl) (by kernel_rfl) (fun _ _ _ h => h) (Or.inl ⟨by rfl, by intro w hSw; go_simp⟩) (by assumption) ?_
  simp only [Act.put, List.setIfInBounds_toArray, List.set_cons_zero, List.set_cons_succ]
  refine wpAnyH_take (i := 6) (oi := { dst := some 21, op := Op.load 3 (Operand.tmp 20), type := 3, pos := "ref.go:127", after := #[{ on := 5, ground := Ground.data }], guard := none }) (v := .int .i64 imm) rfl (by kernel_rfl) (by kernel_rfl) (by kernel_rfl) (fun _ _ _ h => h) (Or.inl ⟨by rfl, by intro w hSw; have hq : w.cell? ⟨g9, 5, none⟩ = some (.int .i64 imm) := (hSw.get 2 rfl).cell 5; go_simp⟩) (by assumption) ?_
  simp only [Act.put, List.setIfInBounds_toArray, List.set_cons_zero, List.set_cons_succ]
  refine wpAnyH_take (i := 7) (oi := { dst := some 22, op := Op.convert 3 23 (Operand.tmp 21), type := 23, pos := "ref.go:127", after := #[{ on := 6, ground := Ground.data }], guard := none }) (v := .int .u32 v) rfl (by kernel_rfl) (by kernel_rfl) (by kernel_rfl) (fun _ _ _ h => h) (Or.inl ⟨by rfl, by intro w hSw; go_simp; exact HI.out⟩) (by assumption) ?_
  simp only [Act.put, List.setIfInBounds_toArray, List.set_cons_zero, List.set_cons_succ]
  refine wpAnyH_take (i := 8) (oi := { dst := some 23, op := Op.binOp BinOp.add 23 (Operand.tmp 19) (Operand.tmp 22) 23, type := 23, pos := "ref.go:127", after := #[{ on := 4, ground := Ground.data }, { on := 7, ground := Ground.data }], guard := none }) (v := .int .u32 ((rg f b + v) % 4294967296)) rfl (by kernel_rfl) (by kernel_rfl) (by kernel_rfl) (fun _ _ _ h => h) (Or.inl ⟨by rfl, by intro w hSw; go_simp; rfl⟩) (by assumption) ?_
  simp only [Act.put, List.setIfInBounds_toArray, List.set_cons_zero, List.set_cons_succ]
  refine wpAnyH_ready (rs := [9]) (by kernel_rfl) (by simp) (AllReadyH.cons (o := { dst := some 12, op := Op.assign (Operand.tmp 23), type := 23, pos := "ref.go:127", after := #[{ on := 8, ground := Ground.data }, { on := 0, ground := Ground.phase }, { on := 1, ground := Ground.phase }, { on := 2, ground := Ground.phase }, { on := 3, ground := Ground.phase }, { on := 4, ground := Ground.phase }, { on := 5, ground := Ground.phase }, { on := 6, ground := Ground.phase }, { on := 7, ground := Ground.phase }, { on := 8, ground := Ground.phase }], guard := none }) rfl (fun KQ hK => ?_) AllReadyH.nil)
  go_simp
  refine hK.out _ _ HD.out (fun hHeld => ?_)
  clear hK KQ
  try simp only [Act.put, List.setIfInBounds_toArray, List.set_cons_zero, List.set_cons_succ]
  refine wpAnyH_done (by kernel_rfl) ?_ _

  have y0 : X.drew.cell? ⟨g9, 0, none⟩ = some (.int .i64 18) := (HD.out.get 2 rfl).cell 0
  go_upto_region 3 with fail
  have HD2 := hid (HD.out.on (Below.refl _ _).drew)
  clear HD y0
  refine wp_region_held_drew (S := fun x => RB W x r r m [(g11, 42, evc 0 0), (g10, 34, F.zero.cs), (g9, 85, [.int .i64 18, .int .i64 cond, .int .i64 a, .int .i64 b, .int .i64 c, .int .i64 imm]), (g8, 34, f.nx.cs), (g7, 34, f.cs)]) (by kernel_rfl) HD2.out (fun hHeld => ?_)
  refine wpAnyH_take (i := 0) (oi := { dst := some 27, op := Op.fieldAddr 85 (Operand.tmp 9) 3, type := 0, pos := "ref.go:129", after := #[], guard := none }) (v := .pointer (some ⟨g9, 3, none⟩)) rfl (by kernel_rfl) (by kernel_rfl) (by kernel_rfl) (fun _ _ _ h => h) (Or.inl ⟨by rfl, by intro w hSw; go_simp⟩) (by assumption) ?_
  simp only [Act.put, List.setIfInBounds_toArray, List.set_cons_zero, List.set_cons_succ]
  refine wpAnyH_take (i := 1) (oi := { dst := some 28, op := Op.load 3 (Operand.tmp 27), type := 3, pos := "ref.go:129", after := #[{ on := 0, ground := Ground.data }], guard := none }) (v := .int .i64 b) rfl (by kernel_rfl) (by kernel_rfl) (by kernel_rfl) (fun _ _ _ h => h) (Or.inl ⟨by rfl, by intro w hSw; have hq : w.cell? ⟨g9, 3, none⟩ = some (.int .i64 b) := (hSw.get 2 rfl).cell 3; go_simp⟩) (by assumption) ?_
  simp only [Act.put, List.setIfInBounds_toArray, List.set_cons_zero, List.set_cons_succ]
  refine wpAnyH_take (i := 2) (oi := { dst := some 29, op := Op.fieldAddr 34 (Operand.tmp 7) 0, type := 0, pos := "ref.go:129", after := #[], guard := none }) (v := .pointer (some ⟨g7, 0, none⟩)) rfl (by kernel_rfl) (by kernel_rfl) (by kernel_rfl) (fun _ _ _ h => h) (Or.inl ⟨by rfl, by intro w hSw; go_simp⟩) (by assumption) ?_
  simp only [Act.put, List.setIfInBounds_toArray, List.set_cons_zero, List.set_cons_succ]
  refine wpAnyH_take (i := 3) (oi := { dst := some 30, op := Op.indexAddr 24 (Operand.tmp 29) (Operand.tmp 28), type := 0, pos := "ref.go:129", after := #[{ on := 2, ground := Ground.data }, { on := 1, ground := Ground.data }], guard := none }) (v := .pointer (some ⟨g7, b.toNat, none⟩)) rfl (by kernel_rfl) (by kernel_rfl) (by kernel_rfl) (fun _ _ _ h => h) (Or.inl ⟨by rfl, by intro w hSw; go_simp⟩) (by assumption) ?_
  simp only [Act.put, List.setIfInBounds_toArray, List.set_cons_zero, List.set_cons_succ]
  refine wpAnyH_take (i := 4) (oi := { dst := some 31, op := Op.load 23 (Operand.tmp 30), type := 23, pos := "ref.go:129", after := #[{ on := 3, ground := Ground.data }], guard := none }) (v := .int .u32 (rg f b)) rfl (by kernel_rfl) (by kernel_rfl) (by kernel_rfl) (fun _ _ _ h => h) (Or.inl ⟨by rfl, by intro w hSw; have hq : w.cell? ⟨g7, b.toNat, none⟩ = some (.int .u32 (rg f b)) := ((hSw.get 4 rfl).cell _).trans (f.at _ (by omega)); go_simp⟩) (by assumption) ?_
  simp only [Act.put, List.setIfInBounds_toArray, List.set_cons_zero, List.set_cons_succ]
  refine wpAnyH_take (i := 5) (oi := { dst := some 32, op := Op.fieldAddr 85 (Operand.tmp 9) 4, type := 0, pos := "ref.go:129", after := #[], guard := none }) (v := .pointer (some ⟨g9, 4, none⟩)) rfl (by kernel_rfl) (by kernel_rfl) (by kernel_rfl) (fun _ _ _ h => h) (Or.inl ⟨by rfl, by intro w hSw; go_simp⟩) (by assumption) ?_
  simp only [Act.put, List.setIfInBounds_toArray, List.set_cons_zero, List.set_cons_succ]
  refine wpAnyH_take (i := 6) (oi := { dst := some 33, op := Op.load 3 (Operand.tmp 32), type := 3, pos := "ref.go:129", after := #[{ on := 5, ground := Ground.data }], guard := none }) (v := .int .i64 c) rfl (by kernel_rfl) (by kernel_rfl) (by kernel_rfl) (fun _ _ _ h => h) (Or.inl ⟨by rfl, by intro w hSw; have hq : w.cell? ⟨g9, 4, none⟩ = some (.int .i64 c) := (hSw.get 2 rfl).cell 4; go_simp⟩) (by assumption) ?_
  simp only [Act.put, List.setIfInBounds_toArray, List.set_cons_zero, List.set_cons_succ]
  refine wpAnyH_take (i := 7) (oi := { dst := some 34, op := Op.fieldAddr 34 (Operand.tmp 7) 0, type := 0, pos := "ref.go:129", after := #[], guard := none }) (v := .pointer (some ⟨g7, 0, none⟩)) rfl (by kernel_rfl) (by kernel_rfl) (by kernel_rfl) (fun _ _ _ h => h) (Or.inl ⟨by rfl, by intro w hSw; go_simp⟩) (by assumption) ?_
  simp only [Act.put, List.setIfInBounds_toArray, List.set_cons_zero, List.set_cons_succ]
  refine wpAnyH_take (i := 8) (oi := { dst := some 35, op := Op.indexAddr 24 (Operand.tmp 34) (Operand.tmp 33), type := 0, pos := "ref.go:129", after := #[{ on := 7, ground := Ground.data }, { on := 6, ground := Ground.data }], guard := none }) (v := .pointer (some ⟨g7, c.toNat, none⟩)) rfl (by kernel_rfl) (by kernel_rfl) (by kernel_rfl) (fun _ _ _ h => h) (Or.inl ⟨by rfl, by intro w hSw; go_simp⟩) (by assumption) ?_
  simp only [Act.put, List.setIfInBounds_toArray, List.set_cons_zero, List.set_cons_succ]
  refine wpAnyH_take (i := 9) (oi := { dst := some 36, op := Op.load 23 (Operand.tmp 35), type := 23, pos := "ref.go:129", after := #[{ on := 8, ground := Ground.data }], guard := none }) (v := .int .u32 (rg f c)) rfl (by kernel_rfl) (by kernel_rfl) (by kernel_rfl) (fun _ _ _ h => h) (Or.inl ⟨by rfl, by intro w hSw; have hq : w.cell? ⟨g7, c.toNat, none⟩ = some (.int .u32 (rg f c)) := ((hSw.get 4 rfl).cell _).trans (f.at _ (by omega)); go_simp⟩) (by assumption) ?_
  simp only [Act.put, List.setIfInBounds_toArray, List.set_cons_zero, List.set_cons_succ]
  refine wpAnyH_take (i := 10) (oi := { dst := some 37, op := Op.binOp BinOp.add 23 (Operand.tmp 31) (Operand.tmp 36) 23, type := 23, pos := "ref.go:129", after := #[{ on := 4, ground := Ground.data }, { on := 9, ground := Ground.data }], guard := none }) (v := .int .u32 ((rg f b + rg f c) % 4294967296)) rfl (by kernel_rfl) (by kernel_rfl) (by kernel_rfl) (fun _ _ _ h => h) (Or.inl ⟨by rfl, by intro w hSw; go_simp; rfl⟩) (by assumption) ?_
  simp only [Act.put, List.setIfInBounds_toArray, List.set_cons_zero, List.set_cons_succ]
  refine wpAnyH_ready (rs := [11]) (by kernel_rfl) (by simp) (AllReadyH.cons (o := { dst := some 12, op := Op.assign (Operand.tmp 37), type := 23, pos := "ref.go:129", after := #[{ on := 10, ground := Ground.data }, { on := 0, ground := Ground.phase }, { on := 1, ground := Ground.phase }, { on := 2, ground := Ground.phase }, { on := 3, ground := Ground.phase }, { on := 4, ground := Ground.phase }, { on := 5, ground := Ground.phase }, { on := 6, ground := Ground.phase }, { on := 7, ground := Ground.phase }, { on := 8, ground := Ground.phase }, { on := 9, ground := Ground.phase }, { on := 10, ground := Ground.phase }], guard := none }) rfl (fun KQ hK => ?_) AllReadyH.nil)
  go_simp
  refine hK.out _ _ HD2.out (fun hHeld => ?_)
  clear hK KQ
  try simp only [Act.put, List.setIfInBounds_toArray, List.set_cons_zero, List.set_cons_succ]
  refine wpAnyH_done (by kernel_rfl) ?_ _

  generalize X.drew.drew = Y at *
  have y0 : Y.cell? ⟨g9, 0, none⟩ = some (.int .i64 18) := (HD2.out.get 2 rfl).cell 0
  rw [HV.out]
  have y2 : Y.cell? ⟨g9, 2, none⟩ = some (.int .i64 a) := (HD2.out.get 2 rfl).cell 2
  have ya : Y.cell? ⟨g7, a.toNat, none⟩ = some (.int .u32 (rg f a)) := ((HD2.out.get 4 rfl).cell _).trans (f.at _ (by omega))
  by_cases t0 : te = 0
  · subst t0
    go_upto_region 7 with (go_at_call 66; refine (HCl.out _ HD2.out.st.mem).mono ?_; rintro e w2 ⟨rfl, r2, hs2⟩; have B2 := hid (HD2.out.call hs2); clear hs2)
    go_wp2_with (first | (refine wpList_load_g rfl _ rfl g8 f.nx rfl (B2.out.get 3 rfl) ?_) | (refine wpList_store_g rfl _ _ rfl g10 F.zero f.nx rfl rfl (B2.out.get 1 rfl) ?_; intro w3 hc3 hb3 hs3; have B3 := hid (B2.out.put 1 rfl hc3 hb3); clear hc3 hb3 hs3) | (refine wpList_store_st rfl 42 _ _ rfl g11 (evc 0 0) rfl rfl (B3.out.get 0 rfl) size42 rfl rfl ?_; intro w4 hc4 hb4 hs4; have B4 := hid (B3.out.put 0 rfl hc4 hb4); clear hc4 hb4 hs4))
    exact ret_two rfl rfl g10 g11 _ _ rfl rfl (B4.out.get 1 rfl) (B4.out.get 0 rfl) under25 under42 rfl rfl (by rw [size25, F.len]) size42 ⟨rfl, r2, B4.out.st⟩
  · have t1 : (te == 0) = false := by simpa using t0
    rw [t1] at HCl
    go_upto_region 6 with (go_at_call 66; refine (HCl.out _ HD2.out.st.mem).mono ?_; rintro e w2 ⟨rfl, r2, hs2⟩; have B2 := hid (HD2.out.call hs2); clear hs2)
    go_wp2_with (first | (refine wpList_load_g rfl _ rfl g7 f rfl (B2.out.get 4 rfl) ?_) | (refine wpList_store_g rfl _ _ rfl g10 F.zero f rfl rfl (B2.out.get 1 rfl) ?_; intro w3 hc3 hb3 hs3; have B3 := hid (B2.out.put 1 rfl hc3 hb3); clear hc3 hb3 hs3) | (refine wpList_store_st rfl 42 _ _ rfl g11 (evc 4 va) rfl rfl (B3.out.get 0 rfl) size42 rfl rfl ?_; intro w4 hc4 hb4 hs4; have B4 := hid (B3.out.put 0 rfl hc4 hb4); clear hc4 hb4 hs4))
    exact ret_two rfl rfl g10 g11 _ _ rfl rfl (B4.out.get 1 rfl) (B4.out.get 0 rfl) under25 under42 rfl rfl (by rw [size25, F.len]) size42 ⟨rfl, r2, B4.out.st⟩
theorem moved_any (W : World) (r : Rf) (m : MS) (h : RMem W r m) (hU : m.U) (l : Int) (f : F) (i : Ins) (hi : IOk i) (o1 : 15 ≤ i.op) (o2 : i.op ≤ 18) :
    Calls Tryz.prog 31 #[ptr r.g, .int .i64 l, f.v, f.nx.v, i.r] W fun x w' => x = .returned (doI m l f i).v ∧ ∃ r', RSt W w' r r' (doI m l f i).m := by
  obtain ⟨op, cond, a, b, c, imm⟩ := i
  obtain ⟨a0, a1, b0, b1, c0, c1⟩ := hi
  simp only at o1 o2 a0 a1 b0 b1 c0 c1
  have ho : op = 15 ∨ op = 16 ∨ op = 17 ∨ op = 18 := by omega
  rcases ho with rfl | rfl | rfl | rfl
  · refine (moved_15 W r m h hU l f cond a b c imm (im ⟨15, cond, a, b, c, imm⟩) rfl a0 a1 b0 b1 c0 c1).mono ?_
    rintro x w' ⟨rfl, r', hs⟩
    have e1 : ad f ⟨15, cond, a, b, c, imm⟩ = (rg f b + im ⟨15, cond, a, b, c, imm⟩) % 4294967296 := by simp [ad]
    have e2 : acc ⟨15, cond, a, b, c, imm⟩ = 0 := by simp [acc]
    have hd : doI m l f ⟨15, cond, a, b, c, imm⟩ = if m.trE l ((rg f b + im ⟨15, cond, a, b, c, imm⟩) % 4294967296) 0 = 0 then ⟨f.nx.put a.toNat (m.rcW l ((rg f b + im ⟨15, cond, a, b, c, imm⟩) % 4294967296) 0 (rg f a)), 0, 0, m.rcM l ((rg f b + im ⟨15, cond, a, b, c, imm⟩) % 4294967296) 0 (rg f a)⟩ else ⟨f, 4, (rg f b + im ⟨15, cond, a, b, c, imm⟩) % 4294967296, m.rcM l ((rg f b + im ⟨15, cond, a, b, c, imm⟩) % 4294967296) 0 (rg f a)⟩ := by
      unfold doI
      simp only [e1, e2]
      rfl
    rw [hd]
    by_cases t0 : m.trE l ((rg f b + im ⟨15, cond, a, b, c, imm⟩) % 4294967296) 0 = 0
    · rw [if_pos t0, if_pos t0]
      refine ⟨?_, r', ?_⟩
      · have hw : m.rcW l ((rg f b + im ⟨15, cond, a, b, c, imm⟩) % 4294967296) 0 (rg f a) = m.rcW l ((rg f b + im ⟨15, cond, a, b, c, imm⟩) % 4294967296) 0 0 := by unfold MS.rcW; simp
        unfold Out.v
        rw [hw]
        rfl
      · have hm : m.rcM l ((rg f b + im ⟨15, cond, a, b, c, imm⟩) % 4294967296) 0 (rg f a) = m.rcM l ((rg f b + im ⟨15, cond, a, b, c, imm⟩) % 4294967296) 0 0 := by unfold MS.rcM; simp
        exact hm ▸ hs
    · rw [if_neg t0, if_neg t0]
      have hm : m.rcM l ((rg f b + im ⟨15, cond, a, b, c, imm⟩) % 4294967296) 0 (rg f a) = m.rcM l ((rg f b + im ⟨15, cond, a, b, c, imm⟩) % 4294967296) 0 0 := by unfold MS.rcM; simp
      exact ⟨rfl, r', hm ▸ hs⟩
  · refine (moved_16 W r m h hU l f cond a b c imm (im ⟨16, cond, a, b, c, imm⟩) rfl a0 a1 b0 b1 c0 c1).mono ?_
    rintro x w' ⟨rfl, r', hs⟩
    have e1 : ad f ⟨16, cond, a, b, c, imm⟩ = (rg f b + im ⟨16, cond, a, b, c, imm⟩) % 4294967296 := by simp [ad]
    have e2 : acc ⟨16, cond, a, b, c, imm⟩ = 1 := by simp [acc]
    have hd : doI m l f ⟨16, cond, a, b, c, imm⟩ = if m.trE l ((rg f b + im ⟨16, cond, a, b, c, imm⟩) % 4294967296) 1 = 0 then ⟨f.nx.put a.toNat (m.rcW l ((rg f b + im ⟨16, cond, a, b, c, imm⟩) % 4294967296) 1 (rg f a)), 0, 0, m.rcM l ((rg f b + im ⟨16, cond, a, b, c, imm⟩) % 4294967296) 1 (rg f a)⟩ else ⟨f, 4, (rg f b + im ⟨16, cond, a, b, c, imm⟩) % 4294967296, m.rcM l ((rg f b + im ⟨16, cond, a, b, c, imm⟩) % 4294967296) 1 (rg f a)⟩ := by
      unfold doI
      simp only [e1, e2]
      rfl
    rw [hd]
    by_cases t0 : m.trE l ((rg f b + im ⟨16, cond, a, b, c, imm⟩) % 4294967296) 1 = 0
    · rw [if_pos t0, if_pos t0]
      refine ⟨?_, r', ?_⟩
      · have hw : m.rcW l ((rg f b + im ⟨16, cond, a, b, c, imm⟩) % 4294967296) 1 (rg f a) = f.nx.r a.toNat := by unfold MS.rcW; rw [if_pos t0, if_pos rfl]; rfl
        unfold Out.v
        rw [hw, F.put_own]
        rfl
      · exact hs
    · rw [if_neg t0, if_neg t0]
      exact ⟨rfl, r', hs⟩
  · refine (moved_17 W r m h hU l f cond a b c imm (im ⟨17, cond, a, b, c, imm⟩) rfl a0 a1 b0 b1 c0 c1).mono ?_
    rintro x w' ⟨rfl, r', hs⟩
    have e1 : ad f ⟨17, cond, a, b, c, imm⟩ = (rg f b + rg f c) % 4294967296 := by simp [ad]
    have e2 : acc ⟨17, cond, a, b, c, imm⟩ = 0 := by simp [acc]
    have hd : doI m l f ⟨17, cond, a, b, c, imm⟩ = if m.trE l ((rg f b + rg f c) % 4294967296) 0 = 0 then ⟨f.nx.put a.toNat (m.rcW l ((rg f b + rg f c) % 4294967296) 0 (rg f a)), 0, 0, m.rcM l ((rg f b + rg f c) % 4294967296) 0 (rg f a)⟩ else ⟨f, 4, (rg f b + rg f c) % 4294967296, m.rcM l ((rg f b + rg f c) % 4294967296) 0 (rg f a)⟩ := by
      unfold doI
      simp only [e1, e2]
      rfl
    rw [hd]
    by_cases t0 : m.trE l ((rg f b + rg f c) % 4294967296) 0 = 0
    · rw [if_pos t0, if_pos t0]
      refine ⟨?_, r', ?_⟩
      · have hw : m.rcW l ((rg f b + rg f c) % 4294967296) 0 (rg f a) = m.rcW l ((rg f b + rg f c) % 4294967296) 0 0 := by unfold MS.rcW; simp
        unfold Out.v
        rw [hw]
        rfl
      · have hm : m.rcM l ((rg f b + rg f c) % 4294967296) 0 (rg f a) = m.rcM l ((rg f b + rg f c) % 4294967296) 0 0 := by unfold MS.rcM; simp
        exact hm ▸ hs
    · rw [if_neg t0, if_neg t0]
      have hm : m.rcM l ((rg f b + rg f c) % 4294967296) 0 (rg f a) = m.rcM l ((rg f b + rg f c) % 4294967296) 0 0 := by unfold MS.rcM; simp
      exact ⟨rfl, r', hm ▸ hs⟩
  · refine (moved_18 W r m h hU l f cond a b c imm (im ⟨18, cond, a, b, c, imm⟩) rfl a0 a1 b0 b1 c0 c1).mono ?_
    rintro x w' ⟨rfl, r', hs⟩
    have e1 : ad f ⟨18, cond, a, b, c, imm⟩ = (rg f b + rg f c) % 4294967296 := by simp [ad]
    have e2 : acc ⟨18, cond, a, b, c, imm⟩ = 1 := by simp [acc]
    have hd : doI m l f ⟨18, cond, a, b, c, imm⟩ = if m.trE l ((rg f b + rg f c) % 4294967296) 1 = 0 then ⟨f.nx.put a.toNat (m.rcW l ((rg f b + rg f c) % 4294967296) 1 (rg f a)), 0, 0, m.rcM l ((rg f b + rg f c) % 4294967296) 1 (rg f a)⟩ else ⟨f, 4, (rg f b + rg f c) % 4294967296, m.rcM l ((rg f b + rg f c) % 4294967296) 1 (rg f a)⟩ := by
      unfold doI
      simp only [e1, e2]
      rfl
    rw [hd]
    by_cases t0 : m.trE l ((rg f b + rg f c) % 4294967296) 1 = 0
    · rw [if_pos t0, if_pos t0]
      refine ⟨?_, r', ?_⟩
      · have hw : m.rcW l ((rg f b + rg f c) % 4294967296) 1 (rg f a) = f.nx.r a.toNat := by unfold MS.rcW; rw [if_pos t0, if_pos rfl]; rfl
        unfold Out.v
        rw [hw, F.put_own]
        rfl
      · exact hs
    · rw [if_neg t0, if_neg t0]
      exact ⟨rfl, r', hs⟩
end Go.Proofs.YteldpapacdbbiaaGreatDoor
