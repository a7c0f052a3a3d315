/- The document's Step 9, an operation a theorem. -/
import Derived.Test.YteldpapacdbbiaaGreatDoorA2E9
namespace Go.Proofs.YteldpapacdbbiaaGreatDoor
open Go.RowKit
set_option maxHeartbeats 8000000
set_option maxRecDepth 100000
attribute [-simp] Tryz.isAgg34 Tryz.sizeOf34 Tryz.isAgg24
theorem rstep_13 (W : World) (hT : Tb W) (r : Rf) (m : MS) (h : RMem W r m) (hU : m.U) (l : Int) (f : F) (hF : f.U) (hlo : ∀ k ∈ r.all, 3 < k) (cond a b c imm : Int) (hE : m.trE l f.pc 2 = 0) (hdE : I.decE (m.fw l f.pc) = 0) (hd : I.dec (m.fw l f.pc) = ⟨13, cond, a, b, c, imm⟩) :
    Calls Tryz.prog 9 #[ptr r.g, .int .i64 l, f.v] W fun x w' => x = .returned (doI (m.fm l f.pc) l f ⟨13, cond, a, b, c, imm⟩).v ∧ ∃ r', RSt W w' r r' (doI (m.fm l f.pc) l f ⟨13, cond, a, b, c, imm⟩).m := by
  have HX := hid (M3.new W r m h f)
  have hw := hU.word (m.trS l f.pc 2) (m.trP l f.pc 2) (m.trO l f.pc 2)
  have HCl : Hid (∀ w, RMem w r m → Calls Tryz.prog 28 #[ptr r.g, .int .i64 l, .int .u32 f.pc, .int .i64 2] w fun x w' => x = .returned (.tuple #[.int .u32 (m.fw l f.pc), .bool true]) ∧ RSt w w' r r (m.fm l f.pc)) := hid (fun w hm => by
    have := rloaded_any w r m hm hU l f.pc 2 hF.p0 hF.p1 (.inr rfl)
    rw [rc_two hE, rm_two hE, hE] at this
    exact this)
  have HDe : Hid (∀ x, ButL r.all W x → Calls Tryz.prog 29 #[.int .u32 (m.fw l f.pc)] x fun e W' => e = .returned (.tuple #[.agg #[.int .i64 13, .int .i64 cond, .int .i64 a, .int .i64 b, .int .i64 c, .int .i64 imm], .int .i64 0]) ∧ Below x.heap.size x W') := hid (fun x hb => by
    have := I.rdecode_any x (hT.but hb hlo).s (hT.but hb hlo).z (m.fw l f.pc) hw.1 hw.2
    rw [hdE, hd] at this
    exact this)
  have hi := (dec_ok hdE).1
  rw [hd] at hi
  obtain ⟨a0, a1, b0, b1, c0, c1⟩ := hi
  simp only at a0 a1 b0 b1 c0 c1
  have ra0 := hF.r a.toNat
  have rb0 := hF.r b.toNat
  have rc0 := hF.r c.toNat
  have HI : Hid (imm % 4294967296 = im ⟨13, cond, a, b, c, imm⟩) := hid rfl
  have hv0 := im_range ⟨13, cond, a, b, c, imm⟩
  have hUm := hU.fm l f.pc
  generalize m.fm l f.pc = m2 at *
  have HO : Hid (doI m2 l f ⟨13, cond, a, b, c, imm⟩ = ⟨f.nx.put a.toNat (sumO 13 (im ⟨13, cond, a, b, c, imm⟩) (rg f a) (rg f b) (rg f c)), 0, 0, m2⟩) := hid rfl
  have HSm := hid (fun W => rsum_any W 13 (im ⟨13, cond, a, b, c, imm⟩) (rg f a) (rg f b) (rg f c) rb0.1 rb0.2 rc0.1 rc0.2 (by decide) (by decide))
  clear hT h hU hlo hE hdE hd hw
  generalize im ⟨13, cond, a, b, c, imm⟩ = v at *
  generalize m.fw l f.pc = wv at *
  simp only [F.v] at *
  simp only [zg, evc] at HX
  unfold ptr at *
  go_enter Tryz.func9, Tryz.ntmps9
  go_upto_region 1 with fail
  generalize hX : ((W.alloc _).alloc _).alloc _ = X at *
  clear hX
  generalize W.heap.size + 1 + 1 = g7 at *
  generalize W.heap.size + 1 = g6 at *
  generalize W.heap.size = g5 at HX ⊢
  have y15 : X.cell? ⟨g5, 15, none⟩ = some (.int .u32 f.pc) := ((HX.out.get 2 rfl).cell 15).trans f.at15
  go_upto_region 4 with (go_at_call 28; refine (HCl.out _ HX.out.st.mem).mono ?_; rintro e w1 ⟨rfl, hs1⟩; have B1 := hid (HX.out.call hs1); clear hs1)
  clear HX HCl y15
  go_upto_region 5 with (first | (go_at_call 29; refine (HDe.out _ B1.out.st.but).mono ?_; rintro e w2 ⟨rfl, hb2⟩; have B2 := hid ((B1.out.on hb2).box 85 [.int .i64 0, .int .i64 0, .int .i64 0, .int .i64 0, .int .i64 0, .int .i64 0]); clear hb2) | (refine wpList_store_st rfl 85 _ _ rfl w2.heap.size [.int .i64 13, .int .i64 cond, .int .i64 a, .int .i64 b, .int .i64 c, .int .i64 imm] rfl rfl (B2.out.get 0 rfl) size85r rfl rfl ?_; intro w3 hc3 hb3 hs3; have B3 := hid (B2.out.put 0 rfl hc3 hb3); clear hc3 hb3 hs3))
  clear B1 B2 HDe
  simp only [List.set_cons_zero] at B3
  generalize w2.heap.size = g10 at *
  go_upto_region 7 with fail
  have B4 := hid (B3.out.box 34 F.zero.cs)
  go_upto_region 8 with (first | (refine wpList_load_g rfl _ rfl g5 f rfl (B3.out.get 3 rfl) ?_) | (refine wpList_store_g rfl _ _ rfl w3.heap.size F.zero f rfl rfl (zg_new w3) ?_; intro w4 hc4 hb4 hs4; have B5 := hid (B4.out.put 0 rfl hc4 (zg_but hb4)); clear hc4 hb4 hs4))
  clear B3 B4
  simp only [List.set_cons_zero] at B5
  generalize w3.heap.size = g12 at *
  have y15 : w4.cell? ⟨g5, 15, none⟩ = some (.int .u32 f.pc) := ((B5.out.get 4 rfl).cell 15).trans f.at15
  have z15 : w4.cell? ⟨g12, 15, none⟩ = some (.int .u32 f.pc) := ((B5.out.get 0 rfl).cell 15).trans f.at15
  have zf15 := (B5.out.get 0 rfl).free 15
  go_upto_region 9 with fail
  have B6 := hid (B5.out.put (x' := w4.setCell ⟨g12, 15, none⟩ (.int .u32 ((f.pc + 4) % 4294967296))) (es := f.nx.cs) 0 rfl (by rw [show f.nx.cs = f.cs.set 15 (.int .u32 ((f.pc + 4) % 4294967296)) from (f.set15 _).symm]; exact (B5.out.get 0 rfl).setCell 15 _) (.setCell _ _ _ _ (by simp)))
  simp only [List.set_cons_zero] at B6
  generalize hY : World.setCell _ _ _ = Y at *
  clear hY B5 y15 z15 zf15
  have y0 : Y.cell? ⟨g10, 0, none⟩ = some (.int .i64 13) := (B6.out.get 1 rfl).cell 0
  have y1 : Y.cell? ⟨g10, 1, none⟩ = some (.int .i64 cond) := (B6.out.get 1 rfl).cell 1
  have y2 : Y.cell? ⟨g10, 2, none⟩ = some (.int .i64 a) := (B6.out.get 1 rfl).cell 2
  have y3 : Y.cell? ⟨g10, 3, none⟩ = some (.int .i64 b) := (B6.out.get 1 rfl).cell 3
  have y4 : Y.cell? ⟨g10, 4, none⟩ = some (.int .i64 c) := (B6.out.get 1 rfl).cell 4
  have y5 : Y.cell? ⟨g10, 5, none⟩ = some (.int .i64 imm) := (B6.out.get 1 rfl).cell 5
  have ya : Y.cell? ⟨g5, a.toNat, none⟩ = some (.int .u32 (rg f a)) := ((B6.out.get 4 rfl).cell _).trans (f.at _ (by omega))
  have yb : Y.cell? ⟨g5, b.toNat, none⟩ = some (.int .u32 (rg f b)) := ((B6.out.get 4 rfl).cell _).trans (f.at _ (by omega))
  have yc : Y.cell? ⟨g5, c.toNat, none⟩ = some (.int .u32 (rg f c)) := ((B6.out.get 4 rfl).cell _).trans (f.at _ (by omega))
  go_upto_region 10 with fail
  rw [show imm % 4294967296 = v from HI.out]
  generalize sumO 13 v (rg f a) (rg f b) (rg f c) = sv at *
  go_upto_region 20 with fail
  have B6d := hid (B6.out.on (Below.refl _ _).drew)
  have td : Y.drew.cell? ⟨g12, a.toNat, none⟩ = some (.int .u32 (f.nx.r a.toNat)) := ((B6d.out.get 0 rfl).cell _).trans (f.nx.at _ (by omega))
  have tf := (B6d.out.get 0 rfl).free a.toNat
  have B7 := hid (B6d.out.put (x' := Y.drew.setCell ⟨g12, a.toNat, none⟩ (.int .u32 sv)) (es := (f.nx.put a.toNat sv).cs) 0 rfl (by rw [← f.nx.set a.toNat (by omega) sv]; exact (B6d.out.get 0 rfl).setCell a.toNat _) (.setCell _ _ _ _ (by simp)))
  simp only [List.set_cons_zero] at B7
  refine wp_region_held_drew (S := fun x => Cel x g10 85 [.int .i64 13, .int .i64 cond, .int .i64 a, .int .i64 b, .int .i64 c, .int .i64 imm]) (by kernel_rfl) (B6d.out.get 1 rfl) (fun hHeld => ?_)
  refine wpAnyH_take (i := 0) (oi := { dst := some 104, op := Op.fieldAddr 85 (Operand.tmp 10) 2, type := 0, pos := "ref.go:101", after := #[], guard := none }) (v := .pointer (some ⟨g10, 2, none⟩)) rfl (by kernel_rfl) (by kernel_rfl) (by kernel_rfl) (fun _ _ _ h => h) (Or.inl ⟨by rfl, by intro w hSw; go_simp⟩) (by assumption) ?_
  simp only [Act.put, List.setIfInBounds_toArray, List.set_cons_zero, List.set_cons_succ]
  refine wpAnyH_take (i := 1) (oi := { dst := some 105, op := Op.load 3 (Operand.tmp 104), type := 3, pos := "ref.go:101", after := #[{ on := 0, ground := Ground.data }], guard := none }) (v := .int .i64 a) rfl (by kernel_rfl) (by kernel_rfl) (by kernel_rfl) (fun _ _ _ h => h) (Or.inl ⟨by rfl, by intro w hSw; have hq : w.cell? ⟨g10, 2, none⟩ = some (.int .i64 a) := Cel.cell hSw 2; go_simp⟩) (by assumption) ?_
  simp only [Act.put, List.setIfInBounds_toArray, List.set_cons_zero, List.set_cons_succ]
  refine wpAnyH_take (i := 2) (oi := { dst := some 106, op := Op.fieldAddr 85 (Operand.tmp 10) 0, type := 0, pos := "ref.go:101", after := #[], guard := none }) (v := .pointer (some ⟨g10, 0, none⟩)) rfl (by kernel_rfl) (by kernel_rfl) (by kernel_rfl) (fun _ _ _ h => h) (Or.inl ⟨by rfl, by intro w hSw; go_simp⟩) (by assumption) ?_
  simp only [Act.put, List.setIfInBounds_toArray, List.set_cons_zero, List.set_cons_succ]
  refine wpAnyH_take (i := 3) (oi := { dst := some 107, op := Op.load 3 (Operand.tmp 106), type := 3, pos := "ref.go:101", after := #[{ on := 2, ground := Ground.data }], guard := none }) (v := .int .i64 13) rfl (by kernel_rfl) (by kernel_rfl) (by kernel_rfl) (fun _ _ _ h => h) (Or.inl ⟨by rfl, by intro w hSw; have hq : w.cell? ⟨g10, 0, none⟩ = some (.int .i64 13) := Cel.cell hSw 0; go_simp⟩) (by assumption) ?_
  simp only [Act.put, List.setIfInBounds_toArray, List.set_cons_zero, List.set_cons_succ]
  refine wpAnyH_take (i := 4) (oi := { dst := some 108, op := Op.move (Operand.tmp 15), type := 23, pos := "ref.go:101", after := #[], guard := none }) (v := .int .u32 (rg f b)) rfl (by kernel_rfl) (by kernel_rfl) (by kernel_rfl) (fun _ _ _ h => h) (Or.inl ⟨by rfl, by intro w hSw; go_simp⟩) (by assumption) ?_
  simp only [Act.put, List.setIfInBounds_toArray, List.set_cons_zero, List.set_cons_succ]
  refine wpAnyH_take (i := 5) (oi := { dst := some 109, op := Op.move (Operand.tmp 16), type := 23, pos := "ref.go:101", after := #[], guard := none }) (v := .int .u32 (rg f c)) rfl (by kernel_rfl) (by kernel_rfl) (by kernel_rfl) (fun _ _ _ h => h) (Or.inl ⟨by rfl, by intro w hSw; go_simp⟩) (by assumption) ?_
  simp only [Act.put, List.setIfInBounds_toArray, List.set_cons_zero, List.set_cons_succ]
  refine wpAnyH_take (i := 7) (oi := { dst := some 111, op := Op.fieldAddr 34 (Operand.tmp 12) 0, type := 0, pos := "ref.go:101", after := #[], guard := none }) (v := .pointer (some ⟨g12, 0, none⟩)) rfl (by kernel_rfl) (by kernel_rfl) (by kernel_rfl) (fun _ _ _ h => h) (Or.inl ⟨by rfl, by intro w hSw; go_simp⟩) (by assumption) ?_
  simp only [Act.put, List.setIfInBounds_toArray, List.set_cons_zero, List.set_cons_succ]
  refine wpAnyH_ready (rs := [6]) (by kernel_rfl) (by simp) (AllReadyH.cons (o := { dst := some 110, op := Op.call { callee := Callee.value (Operand.func 30), args := #[Operand.tmp 107, Operand.tmp 108, Operand.tmp 109], argTypes := #[3, 23, 23] }, type := 23, pos := "ref.go:101", after := #[{ on := 3, ground := Ground.data }, { on := 4, ground := Ground.data }, { on := 5, ground := Ground.data }], guard := none }) rfl (fun KQ hK => ?_) AllReadyH.nil)
  go_simp
  refine (HSm.out _).mono ?_
  rintro e w9 ⟨rfl, rfl⟩
  go_wp2_with fail
  refine hK.out _ _ (B6d.out.get 1 rfl) (fun hHeld => ?_)
  clear hK KQ
  try simp only [Act.put, List.setIfInBounds_toArray, List.set_cons_zero, List.set_cons_succ]
  refine wpAnyH_take (i := 8) (oi := { dst := some 112, op := Op.indexAddr 24 (Operand.tmp 111) (Operand.tmp 105), type := 0, pos := "ref.go:101", after := #[{ on := 7, ground := Ground.data }, { on := 1, ground := Ground.data }, { on := 0, ground := Ground.phase }, { on := 1, ground := Ground.phase }, { on := 2, ground := Ground.phase }, { on := 3, ground := Ground.phase }, { on := 4, ground := Ground.phase }, { on := 5, ground := Ground.phase }, { on := 6, ground := Ground.phase }], guard := none }) (v := .pointer (some ⟨g12, a.toNat, none⟩)) rfl (by kernel_rfl) (by kernel_rfl) (by kernel_rfl) (fun _ _ _ h => h) (Or.inl ⟨by rfl, by intro w hSw; go_simp⟩) (by assumption) ?_
  simp only [Act.put, List.setIfInBounds_toArray, List.set_cons_zero, List.set_cons_succ]
  refine wpAnyH_ready (rs := [9]) (by kernel_rfl) (by simp) (AllReadyH.cons (o := { dst := none, op := Op.store 23 (Operand.tmp 112) (Operand.tmp 110), type := 0, pos := "ref.go:101", after := #[{ on := 8, ground := Ground.data }, { on := 6, ground := Ground.data }, { on := 6, ground := Ground.chain }, { on := 0, ground := Ground.phase }, { on := 1, ground := Ground.phase }, { on := 2, ground := Ground.phase }, { on := 3, ground := Ground.phase }, { on := 4, ground := Ground.phase }, { on := 5, ground := Ground.phase }, { on := 6, ground := Ground.phase }], guard := none }) rfl (fun KQ hK => ?_) AllReadyH.nil)
  go_simp
  refine hK.out _ _ (B7.out.get 1 rfl) (fun hHeld => ?_)
  clear hK KQ
  try simp only [Act.put]
  refine wpAnyH_done (by kernel_rfl) ?_ _

  have B8 := hid ((B6.out.put (x' := Y.setCell ⟨g12, a.toNat, none⟩ (.int .u32 sv)) (es := (f.nx.put a.toNat sv).cs) 0 rfl (by rw [← f.nx.set a.toNat (by omega) sv]; exact (B6.out.get 0 rfl).setCell a.toNat _) (.setCell _ _ _ _ (by simp))).on (Below.refl _ _).drew)
  simp only [List.set_cons_zero] at B8
  clear B6 B6d B7 y0 y1 y2 y3 y4 y5 ya yb yc td tf
  generalize World.drew _ = Z at B8 ⊢
  go_wp2_with (first | (refine wpList_load_g rfl _ rfl g12 (f.nx.put a.toNat sv) rfl (B8.out.get 0 rfl) ?_) | (refine wpList_store_g rfl _ _ rfl g6 F.zero (f.nx.put a.toNat sv) rfl rfl (B8.out.get 3 rfl) ?_; intro w7 hc hb hs; have C1 := hid (B8.out.put 3 rfl hc hb); clear hc hb hs) | (refine wpList_store_st rfl 42 _ _ rfl g7 (evc 0 0) rfl rfl (C1.out.get 2 rfl) size42 rfl rfl ?_; intro w8 hc hb hs; have C2 := hid (C1.out.put 2 rfl hc hb); clear hc hb hs))
  exact ret_two rfl rfl g6 g7 _ _ rfl rfl (C2.out.get 3 rfl) (C2.out.get 2 rfl) under25 under42 rfl rfl (by rw [size25, F.len]) size42 ⟨by rw [HO.out]; rfl, r, by rw [HO.out]; exact C2.out.st⟩
theorem rstep_14 (W : World) (hT : Tb W) (r : Rf) (m : MS) (h : RMem W r m) (hU : m.U) (l : Int) (f : F) (hF : f.U) (hlo : ∀ k ∈ r.all, 3 < k) (cond a b c imm : Int) (hE : m.trE l f.pc 2 = 0) (hdE : I.decE (m.fw l f.pc) = 0) (hd : I.dec (m.fw l f.pc) = ⟨14, cond, a, b, c, imm⟩) :
    Calls Tryz.prog 9 #[ptr r.g, .int .i64 l, f.v] W fun x w' => x = .returned (doI (m.fm l f.pc) l f ⟨14, cond, a, b, c, imm⟩).v ∧ ∃ r', RSt W w' r r' (doI (m.fm l f.pc) l f ⟨14, cond, a, b, c, imm⟩).m := by
  have HX := hid (M3.new W r m h f)
  have hw := hU.word (m.trS l f.pc 2) (m.trP l f.pc 2) (m.trO l f.pc 2)
  have HCl : Hid (∀ w, RMem w r m → Calls Tryz.prog 28 #[ptr r.g, .int .i64 l, .int .u32 f.pc, .int .i64 2] w fun x w' => x = .returned (.tuple #[.int .u32 (m.fw l f.pc), .bool true]) ∧ RSt w w' r r (m.fm l f.pc)) := hid (fun w hm => by
    have := rloaded_any w r m hm hU l f.pc 2 hF.p0 hF.p1 (.inr rfl)
    rw [rc_two hE, rm_two hE, hE] at this
    exact this)
  have HDe : Hid (∀ x, ButL r.all W x → Calls Tryz.prog 29 #[.int .u32 (m.fw l f.pc)] x fun e W' => e = .returned (.tuple #[.agg #[.int .i64 14, .int .i64 cond, .int .i64 a, .int .i64 b, .int .i64 c, .int .i64 imm], .int .i64 0]) ∧ Below x.heap.size x W') := hid (fun x hb => by
    have := I.rdecode_any x (hT.but hb hlo).s (hT.but hb hlo).z (m.fw l f.pc) hw.1 hw.2
    rw [hdE, hd] at this
    exact this)
  have hi := (dec_ok hdE).1
  rw [hd] at hi
  obtain ⟨a0, a1, b0, b1, c0, c1⟩ := hi
  simp only at a0 a1 b0 b1 c0 c1
  have ra0 := hF.r a.toNat
  have rb0 := hF.r b.toNat
  have rc0 := hF.r c.toNat
  have HI : Hid (imm % 4294967296 = im ⟨14, cond, a, b, c, imm⟩) := hid rfl
  have hv0 := im_range ⟨14, cond, a, b, c, imm⟩
  have hUm := hU.fm l f.pc
  generalize m.fm l f.pc = m2 at *
  have HO : Hid (doI m2 l f ⟨14, cond, a, b, c, imm⟩ = ⟨f.nx.put a.toNat ((rg f b + im ⟨14, cond, a, b, c, imm⟩) % 4294967296), 0, 0, m2⟩) := hid (by
    have e : sm f ⟨14, cond, a, b, c, imm⟩ = (rg f b + im ⟨14, cond, a, b, c, imm⟩) % 4294967296 := rfl
    rw [← e]
    rfl)
  clear hT h hU hlo hE hdE hd hw
  generalize im ⟨14, cond, a, b, c, imm⟩ = v at *
  generalize m.fw l f.pc = wv at *
  simp only [F.v] at *
  simp only [zg, evc] at HX
  unfold ptr at *
  go_enter Tryz.func9, Tryz.ntmps9
  go_upto_region 1 with fail
  generalize hX : ((W.alloc _).alloc _).alloc _ = X at *
  clear hX
  generalize W.heap.size + 1 + 1 = g7 at *
  generalize W.heap.size + 1 = g6 at *
  generalize W.heap.size = g5 at HX ⊢
  have y15 : X.cell? ⟨g5, 15, none⟩ = some (.int .u32 f.pc) := ((HX.out.get 2 rfl).cell 15).trans f.at15
  go_upto_region 4 with (go_at_call 28; refine (HCl.out _ HX.out.st.mem).mono ?_; rintro e w1 ⟨rfl, hs1⟩; have B1 := hid (HX.out.call hs1); clear hs1)
  clear HX HCl y15
  go_upto_region 5 with (first | (go_at_call 29; refine (HDe.out _ B1.out.st.but).mono ?_; rintro e w2 ⟨rfl, hb2⟩; have B2 := hid ((B1.out.on hb2).box 85 [.int .i64 0, .int .i64 0, .int .i64 0, .int .i64 0, .int .i64 0, .int .i64 0]); clear hb2) | (refine wpList_store_st rfl 85 _ _ rfl w2.heap.size [.int .i64 14, .int .i64 cond, .int .i64 a, .int .i64 b, .int .i64 c, .int .i64 imm] rfl rfl (B2.out.get 0 rfl) size85r rfl rfl ?_; intro w3 hc3 hb3 hs3; have B3 := hid (B2.out.put 0 rfl hc3 hb3); clear hc3 hb3 hs3))
  clear B1 B2 HDe
  simp only [List.set_cons_zero] at B3
  generalize w2.heap.size = g10 at *
  go_upto_region 7 with fail
  have B4 := hid (B3.out.box 34 F.zero.cs)
  go_upto_region 8 with (first | (refine wpList_load_g rfl _ rfl g5 f rfl (B3.out.get 3 rfl) ?_) | (refine wpList_store_g rfl _ _ rfl w3.heap.size F.zero f rfl rfl (zg_new w3) ?_; intro w4 hc4 hb4 hs4; have B5 := hid (B4.out.put 0 rfl hc4 (zg_but hb4)); clear hc4 hb4 hs4))
  clear B3 B4
  simp only [List.set_cons_zero] at B5
  generalize w3.heap.size = g12 at *
  have y15 : w4.cell? ⟨g5, 15, none⟩ = some (.int .u32 f.pc) := ((B5.out.get 4 rfl).cell 15).trans f.at15
  have z15 : w4.cell? ⟨g12, 15, none⟩ = some (.int .u32 f.pc) := ((B5.out.get 0 rfl).cell 15).trans f.at15
  have zf15 := (B5.out.get 0 rfl).free 15
  go_upto_region 9 with fail
  have B6 := hid (B5.out.put (x' := w4.setCell ⟨g12, 15, none⟩ (.int .u32 ((f.pc + 4) % 4294967296))) (es := f.nx.cs) 0 rfl (by rw [show f.nx.cs = f.cs.set 15 (.int .u32 ((f.pc + 4) % 4294967296)) from (f.set15 _).symm]; exact (B5.out.get 0 rfl).setCell 15 _) (.setCell _ _ _ _ (by simp)))
  simp only [List.set_cons_zero] at B6
  generalize hY : World.setCell _ _ _ = Y at *
  clear hY B5 y15 z15 zf15
  have y0 : Y.cell? ⟨g10, 0, none⟩ = some (.int .i64 14) := (B6.out.get 1 rfl).cell 0
  have y1 : Y.cell? ⟨g10, 1, none⟩ = some (.int .i64 cond) := (B6.out.get 1 rfl).cell 1
  have y2 : Y.cell? ⟨g10, 2, none⟩ = some (.int .i64 a) := (B6.out.get 1 rfl).cell 2
  have y3 : Y.cell? ⟨g10, 3, none⟩ = some (.int .i64 b) := (B6.out.get 1 rfl).cell 3
  have y4 : Y.cell? ⟨g10, 4, none⟩ = some (.int .i64 c) := (B6.out.get 1 rfl).cell 4
  have y5 : Y.cell? ⟨g10, 5, none⟩ = some (.int .i64 imm) := (B6.out.get 1 rfl).cell 5
  have ya : Y.cell? ⟨g5, a.toNat, none⟩ = some (.int .u32 (rg f a)) := ((B6.out.get 4 rfl).cell _).trans (f.at _ (by omega))
  have yb : Y.cell? ⟨g5, b.toNat, none⟩ = some (.int .u32 (rg f b)) := ((B6.out.get 4 rfl).cell _).trans (f.at _ (by omega))
  have yc : Y.cell? ⟨g5, c.toNat, none⟩ = some (.int .u32 (rg f c)) := ((B6.out.get 4 rfl).cell _).trans (f.at _ (by omega))
  go_upto_region 10 with fail
  rw [show imm % 4294967296 = v from HI.out]
  have ta : Y.cell? ⟨g12, a.toNat, none⟩ = some (.int .u32 (f.nx.r a.toNat)) := ((B6.out.get 0 rfl).cell _).trans (f.nx.at _ (by omega))
  have tf := (B6.out.get 0 rfl).free a.toNat
  go_upto_region 39 with fail
  have B7 := hid (B6.out.put (x' := Y.setCell ⟨g12, a.toNat, none⟩ (.int .u32 ((rg f b + v) % 4294967296))) (es := (f.nx.put a.toNat ((rg f b + v) % 4294967296)).cs) 0 rfl (by rw [← f.nx.set a.toNat (by omega) ((rg f b + v) % 4294967296)]; exact (B6.out.get 0 rfl).setCell a.toNat _) (.setCell _ _ _ _ (by simp)))
  simp only [List.set_cons_zero] at B7
  generalize hZ : World.setCell _ _ _ = Z at *
  clear hZ B6 y0 y1 y2 y3 y4 y5 ya yb yc ta tf
  go_wp2_with (first | (refine wpList_load_g rfl _ rfl g12 (f.nx.put a.toNat ((rg f b + v) % 4294967296)) rfl (B7.out.get 0 rfl) ?_) | (refine wpList_store_g rfl _ _ rfl g6 F.zero (f.nx.put a.toNat ((rg f b + v) % 4294967296)) rfl rfl (B7.out.get 3 rfl) ?_; intro w7 hc hb hs; have C1 := hid (B7.out.put 3 rfl hc hb); clear hc hb hs) | (refine wpList_store_st rfl 42 _ _ rfl g7 (evc 0 0) rfl rfl (C1.out.get 2 rfl) size42 rfl rfl ?_; intro w8 hc hb hs; have C2 := hid (C1.out.put 2 rfl hc hb); clear hc hb hs))
  exact ret_two rfl rfl g6 g7 _ _ rfl rfl (C2.out.get 3 rfl) (C2.out.get 2 rfl) under25 under42 rfl rfl (by rw [size25, F.len]) size42 ⟨by rw [HO.out]; rfl, r, by rw [HO.out]; exact C2.out.st⟩
theorem rstep_15 (W : World) (hT : Tb W) (r : Rf) (m : MS) (h : RMem W r m) (hU : m.U) (l : Int) (f : F) (hF : f.U) (hlo : ∀ k ∈ r.all, 3 < k) (cond a b c imm : Int) (hE : m.trE l f.pc 2 = 0) (hdE : I.decE (m.fw l f.pc) = 0) (hd : I.dec (m.fw l f.pc) = ⟨15, cond, a, b, c, imm⟩) :
    Calls Tryz.prog 9 #[ptr r.g, .int .i64 l, f.v] W fun x w' => x = .returned (doI (m.fm l f.pc) l f ⟨15, cond, a, b, c, imm⟩).v ∧ ∃ r', RSt W w' r r' (doI (m.fm l f.pc) l f ⟨15, cond, a, b, c, imm⟩).m := by
  have HX := hid (M3.new W r m h f)
  have hw := hU.word (m.trS l f.pc 2) (m.trP l f.pc 2) (m.trO l f.pc 2)
  have HCl : Hid (∀ w, RMem w r m → Calls Tryz.prog 28 #[ptr r.g, .int .i64 l, .int .u32 f.pc, .int .i64 2] w fun x w' => x = .returned (.tuple #[.int .u32 (m.fw l f.pc), .bool true]) ∧ RSt w w' r r (m.fm l f.pc)) := hid (fun w hm => by
    have := rloaded_any w r m hm hU l f.pc 2 hF.p0 hF.p1 (.inr rfl)
    rw [rc_two hE, rm_two hE, hE] at this
    exact this)
  have HDe : Hid (∀ x, ButL r.all W x → Calls Tryz.prog 29 #[.int .u32 (m.fw l f.pc)] x fun e W' => e = .returned (.tuple #[.agg #[.int .i64 15, .int .i64 cond, .int .i64 a, .int .i64 b, .int .i64 c, .int .i64 imm], .int .i64 0]) ∧ Below x.heap.size x W') := hid (fun x hb => by
    have := I.rdecode_any x (hT.but hb hlo).s (hT.but hb hlo).z (m.fw l f.pc) hw.1 hw.2
    rw [hdE, hd] at this
    exact this)
  have hi := (dec_ok hdE).1
  rw [hd] at hi
  obtain ⟨a0, a1, b0, b1, c0, c1⟩ := hi
  simp only at a0 a1 b0 b1 c0 c1
  have ra0 := hF.r a.toNat
  have rb0 := hF.r b.toNat
  have rc0 := hF.r c.toNat
  have HI : Hid (imm % 4294967296 = im ⟨15, cond, a, b, c, imm⟩) := hid rfl
  have hv0 := im_range ⟨15, cond, a, b, c, imm⟩
  have hUm := hU.fm l f.pc
  generalize m.fm l f.pc = m2 at *
  have HMv := hid (fun w (hm : RMem w r m2) => moved_any w r m2 hm hUm l f ⟨15, cond, a, b, c, imm⟩ ⟨a0, a1, b0, b1, c0, c1⟩ (by simp) (by simp))
  generalize doI m2 l f ⟨15, cond, a, b, c, imm⟩ = O at *
  unfold I.Ins.r Out.v ptr at HMv
  clear hT h hU hlo hE hdE hd hw
  generalize im ⟨15, cond, a, b, c, imm⟩ = v at *
  generalize m.fw l f.pc = wv at *
  simp only [F.v] at *
  simp only [zg, evc] at HX
  unfold ptr at *
  go_enter Tryz.func9, Tryz.ntmps9
  go_upto_region 1 with fail
  generalize hX : ((W.alloc _).alloc _).alloc _ = X at *
  clear hX
  generalize W.heap.size + 1 + 1 = g7 at *
  generalize W.heap.size + 1 = g6 at *
  generalize W.heap.size = g5 at HX ⊢
  have y15 : X.cell? ⟨g5, 15, none⟩ = some (.int .u32 f.pc) := ((HX.out.get 2 rfl).cell 15).trans f.at15
  go_upto_region 4 with (go_at_call 28; refine (HCl.out _ HX.out.st.mem).mono ?_; rintro e w1 ⟨rfl, hs1⟩; have B1 := hid (HX.out.call hs1); clear hs1)
  clear HX HCl y15
  go_upto_region 5 with (first | (go_at_call 29; refine (HDe.out _ B1.out.st.but).mono ?_; rintro e w2 ⟨rfl, hb2⟩; have B2 := hid ((B1.out.on hb2).box 85 [.int .i64 0, .int .i64 0, .int .i64 0, .int .i64 0, .int .i64 0, .int .i64 0]); clear hb2) | (refine wpList_store_st rfl 85 _ _ rfl w2.heap.size [.int .i64 15, .int .i64 cond, .int .i64 a, .int .i64 b, .int .i64 c, .int .i64 imm] rfl rfl (B2.out.get 0 rfl) size85r rfl rfl ?_; intro w3 hc3 hb3 hs3; have B3 := hid (B2.out.put 0 rfl hc3 hb3); clear hc3 hb3 hs3))
  clear B1 B2 HDe
  simp only [List.set_cons_zero] at B3
  generalize w2.heap.size = g10 at *
  go_upto_region 7 with fail
  have B4 := hid (B3.out.box 34 F.zero.cs)
  go_upto_region 8 with (first | (refine wpList_load_g rfl _ rfl g5 f rfl (B3.out.get 3 rfl) ?_) | (refine wpList_store_g rfl _ _ rfl w3.heap.size F.zero f rfl rfl (zg_new w3) ?_; intro w4 hc4 hb4 hs4; have B5 := hid (B4.out.put 0 rfl hc4 (zg_but hb4)); clear hc4 hb4 hs4))
  clear B3 B4
  simp only [List.set_cons_zero] at B5
  generalize w3.heap.size = g12 at *
  have y15 : w4.cell? ⟨g5, 15, none⟩ = some (.int .u32 f.pc) := ((B5.out.get 4 rfl).cell 15).trans f.at15
  have z15 : w4.cell? ⟨g12, 15, none⟩ = some (.int .u32 f.pc) := ((B5.out.get 0 rfl).cell 15).trans f.at15
  have zf15 := (B5.out.get 0 rfl).free 15
  go_upto_region 9 with fail
  have B6 := hid (B5.out.put (x' := w4.setCell ⟨g12, 15, none⟩ (.int .u32 ((f.pc + 4) % 4294967296))) (es := f.nx.cs) 0 rfl (by rw [show f.nx.cs = f.cs.set 15 (.int .u32 ((f.pc + 4) % 4294967296)) from (f.set15 _).symm]; exact (B5.out.get 0 rfl).setCell 15 _) (.setCell _ _ _ _ (by simp)))
  simp only [List.set_cons_zero] at B6
  generalize hY : World.setCell _ _ _ = Y at *
  clear hY B5 y15 z15 zf15
  have y0 : Y.cell? ⟨g10, 0, none⟩ = some (.int .i64 15) := (B6.out.get 1 rfl).cell 0
  have y1 : Y.cell? ⟨g10, 1, none⟩ = some (.int .i64 cond) := (B6.out.get 1 rfl).cell 1
  have y2 : Y.cell? ⟨g10, 2, none⟩ = some (.int .i64 a) := (B6.out.get 1 rfl).cell 2
  have y3 : Y.cell? ⟨g10, 3, none⟩ = some (.int .i64 b) := (B6.out.get 1 rfl).cell 3
  have y4 : Y.cell? ⟨g10, 4, none⟩ = some (.int .i64 c) := (B6.out.get 1 rfl).cell 4
  have y5 : Y.cell? ⟨g10, 5, none⟩ = some (.int .i64 imm) := (B6.out.get 1 rfl).cell 5
  have ya : Y.cell? ⟨g5, a.toNat, none⟩ = some (.int .u32 (rg f a)) := ((B6.out.get 4 rfl).cell _).trans (f.at _ (by omega))
  have yb : Y.cell? ⟨g5, b.toNat, none⟩ = some (.int .u32 (rg f b)) := ((B6.out.get 4 rfl).cell _).trans (f.at _ (by omega))
  have yc : Y.cell? ⟨g5, c.toNat, none⟩ = some (.int .u32 (rg f c)) := ((B6.out.get 4 rfl).cell _).trans (f.at _ (by omega))
  go_upto_region 10 with fail
  rw [show imm % 4294967296 = v from HI.out]
  go_wp2_with (first | (refine wpList_load_g rfl _ rfl g5 f rfl (B6.out.get 4 rfl) ?_) | (refine wpList_load_g rfl _ rfl g12 f.nx rfl (B6.out.get 0 rfl) ?_) | (refine wpList_load_mid rfl 85 _ rfl g10 0 rfl _ _ ((B6.out.get 1 rfl).range) under85r rfl (by rw [size85r]; rfl) ?_) | (go_at_call 31; refine (HMv.out _ B6.out.st.mem).mono ?_; rintro e w5 ⟨rfl, r2, hs5⟩; have B7 := hid (B6.out.call hs5); clear hs5) | (refine wpList_store_g rfl _ _ rfl g6 F.zero O.f rfl rfl (B7.out.get 3 rfl) ?_; intro w7 hc hb hs; have C1 := hid (B7.out.put 3 rfl hc hb); clear hc hb hs) | (refine wpList_store_st rfl 42 _ _ rfl g7 (evc O.k O.a) rfl rfl (C1.out.get 2 rfl) size42 rfl rfl ?_; intro w8 hc hb hs; have C2 := hid (C1.out.put 2 rfl hc hb); clear hc hb hs))
  exact ret_two rfl rfl g6 g7 _ _ rfl rfl (C2.out.get 3 rfl) (C2.out.get 2 rfl) under25 under42 rfl rfl (by rw [size25, F.len]) size42 ⟨rfl, r2, C2.out.st⟩
theorem rstep_16 (W : World) (hT : Tb W) (r : Rf) (m : MS) (h : RMem W r m) (hU : m.U) (l : Int) (f : F) (hF : f.U) (hlo : ∀ k ∈ r.all, 3 < k) (cond a b c imm : Int) (hE : m.trE l f.pc 2 = 0) (hdE : I.decE (m.fw l f.pc) = 0) (hd : I.dec (m.fw l f.pc) = ⟨16, cond, a, b, c, imm⟩) :
    Calls Tryz.prog 9 #[ptr r.g, .int .i64 l, f.v] W fun x w' => x = .returned (doI (m.fm l f.pc) l f ⟨16, cond, a, b, c, imm⟩).v ∧ ∃ r', RSt W w' r r' (doI (m.fm l f.pc) l f ⟨16, cond, a, b, c, imm⟩).m := by
  have HX := hid (M3.new W r m h f)
  have hw := hU.word (m.trS l f.pc 2) (m.trP l f.pc 2) (m.trO l f.pc 2)
  have HCl : Hid (∀ w, RMem w r m → Calls Tryz.prog 28 #[ptr r.g, .int .i64 l, .int .u32 f.pc, .int .i64 2] w fun x w' => x = .returned (.tuple #[.int .u32 (m.fw l f.pc), .bool true]) ∧ RSt w w' r r (m.fm l f.pc)) := hid (fun w hm => by
    have := rloaded_any w r m hm hU l f.pc 2 hF.p0 hF.p1 (.inr rfl)
    rw [rc_two hE, rm_two hE, hE] at this
    exact this)
  have HDe : Hid (∀ x, ButL r.all W x → Calls Tryz.prog 29 #[.int .u32 (m.fw l f.pc)] x fun e W' => e = .returned (.tuple #[.agg #[.int .i64 16, .int .i64 cond, .int .i64 a, .int .i64 b, .int .i64 c, .int .i64 imm], .int .i64 0]) ∧ Below x.heap.size x W') := hid (fun x hb => by
    have := I.rdecode_any x (hT.but hb hlo).s (hT.but hb hlo).z (m.fw l f.pc) hw.1 hw.2
    rw [hdE, hd] at this
    exact this)
  have hi := (dec_ok hdE).1
  rw [hd] at hi
  obtain ⟨a0, a1, b0, b1, c0, c1⟩ := hi
  simp only at a0 a1 b0 b1 c0 c1
  have ra0 := hF.r a.toNat
  have rb0 := hF.r b.toNat
  have rc0 := hF.r c.toNat
  have HI : Hid (imm % 4294967296 = im ⟨16, cond, a, b, c, imm⟩) := hid rfl
  have hv0 := im_range ⟨16, cond, a, b, c, imm⟩
  have hUm := hU.fm l f.pc
  generalize m.fm l f.pc = m2 at *
  have HMv := hid (fun w (hm : RMem w r m2) => moved_any w r m2 hm hUm l f ⟨16, cond, a, b, c, imm⟩ ⟨a0, a1, b0, b1, c0, c1⟩ (by simp) (by simp))
  generalize doI m2 l f ⟨16, cond, a, b, c, imm⟩ = O at *
  unfold I.Ins.r Out.v ptr at HMv
  clear hT h hU hlo hE hdE hd hw
  generalize im ⟨16, cond, a, b, c, imm⟩ = v at *
  generalize m.fw l f.pc = wv at *
  simp only [F.v] at *
  simp only [zg, evc] at HX
  unfold ptr at *
  go_enter Tryz.func9, Tryz.ntmps9
  go_upto_region 1 with fail
  generalize hX : ((W.alloc _).alloc _).alloc _ = X at *
  clear hX
  generalize W.heap.size + 1 + 1 = g7 at *
  generalize W.heap.size + 1 = g6 at *
  generalize W.heap.size = g5 at HX ⊢
  have y15 : X.cell? ⟨g5, 15, none⟩ = some (.int .u32 f.pc) := ((HX.out.get 2 rfl).cell 15).trans f.at15
  go_upto_region 4 with (go_at_call 28; refine (HCl.out _ HX.out.st.mem).mono ?_; rintro e w1 ⟨rfl, hs1⟩; have B1 := hid (HX.out.call hs1); clear hs1)
  clear HX HCl y15
  go_upto_region 5 with (first | (go_at_call 29; refine (HDe.out _ B1.out.st.but).mono ?_; rintro e w2 ⟨rfl, hb2⟩; have B2 := hid ((B1.out.on hb2).box 85 [.int .i64 0, .int .i64 0, .int .i64 0, .int .i64 0, .int .i64 0, .int .i64 0]); clear hb2) | (refine wpList_store_st rfl 85 _ _ rfl w2.heap.size [.int .i64 16, .int .i64 cond, .int .i64 a, .int .i64 b, .int .i64 c, .int .i64 imm] rfl rfl (B2.out.get 0 rfl) size85r rfl rfl ?_; intro w3 hc3 hb3 hs3; have B3 := hid (B2.out.put 0 rfl hc3 hb3); clear hc3 hb3 hs3))
  clear B1 B2 HDe
  simp only [List.set_cons_zero] at B3
  generalize w2.heap.size = g10 at *
  go_upto_region 7 with fail
  have B4 := hid (B3.out.box 34 F.zero.cs)
  go_upto_region 8 with (first | (refine wpList_load_g rfl _ rfl g5 f rfl (B3.out.get 3 rfl) ?_) | (refine wpList_store_g rfl _ _ rfl w3.heap.size F.zero f rfl rfl (zg_new w3) ?_; intro w4 hc4 hb4 hs4; have B5 := hid (B4.out.put 0 rfl hc4 (zg_but hb4)); clear hc4 hb4 hs4))
  clear B3 B4
  simp only [List.set_cons_zero] at B5
  generalize w3.heap.size = g12 at *
  have y15 : w4.cell? ⟨g5, 15, none⟩ = some (.int .u32 f.pc) := ((B5.out.get 4 rfl).cell 15).trans f.at15
  have z15 : w4.cell? ⟨g12, 15, none⟩ = some (.int .u32 f.pc) := ((B5.out.get 0 rfl).cell 15).trans f.at15
  have zf15 := (B5.out.get 0 rfl).free 15
  go_upto_region 9 with fail
  have B6 := hid (B5.out.put (x' := w4.setCell ⟨g12, 15, none⟩ (.int .u32 ((f.pc + 4) % 4294967296))) (es := f.nx.cs) 0 rfl (by rw [show f.nx.cs = f.cs.set 15 (.int .u32 ((f.pc + 4) % 4294967296)) from (f.set15 _).symm]; exact (B5.out.get 0 rfl).setCell 15 _) (.setCell _ _ _ _ (by simp)))
  simp only [List.set_cons_zero] at B6
  generalize hY : World.setCell _ _ _ = Y at *
  clear hY B5 y15 z15 zf15
  have y0 : Y.cell? ⟨g10, 0, none⟩ = some (.int .i64 16) := (B6.out.get 1 rfl).cell 0
  have y1 : Y.cell? ⟨g10, 1, none⟩ = some (.int .i64 cond) := (B6.out.get 1 rfl).cell 1
  have y2 : Y.cell? ⟨g10, 2, none⟩ = some (.int .i64 a) := (B6.out.get 1 rfl).cell 2
  have y3 : Y.cell? ⟨g10, 3, none⟩ = some (.int .i64 b) := (B6.out.get 1 rfl).cell 3
  have y4 : Y.cell? ⟨g10, 4, none⟩ = some (.int .i64 c) := (B6.out.get 1 rfl).cell 4
  have y5 : Y.cell? ⟨g10, 5, none⟩ = some (.int .i64 imm) := (B6.out.get 1 rfl).cell 5
  have ya : Y.cell? ⟨g5, a.toNat, none⟩ = some (.int .u32 (rg f a)) := ((B6.out.get 4 rfl).cell _).trans (f.at _ (by omega))
  have yb : Y.cell? ⟨g5, b.toNat, none⟩ = some (.int .u32 (rg f b)) := ((B6.out.get 4 rfl).cell _).trans (f.at _ (by omega))
  have yc : Y.cell? ⟨g5, c.toNat, none⟩ = some (.int .u32 (rg f c)) := ((B6.out.get 4 rfl).cell _).trans (f.at _ (by omega))
  go_upto_region 10 with fail
  rw [show imm % 4294967296 = v from HI.out]
  go_wp2_with (first | (refine wpList_load_g rfl _ rfl g5 f rfl (B6.out.get 4 rfl) ?_) | (refine wpList_load_g rfl _ rfl g12 f.nx rfl (B6.out.get 0 rfl) ?_) | (refine wpList_load_mid rfl 85 _ rfl g10 0 rfl _ _ ((B6.out.get 1 rfl).range) under85r rfl (by rw [size85r]; rfl) ?_) | (go_at_call 31; refine (HMv.out _ B6.out.st.mem).mono ?_; rintro e w5 ⟨rfl, r2, hs5⟩; have B7 := hid (B6.out.call hs5); clear hs5) | (refine wpList_store_g rfl _ _ rfl g6 F.zero O.f rfl rfl (B7.out.get 3 rfl) ?_; intro w7 hc hb hs; have C1 := hid (B7.out.put 3 rfl hc hb); clear hc hb hs) | (refine wpList_store_st rfl 42 _ _ rfl g7 (evc O.k O.a) rfl rfl (C1.out.get 2 rfl) size42 rfl rfl ?_; intro w8 hc hb hs; have C2 := hid (C1.out.put 2 rfl hc hb); clear hc hb hs))
  exact ret_two rfl rfl g6 g7 _ _ rfl rfl (C2.out.get 3 rfl) (C2.out.get 2 rfl) under25 under42 rfl rfl (by rw [size25, F.len]) size42 ⟨rfl, r2, C2.out.st⟩
theorem rstep_17 (W : World) (hT : Tb W) (r : Rf) (m : MS) (h : RMem W r m) (hU : m.U) (l : Int) (f : F) (hF : f.U) (hlo : ∀ k ∈ r.all, 3 < k) (cond a b c imm : Int) (hE : m.trE l f.pc 2 = 0) (hdE : I.decE (m.fw l f.pc) = 0) (hd : I.dec (m.fw l f.pc) = ⟨17, cond, a, b, c, imm⟩) :
    Calls Tryz.prog 9 #[ptr r.g, .int .i64 l, f.v] W fun x w' => x = .returned (doI (m.fm l f.pc) l f ⟨17, cond, a, b, c, imm⟩).v ∧ ∃ r', RSt W w' r r' (doI (m.fm l f.pc) l f ⟨17, cond, a, b, c, imm⟩).m := by
  have HX := hid (M3.new W r m h f)
  have hw := hU.word (m.trS l f.pc 2) (m.trP l f.pc 2) (m.trO l f.pc 2)
  have HCl : Hid (∀ w, RMem w r m → Calls Tryz.prog 28 #[ptr r.g, .int .i64 l, .int .u32 f.pc, .int .i64 2] w fun x w' => x = .returned (.tuple #[.int .u32 (m.fw l f.pc), .bool true]) ∧ RSt w w' r r (m.fm l f.pc)) := hid (fun w hm => by
    have := rloaded_any w r m hm hU l f.pc 2 hF.p0 hF.p1 (.inr rfl)
    rw [rc_two hE, rm_two hE, hE] at this
    exact this)
  have HDe : Hid (∀ x, ButL r.all W x → Calls Tryz.prog 29 #[.int .u32 (m.fw l f.pc)] x fun e W' => e = .returned (.tuple #[.agg #[.int .i64 17, .int .i64 cond, .int .i64 a, .int .i64 b, .int .i64 c, .int .i64 imm], .int .i64 0]) ∧ Below x.heap.size x W') := hid (fun x hb => by
    have := I.rdecode_any x (hT.but hb hlo).s (hT.but hb hlo).z (m.fw l f.pc) hw.1 hw.2
    rw [hdE, hd] at this
    exact this)
  have hi := (dec_ok hdE).1
  rw [hd] at hi
  obtain ⟨a0, a1, b0, b1, c0, c1⟩ := hi
  simp only at a0 a1 b0 b1 c0 c1
  have ra0 := hF.r a.toNat
  have rb0 := hF.r b.toNat
  have rc0 := hF.r c.toNat
  have HI : Hid (imm % 4294967296 = im ⟨17, cond, a, b, c, imm⟩) := hid rfl
  have hv0 := im_range ⟨17, cond, a, b, c, imm⟩
  have hUm := hU.fm l f.pc
  generalize m.fm l f.pc = m2 at *
  have HMv := hid (fun w (hm : RMem w r m2) => moved_any w r m2 hm hUm l f ⟨17, cond, a, b, c, imm⟩ ⟨a0, a1, b0, b1, c0, c1⟩ (by simp) (by simp))
  generalize doI m2 l f ⟨17, cond, a, b, c, imm⟩ = O at *
  unfold I.Ins.r Out.v ptr at HMv
  clear hT h hU hlo hE hdE hd hw
  generalize im ⟨17, cond, a, b, c, imm⟩ = v at *
  generalize m.fw l f.pc = wv at *
  simp only [F.v] at *
  simp only [zg, evc] at HX
  unfold ptr at *
  go_enter Tryz.func9, Tryz.ntmps9
  go_upto_region 1 with fail
  generalize hX : ((W.alloc _).alloc _).alloc _ = X at *
  clear hX
  generalize W.heap.size + 1 + 1 = g7 at *
  generalize W.heap.size + 1 = g6 at *
  generalize W.heap.size = g5 at HX ⊢
  have y15 : X.cell? ⟨g5, 15, none⟩ = some (.int .u32 f.pc) := ((HX.out.get 2 rfl).cell 15).trans f.at15
  go_upto_region 4 with (go_at_call 28; refine (HCl.out _ HX.out.st.mem).mono ?_; rintro e w1 ⟨rfl, hs1⟩; have B1 := hid (HX.out.call hs1); clear hs1)
  clear HX HCl y15
  go_upto_region 5 with (first | (go_at_call 29; refine (HDe.out _ B1.out.st.but).mono ?_; rintro e w2 ⟨rfl, hb2⟩; have B2 := hid ((B1.out.on hb2).box 85 [.int .i64 0, .int .i64 0, .int .i64 0, .int .i64 0, .int .i64 0, .int .i64 0]); clear hb2) | (refine wpList_store_st rfl 85 _ _ rfl w2.heap.size [.int .i64 17, .int .i64 cond, .int .i64 a, .int .i64 b, .int .i64 c, .int .i64 imm] rfl rfl (B2.out.get 0 rfl) size85r rfl rfl ?_; intro w3 hc3 hb3 hs3; have B3 := hid (B2.out.put 0 rfl hc3 hb3); clear hc3 hb3 hs3))
  clear B1 B2 HDe
  simp only [List.set_cons_zero] at B3
  generalize w2.heap.size = g10 at *
  go_upto_region 7 with fail
  have B4 := hid (B3.out.box 34 F.zero.cs)
  go_upto_region 8 with (first | (refine wpList_load_g rfl _ rfl g5 f rfl (B3.out.get 3 rfl) ?_) | (refine wpList_store_g rfl _ _ rfl w3.heap.size F.zero f rfl rfl (zg_new w3) ?_; intro w4 hc4 hb4 hs4; have B5 := hid (B4.out.put 0 rfl hc4 (zg_but hb4)); clear hc4 hb4 hs4))
  clear B3 B4
  simp only [List.set_cons_zero] at B5
  generalize w3.heap.size = g12 at *
  have y15 : w4.cell? ⟨g5, 15, none⟩ = some (.int .u32 f.pc) := ((B5.out.get 4 rfl).cell 15).trans f.at15
  have z15 : w4.cell? ⟨g12, 15, none⟩ = some (.int .u32 f.pc) := ((B5.out.get 0 rfl).cell 15).trans f.at15
  have zf15 := (B5.out.get 0 rfl).free 15
  go_upto_region 9 with fail
  have B6 := hid (B5.out.put (x' := w4.setCell ⟨g12, 15, none⟩ (.int .u32 ((f.pc + 4) % 4294967296))) (es := f.nx.cs) 0 rfl (by rw [show f.nx.cs = f.cs.set 15 (.int .u32 ((f.pc + 4) % 4294967296)) from (f.set15 _).symm]; exact (B5.out.get 0 rfl).setCell 15 _) (.setCell _ _ _ _ (by simp)))
  simp only [List.set_cons_zero] at B6
  generalize hY : World.setCell _ _ _ = Y at *
  clear hY B5 y15 z15 zf15
  have y0 : Y.cell? ⟨g10, 0, none⟩ = some (.int .i64 17) := (B6.out.get 1 rfl).cell 0
  have y1 : Y.cell? ⟨g10, 1, none⟩ = some (.int .i64 cond) := (B6.out.get 1 rfl).cell 1
  have y2 : Y.cell? ⟨g10, 2, none⟩ = some (.int .i64 a) := (B6.out.get 1 rfl).cell 2
  have y3 : Y.cell? ⟨g10, 3, none⟩ = some (.int .i64 b) := (B6.out.get 1 rfl).cell 3
  have y4 : Y.cell? ⟨g10, 4, none⟩ = some (.int .i64 c) := (B6.out.get 1 rfl).cell 4
  have y5 : Y.cell? ⟨g10, 5, none⟩ = some (.int .i64 imm) := (B6.out.get 1 rfl).cell 5
  have ya : Y.cell? ⟨g5, a.toNat, none⟩ = some (.int .u32 (rg f a)) := ((B6.out.get 4 rfl).cell _).trans (f.at _ (by omega))
  have yb : Y.cell? ⟨g5, b.toNat, none⟩ = some (.int .u32 (rg f b)) := ((B6.out.get 4 rfl).cell _).trans (f.at _ (by omega))
  have yc : Y.cell? ⟨g5, c.toNat, none⟩ = some (.int .u32 (rg f c)) := ((B6.out.get 4 rfl).cell _).trans (f.at _ (by omega))
  go_upto_region 10 with fail
  rw [show imm % 4294967296 = v from HI.out]
  go_wp2_with (first | (refine wpList_load_g rfl _ rfl g5 f rfl (B6.out.get 4 rfl) ?_) | (refine wpList_load_g rfl _ rfl g12 f.nx rfl (B6.out.get 0 rfl) ?_) | (refine wpList_load_mid rfl 85 _ rfl g10 0 rfl _ _ ((B6.out.get 1 rfl).range) under85r rfl (by rw [size85r]; rfl) ?_) | (go_at_call 31; refine (HMv.out _ B6.out.st.mem).mono ?_; rintro e w5 ⟨rfl, r2, hs5⟩; have B7 := hid (B6.out.call hs5); clear hs5) | (refine wpList_store_g rfl _ _ rfl g6 F.zero O.f rfl rfl (B7.out.get 3 rfl) ?_; intro w7 hc hb hs; have C1 := hid (B7.out.put 3 rfl hc hb); clear hc hb hs) | (refine wpList_store_st rfl 42 _ _ rfl g7 (evc O.k O.a) rfl rfl (C1.out.get 2 rfl) size42 rfl rfl ?_; intro w8 hc hb hs; have C2 := hid (C1.out.put 2 rfl hc hb); clear hc hb hs))
  exact ret_two rfl rfl g6 g7 _ _ rfl rfl (C2.out.get 3 rfl) (C2.out.get 2 rfl) under25 under42 rfl rfl (by rw [size25, F.len]) size42 ⟨rfl, r2, C2.out.st⟩
theorem rstep_18 (W : World) (hT : Tb W) (r : Rf) (m : MS) (h : RMem W r m) (hU : m.U) (l : Int) (f : F) (hF : f.U) (hlo : ∀ k ∈ r.all, 3 < k) (cond a b c imm : Int) (hE : m.trE l f.pc 2 = 0) (hdE : I.decE (m.fw l f.pc) = 0) (hd : I.dec (m.fw l f.pc) = ⟨18, cond, a, b, c, imm⟩) :
    Calls Tryz.prog 9 #[ptr r.g, .int .i64 l, f.v] W fun x w' => x = .returned (doI (m.fm l f.pc) l f ⟨18, cond, a, b, c, imm⟩).v ∧ ∃ r', RSt W w' r r' (doI (m.fm l f.pc) l f ⟨18, cond, a, b, c, imm⟩).m := by
  have HX := hid (M3.new W r m h f)
  have hw := hU.word (m.trS l f.pc 2) (m.trP l f.pc 2) (m.trO l f.pc 2)
  have HCl : Hid (∀ w, RMem w r m → Calls Tryz.prog 28 #[ptr r.g, .int .i64 l, .int .u32 f.pc, .int .i64 2] w fun x w' => x = .returned (.tuple #[.int .u32 (m.fw l f.pc), .bool true]) ∧ RSt w w' r r (m.fm l f.pc)) := hid (fun w hm => by
    have := rloaded_any w r m hm hU l f.pc 2 hF.p0 hF.p1 (.inr rfl)
    rw [rc_two hE, rm_two hE, hE] at this
    exact this)
  have HDe : Hid (∀ x, ButL r.all W x → Calls Tryz.prog 29 #[.int .u32 (m.fw l f.pc)] x fun e W' => e = .returned (.tuple #[.agg #[.int .i64 18, .int .i64 cond, .int .i64 a, .int .i64 b, .int .i64 c, .int .i64 imm], .int .i64 0]) ∧ Below x.heap.size x W') := hid (fun x hb => by
    have := I.rdecode_any x (hT.but hb hlo).s (hT.but hb hlo).z (m.fw l f.pc) hw.1 hw.2
    rw [hdE, hd] at this
    exact this)
  have hi := (dec_ok hdE).1
  rw [hd] at hi
  obtain ⟨a0, a1, b0, b1, c0, c1⟩ := hi
  simp only at a0 a1 b0 b1 c0 c1
  have ra0 := hF.r a.toNat
  have rb0 := hF.r b.toNat
  have rc0 := hF.r c.toNat
  have HI : Hid (imm % 4294967296 = im ⟨18, cond, a, b, c, imm⟩) := hid rfl
  have hv0 := im_range ⟨18, cond, a, b, c, imm⟩
  have hUm := hU.fm l f.pc
  generalize m.fm l f.pc = m2 at *
  have HMv := hid (fun w (hm : RMem w r m2) => moved_any w r m2 hm hUm l f ⟨18, cond, a, b, c, imm⟩ ⟨a0, a1, b0, b1, c0, c1⟩ (by simp) (by simp))
  generalize doI m2 l f ⟨18, cond, a, b, c, imm⟩ = O at *
  unfold I.Ins.r Out.v ptr at HMv
  clear hT h hU hlo hE hdE hd hw
  generalize im ⟨18, cond, a, b, c, imm⟩ = v at *
  generalize m.fw l f.pc = wv at *
  simp only [F.v] at *
  simp only [zg, evc] at HX
  unfold ptr at *
  go_enter Tryz.func9, Tryz.ntmps9
  go_upto_region 1 with fail
  generalize hX : ((W.alloc _).alloc _).alloc _ = X at *
  clear hX
  generalize W.heap.size + 1 + 1 = g7 at *
  generalize W.heap.size + 1 = g6 at *
  generalize W.heap.size = g5 at HX ⊢
  have y15 : X.cell? ⟨g5, 15, none⟩ = some (.int .u32 f.pc) := ((HX.out.get 2 rfl).cell 15).trans f.at15
  go_upto_region 4 with (go_at_call 28; refine (HCl.out _ HX.out.st.mem).mono ?_; rintro e w1 ⟨rfl, hs1⟩; have B1 := hid (HX.out.call hs1); clear hs1)
  clear HX HCl y15
  go_upto_region 5 with (first | (go_at_call 29; refine (HDe.out _ B1.out.st.but).mono ?_; rintro e w2 ⟨rfl, hb2⟩; have B2 := hid ((B1.out.on hb2).box 85 [.int .i64 0, .int .i64 0, .int .i64 0, .int .i64 0, .int .i64 0, .int .i64 0]); clear hb2) | (refine wpList_store_st rfl 85 _ _ rfl w2.heap.size [.int .i64 18, .int .i64 cond, .int .i64 a, .int .i64 b, .int .i64 c, .int .i64 imm] rfl rfl (B2.out.get 0 rfl) size85r rfl rfl ?_; intro w3 hc3 hb3 hs3; have B3 := hid (B2.out.put 0 rfl hc3 hb3); clear hc3 hb3 hs3))
  clear B1 B2 HDe
  simp only [List.set_cons_zero] at B3
  generalize w2.heap.size = g10 at *
  go_upto_region 7 with fail
  have B4 := hid (B3.out.box 34 F.zero.cs)
  go_upto_region 8 with (first | (refine wpList_load_g rfl _ rfl g5 f rfl (B3.out.get 3 rfl) ?_) | (refine wpList_store_g rfl _ _ rfl w3.heap.size F.zero f rfl rfl (zg_new w3) ?_; intro w4 hc4 hb4 hs4; have B5 := hid (B4.out.put 0 rfl hc4 (zg_but hb4)); clear hc4 hb4 hs4))
  clear B3 B4
  simp only [List.set_cons_zero] at B5
  generalize w3.heap.size = g12 at *
  have y15 : w4.cell? ⟨g5, 15, none⟩ = some (.int .u32 f.pc) := ((B5.out.get 4 rfl).cell 15).trans f.at15
  have z15 : w4.cell? ⟨g12, 15, none⟩ = some (.int .u32 f.pc) := ((B5.out.get 0 rfl).cell 15).trans f.at15
  have zf15 := (B5.out.get 0 rfl).free 15
  go_upto_region 9 with fail
  have B6 := hid (B5.out.put (x' := w4.setCell ⟨g12, 15, none⟩ (.int .u32 ((f.pc + 4) % 4294967296))) (es := f.nx.cs) 0 rfl (by rw [show f.nx.cs = f.cs.set 15 (.int .u32 ((f.pc + 4) % 4294967296)) from (f.set15 _).symm]; exact (B5.out.get 0 rfl).setCell 15 _) (.setCell _ _ _ _ (by simp)))
  simp only [List.set_cons_zero] at B6
  generalize hY : World.setCell _ _ _ = Y at *
  clear hY B5 y15 z15 zf15
  have y0 : Y.cell? ⟨g10, 0, none⟩ = some (.int .i64 18) := (B6.out.get 1 rfl).cell 0
  have y1 : Y.cell? ⟨g10, 1, none⟩ = some (.int .i64 cond) := (B6.out.get 1 rfl).cell 1
  have y2 : Y.cell? ⟨g10, 2, none⟩ = some (.int .i64 a) := (B6.out.get 1 rfl).cell 2
  have y3 : Y.cell? ⟨g10, 3, none⟩ = some (.int .i64 b) := (B6.out.get 1 rfl).cell 3
  have y4 : Y.cell? ⟨g10, 4, none⟩ = some (.int .i64 c) := (B6.out.get 1 rfl).cell 4
  have y5 : Y.cell? ⟨g10, 5, none⟩ = some (.int .i64 imm) := (B6.out.get 1 rfl).cell 5
  have ya : Y.cell? ⟨g5, a.toNat, none⟩ = some (.int .u32 (rg f a)) := ((B6.out.get 4 rfl).cell _).trans (f.at _ (by omega))
  have yb : Y.cell? ⟨g5, b.toNat, none⟩ = some (.int .u32 (rg f b)) := ((B6.out.get 4 rfl).cell _).trans (f.at _ (by omega))
  have yc : Y.cell? ⟨g5, c.toNat, none⟩ = some (.int .u32 (rg f c)) := ((B6.out.get 4 rfl).cell _).trans (f.at _ (by omega))
  go_upto_region 10 with fail
  rw [show imm % 4294967296 = v from HI.out]
  go_wp2_with (first | (refine wpList_load_g rfl _ rfl g5 f rfl (B6.out.get 4 rfl) ?_) | (refine wpList_load_g rfl _ rfl g12 f.nx rfl (B6.out.get 0 rfl) ?_) | (refine wpList_load_mid rfl 85 _ rfl g10 0 rfl _ _ ((B6.out.get 1 rfl).range) under85r rfl (by rw [size85r]; rfl) ?_) | (go_at_call 31; refine (HMv.out _ B6.out.st.mem).mono ?_; rintro e w5 ⟨rfl, r2, hs5⟩; have B7 := hid (B6.out.call hs5); clear hs5) | (refine wpList_store_g rfl _ _ rfl g6 F.zero O.f rfl rfl (B7.out.get 3 rfl) ?_; intro w7 hc hb hs; have C1 := hid (B7.out.put 3 rfl hc hb); clear hc hb hs) | (refine wpList_store_st rfl 42 _ _ rfl g7 (evc O.k O.a) rfl rfl (C1.out.get 2 rfl) size42 rfl rfl ?_; intro w8 hc hb hs; have C2 := hid (C1.out.put 2 rfl hc hb); clear hc hb hs))
  exact ret_two rfl rfl g6 g7 _ _ rfl rfl (C2.out.get 3 rfl) (C2.out.get 2 rfl) under25 under42 rfl rfl (by rw [size25, F.len]) size42 ⟨rfl, r2, C2.out.st⟩
end Go.Proofs.YteldpapacdbbiaaGreatDoor
