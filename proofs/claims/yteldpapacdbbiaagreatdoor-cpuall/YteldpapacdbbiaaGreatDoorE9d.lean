/- The document's Step 9, an operation a theorem. -/
import Derived.Test.YteldpapacdbbiaaGreatDoorA2E9
namespace Go.Proofs.YteldpapacdbbiaaGreatDoor
open Go.RowKit
set_option maxHeartbeats 8000000
set_option maxRecDepth 100000
attribute [-simp] Tryz.isAgg34 Tryz.sizeOf34 Tryz.isAgg24
theorem rstep_19 (W : World) (hT : Tb W) (r : Rf) (m : MS) (h : RMem W r m) (hU : m.U) (l : Int) (f : F) (hF : f.U) (hlo : ∀ k ∈ r.all, 3 < k) (cond a b c imm : Int) (hE : m.trE l f.pc 2 = 0) (hdE : I.decE (m.fw l f.pc) = 0) (hd : I.dec (m.fw l f.pc) = ⟨19, cond, a, b, c, imm⟩) :
    Calls Tryz.prog 9 #[ptr r.g, .int .i64 l, f.v] W fun x w' => x = .returned (doI (m.fm l f.pc) l f ⟨19, cond, a, b, c, imm⟩).v ∧ ∃ r', RSt W w' r r' (doI (m.fm l f.pc) l f ⟨19, cond, a, b, c, imm⟩).m := by
  have HX := hid (M3.new W r m h f)
  have hw := hU.word (m.trS l f.pc 2) (m.trP l f.pc 2) (m.trO l f.pc 2)
  have HCl : Hid (∀ w, RMem w r m → Calls Tryz.prog 28 #[ptr r.g, .int .i64 l, .int .u32 f.pc, .int .i64 2] w fun x w' => x = .returned (.tuple #[.int .u32 (m.fw l f.pc), .bool true]) ∧ RSt w w' r r (m.fm l f.pc)) := hid (fun w hm => by
    have := rloaded_any w r m hm hU l f.pc 2 hF.p0 hF.p1 (.inr rfl)
    rw [rc_two hE, rm_two hE, hE] at this
    exact this)
  have HDe : Hid (∀ x, ButL r.all W x → Calls Tryz.prog 29 #[.int .u32 (m.fw l f.pc)] x fun e W' => e = .returned (.tuple #[.agg #[.int .i64 19, .int .i64 cond, .int .i64 a, .int .i64 b, .int .i64 c, .int .i64 imm], .int .i64 0]) ∧ Below x.heap.size x W') := hid (fun x hb => by
    have := I.rdecode_any x (hT.but hb hlo).s (hT.but hb hlo).z (m.fw l f.pc) hw.1 hw.2
    rw [hdE, hd] at this
    exact this)
  have hi := (dec_ok hdE).1
  rw [hd] at hi
  obtain ⟨a0, a1, b0, b1, c0, c1⟩ := hi
  simp only at a0 a1 b0 b1 c0 c1
  have ra0 := hF.r a.toNat
  have rb0 := hF.r b.toNat
  have rc0 := hF.r c.toNat
  have HI : Hid (imm % 4294967296 = im ⟨19, cond, a, b, c, imm⟩) := hid rfl
  have hv0 := im_range ⟨19, cond, a, b, c, imm⟩
  have hUm := hU.fm l f.pc
  generalize m.fm l f.pc = m2 at *
  have HO : Hid (doI m2 l f ⟨19, cond, a, b, c, imm⟩ = ⟨f.nx.cmp (rg f a) (rg f b), 0, 0, m2⟩) := hid rfl
  have HCm := hid (fun W => rcompare_any W f.nx (rg f a) (rg f b) ra0.1 ra0.2 rb0.1 rb0.2)
  unfold F.v at HCm
  clear hT h hU hlo hE hdE hd hw
  generalize im ⟨19, cond, a, b, c, imm⟩ = v at *
  generalize m.fw l f.pc = wv at *
  simp only [F.v] at *
  simp only [zg, evc] at HX
  unfold ptr at *
  go_enter Tryz.func9, Tryz.ntmps9
  go_upto_region 1 with fail
  generalize hX : ((W.alloc _).alloc _).alloc _ = X at *
  clear hX
  generalize W.heap.size + 1 + 1 = g7 at *
  generalize W.heap.size + 1 = g6 at *
  generalize W.heap.size = g5 at HX ⊢
  have y15 : X.cell? ⟨g5, 15, none⟩ = some (.int .u32 f.pc) := ((HX.out.get 2 rfl).cell 15).trans f.at15
  go_upto_region 4 with (go_at_call 28; refine (HCl.out _ HX.out.st.mem).mono ?_; rintro e w1 ⟨rfl, hs1⟩; have B1 := hid (HX.out.call hs1); clear hs1)
  clear HX HCl y15
  go_upto_region 5 with (first | (go_at_call 29; refine (HDe.out _ B1.out.st.but).mono ?_; rintro e w2 ⟨rfl, hb2⟩; have B2 := hid ((B1.out.on hb2).box 85 [.int .i64 0, .int .i64 0, .int .i64 0, .int .i64 0, .int .i64 0, .int .i64 0]); clear hb2) | (refine wpList_store_st rfl 85 _ _ rfl w2.heap.size [.int .i64 19, .int .i64 cond, .int .i64 a, .int .i64 b, .int .i64 c, .int .i64 imm] rfl rfl (B2.out.get 0 rfl) size85r rfl rfl ?_; intro w3 hc3 hb3 hs3; have B3 := hid (B2.out.put 0 rfl hc3 hb3); clear hc3 hb3 hs3))
  clear B1 B2 HDe
  simp only [List.set_cons_zero] at B3
  generalize w2.heap.size = g10 at *
  go_upto_region 7 with fail
  have B4 := hid (B3.out.box 34 F.zero.cs)
  go_upto_region 8 with (first | (refine wpList_load_g rfl _ rfl g5 f rfl (B3.out.get 3 rfl) ?_) | (refine wpList_store_g rfl _ _ rfl w3.heap.size F.zero f rfl rfl (zg_new w3) ?_; intro w4 hc4 hb4 hs4; have B5 := hid (B4.out.put 0 rfl hc4 (zg_but hb4)); clear hc4 hb4 hs4))
  clear B3 B4
  simp only [List.set_cons_zero] at B5
  generalize w3.heap.size = g12 at *
  have y15 : w4.cell? ⟨g5, 15, none⟩ = some (.int .u32 f.pc) := ((B5.out.get 4 rfl).cell 15).trans f.at15
  have z15 : w4.cell? ⟨g12, 15, none⟩ = some (.int .u32 f.pc) := ((B5.out.get 0 rfl).cell 15).trans f.at15
  have zf15 := (B5.out.get 0 rfl).free 15
  go_upto_region 9 with fail
  have B6 := hid (B5.out.put (x' := w4.setCell ⟨g12, 15, none⟩ (.int .u32 ((f.pc + 4) % 4294967296))) (es := f.nx.cs) 0 rfl (by rw [show f.nx.cs = f.cs.set 15 (.int .u32 ((f.pc + 4) % 4294967296)) from (f.set15 _).symm]; exact (B5.out.get 0 rfl).setCell 15 _) (.setCell _ _ _ _ (by simp)))
  simp only [List.set_cons_zero] at B6
  generalize hY : World.setCell _ _ _ = Y at *
  clear hY B5 y15 z15 zf15
  have y0 : Y.cell? ⟨g10, 0, none⟩ = some (.int .i64 19) := (B6.out.get 1 rfl).cell 0
  have y1 : Y.cell? ⟨g10, 1, none⟩ = some (.int .i64 cond) := (B6.out.get 1 rfl).cell 1
  have y2 : Y.cell? ⟨g10, 2, none⟩ = some (.int .i64 a) := (B6.out.get 1 rfl).cell 2
  have y3 : Y.cell? ⟨g10, 3, none⟩ = some (.int .i64 b) := (B6.out.get 1 rfl).cell 3
  have y4 : Y.cell? ⟨g10, 4, none⟩ = some (.int .i64 c) := (B6.out.get 1 rfl).cell 4
  have y5 : Y.cell? ⟨g10, 5, none⟩ = some (.int .i64 imm) := (B6.out.get 1 rfl).cell 5
  have ya : Y.cell? ⟨g5, a.toNat, none⟩ = some (.int .u32 (rg f a)) := ((B6.out.get 4 rfl).cell _).trans (f.at _ (by omega))
  have yb : Y.cell? ⟨g5, b.toNat, none⟩ = some (.int .u32 (rg f b)) := ((B6.out.get 4 rfl).cell _).trans (f.at _ (by omega))
  have yc : Y.cell? ⟨g5, c.toNat, none⟩ = some (.int .u32 (rg f c)) := ((B6.out.get 4 rfl).cell _).trans (f.at _ (by omega))
  go_upto_region 10 with fail
  rw [show imm % 4294967296 = v from HI.out]
  go_upto_region 39 with (first | (refine wpList_load_g rfl _ rfl g12 f.nx rfl (B6.out.get 0 rfl) ?_) | (go_at_call 32; refine (HCm.out _).mono ?_; rintro e w5 ⟨rfl, hb5⟩; have B65 := hid (B6.out.on hb5); clear hb5) | (refine wpList_store_g rfl _ _ rfl g12 f.nx (f.nx.cmp (rg f a) (rg f b)) rfl rfl (B65.out.get 0 rfl) ?_; intro w6 hc hb hs; have B7 := hid (B65.out.put 0 rfl hc hb); clear hc hb hs))
  go_wp2_with (first | (refine wpList_load_g rfl _ rfl g12 (f.nx.cmp (rg f a) (rg f b)) rfl (B7.out.get 0 rfl) ?_) | (refine wpList_store_g rfl _ _ rfl g6 F.zero (f.nx.cmp (rg f a) (rg f b)) rfl rfl (B7.out.get 3 rfl) ?_; intro w7 hc hb hs; have C1 := hid (B7.out.put 3 rfl hc hb); clear hc hb hs) | (refine wpList_store_st rfl 42 _ _ rfl g7 (evc 0 0) rfl rfl (C1.out.get 2 rfl) size42 rfl rfl ?_; intro w8 hc hb hs; have C2 := hid (C1.out.put 2 rfl hc hb); clear hc hb hs))
  exact ret_two rfl rfl g6 g7 _ _ rfl rfl (C2.out.get 3 rfl) (C2.out.get 2 rfl) under25 under42 rfl rfl (by rw [size25, F.len]) size42 ⟨by rw [HO.out]; rfl, r, by rw [HO.out]; exact C2.out.st⟩
theorem rstep_20 (W : World) (hT : Tb W) (r : Rf) (m : MS) (h : RMem W r m) (hU : m.U) (l : Int) (f : F) (hF : f.U) (hlo : ∀ k ∈ r.all, 3 < k) (cond a b c imm : Int) (hE : m.trE l f.pc 2 = 0) (hdE : I.decE (m.fw l f.pc) = 0) (hd : I.dec (m.fw l f.pc) = ⟨20, cond, a, b, c, imm⟩) :
    Calls Tryz.prog 9 #[ptr r.g, .int .i64 l, f.v] W fun x w' => x = .returned (doI (m.fm l f.pc) l f ⟨20, cond, a, b, c, imm⟩).v ∧ ∃ r', RSt W w' r r' (doI (m.fm l f.pc) l f ⟨20, cond, a, b, c, imm⟩).m := by
  have HX := hid (M3.new W r m h f)
  have hw := hU.word (m.trS l f.pc 2) (m.trP l f.pc 2) (m.trO l f.pc 2)
  have HCl : Hid (∀ w, RMem w r m → Calls Tryz.prog 28 #[ptr r.g, .int .i64 l, .int .u32 f.pc, .int .i64 2] w fun x w' => x = .returned (.tuple #[.int .u32 (m.fw l f.pc), .bool true]) ∧ RSt w w' r r (m.fm l f.pc)) := hid (fun w hm => by
    have := rloaded_any w r m hm hU l f.pc 2 hF.p0 hF.p1 (.inr rfl)
    rw [rc_two hE, rm_two hE, hE] at this
    exact this)
  have HDe : Hid (∀ x, ButL r.all W x → Calls Tryz.prog 29 #[.int .u32 (m.fw l f.pc)] x fun e W' => e = .returned (.tuple #[.agg #[.int .i64 20, .int .i64 cond, .int .i64 a, .int .i64 b, .int .i64 c, .int .i64 imm], .int .i64 0]) ∧ Below x.heap.size x W') := hid (fun x hb => by
    have := I.rdecode_any x (hT.but hb hlo).s (hT.but hb hlo).z (m.fw l f.pc) hw.1 hw.2
    rw [hdE, hd] at this
    exact this)
  have hi := (dec_ok hdE).1
  rw [hd] at hi
  obtain ⟨a0, a1, b0, b1, c0, c1⟩ := hi
  simp only at a0 a1 b0 b1 c0 c1
  have ra0 := hF.r a.toNat
  have rb0 := hF.r b.toNat
  have rc0 := hF.r c.toNat
  have HI : Hid (imm % 4294967296 = im ⟨20, cond, a, b, c, imm⟩) := hid rfl
  have hv0 := im_range ⟨20, cond, a, b, c, imm⟩
  have hUm := hU.fm l f.pc
  generalize m.fm l f.pc = m2 at *
  have HO : Hid (doI m2 l f ⟨20, cond, a, b, c, imm⟩ = ⟨f.nx.cmp (rg f a) (im ⟨20, cond, a, b, c, imm⟩), 0, 0, m2⟩) := hid rfl
  have HCm := hid (fun W => rcompare_any W f.nx (rg f a) (im ⟨20, cond, a, b, c, imm⟩) ra0.1 ra0.2 hv0.1 hv0.2)
  unfold F.v at HCm
  clear hT h hU hlo hE hdE hd hw
  generalize im ⟨20, cond, a, b, c, imm⟩ = v at *
  generalize m.fw l f.pc = wv at *
  simp only [F.v] at *
  simp only [zg, evc] at HX
  unfold ptr at *
  go_enter Tryz.func9, Tryz.ntmps9
  go_upto_region 1 with fail
  generalize hX : ((W.alloc _).alloc _).alloc _ = X at *
  clear hX
  generalize W.heap.size + 1 + 1 = g7 at *
  generalize W.heap.size + 1 = g6 at *
  generalize W.heap.size = g5 at HX ⊢
  have y15 : X.cell? ⟨g5, 15, none⟩ = some (.int .u32 f.pc) := ((HX.out.get 2 rfl).cell 15).trans f.at15
  go_upto_region 4 with (go_at_call 28; refine (HCl.out _ HX.out.st.mem).mono ?_; rintro e w1 ⟨rfl, hs1⟩; have B1 := hid (HX.out.call hs1); clear hs1)
  clear HX HCl y15
  go_upto_region 5 with (first | (go_at_call 29; refine (HDe.out _ B1.out.st.but).mono ?_; rintro e w2 ⟨rfl, hb2⟩; have B2 := hid ((B1.out.on hb2).box 85 [.int .i64 0, .int .i64 0, .int .i64 0, .int .i64 0, .int .i64 0, .int .i64 0]); clear hb2) | (refine wpList_store_st rfl 85 _ _ rfl w2.heap.size [.int .i64 20, .int .i64 cond, .int .i64 a, .int .i64 b, .int .i64 c, .int .i64 imm] rfl rfl (B2.out.get 0 rfl) size85r rfl rfl ?_; intro w3 hc3 hb3 hs3; have B3 := hid (B2.out.put 0 rfl hc3 hb3); clear hc3 hb3 hs3))
  clear B1 B2 HDe
  simp only [List.set_cons_zero] at B3
  generalize w2.heap.size = g10 at *
  go_upto_region 7 with fail
  have B4 := hid (B3.out.box 34 F.zero.cs)
  go_upto_region 8 with (first | (refine wpList_load_g rfl _ rfl g5 f rfl (B3.out.get 3 rfl) ?_) | (refine wpList_store_g rfl _ _ rfl w3.heap.size F.zero f rfl rfl (zg_new w3) ?_; intro w4 hc4 hb4 hs4; have B5 := hid (B4.out.put 0 rfl hc4 (zg_but hb4)); clear hc4 hb4 hs4))
  clear B3 B4
  simp only [List.set_cons_zero] at B5
  generalize w3.heap.size = g12 at *
  have y15 : w4.cell? ⟨g5, 15, none⟩ = some (.int .u32 f.pc) := ((B5.out.get 4 rfl).cell 15).trans f.at15
  have z15 : w4.cell? ⟨g12, 15, none⟩ = some (.int .u32 f.pc) := ((B5.out.get 0 rfl).cell 15).trans f.at15
  have zf15 := (B5.out.get 0 rfl).free 15
  go_upto_region 9 with fail
  have B6 := hid (B5.out.put (x' := w4.setCell ⟨g12, 15, none⟩ (.int .u32 ((f.pc + 4) % 4294967296))) (es := f.nx.cs) 0 rfl (by rw [show f.nx.cs = f.cs.set 15 (.int .u32 ((f.pc + 4) % 4294967296)) from (f.set15 _).symm]; exact (B5.out.get 0 rfl).setCell 15 _) (.setCell _ _ _ _ (by simp)))
  simp only [List.set_cons_zero] at B6
  generalize hY : World.setCell _ _ _ = Y at *
  clear hY B5 y15 z15 zf15
  have y0 : Y.cell? ⟨g10, 0, none⟩ = some (.int .i64 20) := (B6.out.get 1 rfl).cell 0
  have y1 : Y.cell? ⟨g10, 1, none⟩ = some (.int .i64 cond) := (B6.out.get 1 rfl).cell 1
  have y2 : Y.cell? ⟨g10, 2, none⟩ = some (.int .i64 a) := (B6.out.get 1 rfl).cell 2
  have y3 : Y.cell? ⟨g10, 3, none⟩ = some (.int .i64 b) := (B6.out.get 1 rfl).cell 3
  have y4 : Y.cell? ⟨g10, 4, none⟩ = some (.int .i64 c) := (B6.out.get 1 rfl).cell 4
  have y5 : Y.cell? ⟨g10, 5, none⟩ = some (.int .i64 imm) := (B6.out.get 1 rfl).cell 5
  have ya : Y.cell? ⟨g5, a.toNat, none⟩ = some (.int .u32 (rg f a)) := ((B6.out.get 4 rfl).cell _).trans (f.at _ (by omega))
  have yb : Y.cell? ⟨g5, b.toNat, none⟩ = some (.int .u32 (rg f b)) := ((B6.out.get 4 rfl).cell _).trans (f.at _ (by omega))
  have yc : Y.cell? ⟨g5, c.toNat, none⟩ = some (.int .u32 (rg f c)) := ((B6.out.get 4 rfl).cell _).trans (f.at _ (by omega))
  go_upto_region 10 with fail
  rw [show imm % 4294967296 = v from HI.out]
  go_upto_region 39 with (first | (refine wpList_load_g rfl _ rfl g12 f.nx rfl (B6.out.get 0 rfl) ?_) | (go_at_call 32; refine (HCm.out _).mono ?_; rintro e w5 ⟨rfl, hb5⟩; have B65 := hid (B6.out.on hb5); clear hb5) | (refine wpList_store_g rfl _ _ rfl g12 f.nx (f.nx.cmp (rg f a) (v)) rfl rfl (B65.out.get 0 rfl) ?_; intro w6 hc hb hs; have B7 := hid (B65.out.put 0 rfl hc hb); clear hc hb hs))
  go_wp2_with (first | (refine wpList_load_g rfl _ rfl g12 (f.nx.cmp (rg f a) (v)) rfl (B7.out.get 0 rfl) ?_) | (refine wpList_store_g rfl _ _ rfl g6 F.zero (f.nx.cmp (rg f a) (v)) rfl rfl (B7.out.get 3 rfl) ?_; intro w7 hc hb hs; have C1 := hid (B7.out.put 3 rfl hc hb); clear hc hb hs) | (refine wpList_store_st rfl 42 _ _ rfl g7 (evc 0 0) rfl rfl (C1.out.get 2 rfl) size42 rfl rfl ?_; intro w8 hc hb hs; have C2 := hid (C1.out.put 2 rfl hc hb); clear hc hb hs))
  exact ret_two rfl rfl g6 g7 _ _ rfl rfl (C2.out.get 3 rfl) (C2.out.get 2 rfl) under25 under42 rfl rfl (by rw [size25, F.len]) size42 ⟨by rw [HO.out]; rfl, r, by rw [HO.out]; exact C2.out.st⟩
theorem rstep_21 (W : World) (hT : Tb W) (r : Rf) (m : MS) (h : RMem W r m) (hU : m.U) (l : Int) (f : F) (hF : f.U) (hlo : ∀ k ∈ r.all, 3 < k) (cond a b c imm : Int) (hE : m.trE l f.pc 2 = 0) (hdE : I.decE (m.fw l f.pc) = 0) (hd : I.dec (m.fw l f.pc) = ⟨21, cond, a, b, c, imm⟩) :
    Calls Tryz.prog 9 #[ptr r.g, .int .i64 l, f.v] W fun x w' => x = .returned (doI (m.fm l f.pc) l f ⟨21, cond, a, b, c, imm⟩).v ∧ ∃ r', RSt W w' r r' (doI (m.fm l f.pc) l f ⟨21, cond, a, b, c, imm⟩).m := by
  have HX := hid (M3.new W r m h f)
  have hw := hU.word (m.trS l f.pc 2) (m.trP l f.pc 2) (m.trO l f.pc 2)
  have HCl : Hid (∀ w, RMem w r m → Calls Tryz.prog 28 #[ptr r.g, .int .i64 l, .int .u32 f.pc, .int .i64 2] w fun x w' => x = .returned (.tuple #[.int .u32 (m.fw l f.pc), .bool true]) ∧ RSt w w' r r (m.fm l f.pc)) := hid (fun w hm => by
    have := rloaded_any w r m hm hU l f.pc 2 hF.p0 hF.p1 (.inr rfl)
    rw [rc_two hE, rm_two hE, hE] at this
    exact this)
  have HDe : Hid (∀ x, ButL r.all W x → Calls Tryz.prog 29 #[.int .u32 (m.fw l f.pc)] x fun e W' => e = .returned (.tuple #[.agg #[.int .i64 21, .int .i64 cond, .int .i64 a, .int .i64 b, .int .i64 c, .int .i64 imm], .int .i64 0]) ∧ Below x.heap.size x W') := hid (fun x hb => by
    have := I.rdecode_any x (hT.but hb hlo).s (hT.but hb hlo).z (m.fw l f.pc) hw.1 hw.2
    rw [hdE, hd] at this
    exact this)
  have hi := (dec_ok hdE).1
  rw [hd] at hi
  obtain ⟨a0, a1, b0, b1, c0, c1⟩ := hi
  simp only at a0 a1 b0 b1 c0 c1
  have ra0 := hF.r a.toNat
  have rb0 := hF.r b.toNat
  have rc0 := hF.r c.toNat
  have HI : Hid (imm % 4294967296 = im ⟨21, cond, a, b, c, imm⟩) := hid rfl
  have hv0 := im_range ⟨21, cond, a, b, c, imm⟩
  have hUm := hU.fm l f.pc
  generalize m.fm l f.pc = m2 at *
  have HH := hid (fun W => rholds_any W f cond)
  have HO : Hid (doI m2 l f ⟨21, cond, a, b, c, imm⟩ = ⟨if hold cond f.z f.n f.l then { f.nx with pc := (f.nx.pc + 4 * im ⟨21, cond, a, b, c, imm⟩) % 4294967296 } else f.nx, 0, 0, m2⟩) := hid rfl
  unfold F.v at HH
  generalize hold cond f.z f.n f.l = hh at *
  clear hT h hU hlo hE hdE hd hw
  generalize im ⟨21, cond, a, b, c, imm⟩ = v at *
  generalize m.fw l f.pc = wv at *
  simp only [F.v] at *
  simp only [zg, evc] at HX
  unfold ptr at *
  go_enter Tryz.func9, Tryz.ntmps9
  go_upto_region 1 with fail
  generalize hX : ((W.alloc _).alloc _).alloc _ = X at *
  clear hX
  generalize W.heap.size + 1 + 1 = g7 at *
  generalize W.heap.size + 1 = g6 at *
  generalize W.heap.size = g5 at HX ⊢
  have y15 : X.cell? ⟨g5, 15, none⟩ = some (.int .u32 f.pc) := ((HX.out.get 2 rfl).cell 15).trans f.at15
  go_upto_region 4 with (go_at_call 28; refine (HCl.out _ HX.out.st.mem).mono ?_; rintro e w1 ⟨rfl, hs1⟩; have B1 := hid (HX.out.call hs1); clear hs1)
  clear HX HCl y15
  go_upto_region 5 with (first | (go_at_call 29; refine (HDe.out _ B1.out.st.but).mono ?_; rintro e w2 ⟨rfl, hb2⟩; have B2 := hid ((B1.out.on hb2).box 85 [.int .i64 0, .int .i64 0, .int .i64 0, .int .i64 0, .int .i64 0, .int .i64 0]); clear hb2) | (refine wpList_store_st rfl 85 _ _ rfl w2.heap.size [.int .i64 21, .int .i64 cond, .int .i64 a, .int .i64 b, .int .i64 c, .int .i64 imm] rfl rfl (B2.out.get 0 rfl) size85r rfl rfl ?_; intro w3 hc3 hb3 hs3; have B3 := hid (B2.out.put 0 rfl hc3 hb3); clear hc3 hb3 hs3))
  clear B1 B2 HDe
  simp only [List.set_cons_zero] at B3
  generalize w2.heap.size = g10 at *
  go_upto_region 7 with fail
  have B4 := hid (B3.out.box 34 F.zero.cs)
  go_upto_region 8 with (first | (refine wpList_load_g rfl _ rfl g5 f rfl (B3.out.get 3 rfl) ?_) | (refine wpList_store_g rfl _ _ rfl w3.heap.size F.zero f rfl rfl (zg_new w3) ?_; intro w4 hc4 hb4 hs4; have B5 := hid (B4.out.put 0 rfl hc4 (zg_but hb4)); clear hc4 hb4 hs4))
  clear B3 B4
  simp only [List.set_cons_zero] at B5
  generalize w3.heap.size = g12 at *
  have y15 : w4.cell? ⟨g5, 15, none⟩ = some (.int .u32 f.pc) := ((B5.out.get 4 rfl).cell 15).trans f.at15
  have z15 : w4.cell? ⟨g12, 15, none⟩ = some (.int .u32 f.pc) := ((B5.out.get 0 rfl).cell 15).trans f.at15
  have zf15 := (B5.out.get 0 rfl).free 15
  go_upto_region 9 with fail
  have B6 := hid (B5.out.put (x' := w4.setCell ⟨g12, 15, none⟩ (.int .u32 ((f.pc + 4) % 4294967296))) (es := f.nx.cs) 0 rfl (by rw [show f.nx.cs = f.cs.set 15 (.int .u32 ((f.pc + 4) % 4294967296)) from (f.set15 _).symm]; exact (B5.out.get 0 rfl).setCell 15 _) (.setCell _ _ _ _ (by simp)))
  simp only [List.set_cons_zero] at B6
  generalize hY : World.setCell _ _ _ = Y at *
  clear hY B5 y15 z15 zf15
  have y0 : Y.cell? ⟨g10, 0, none⟩ = some (.int .i64 21) := (B6.out.get 1 rfl).cell 0
  have y1 : Y.cell? ⟨g10, 1, none⟩ = some (.int .i64 cond) := (B6.out.get 1 rfl).cell 1
  have y2 : Y.cell? ⟨g10, 2, none⟩ = some (.int .i64 a) := (B6.out.get 1 rfl).cell 2
  have y3 : Y.cell? ⟨g10, 3, none⟩ = some (.int .i64 b) := (B6.out.get 1 rfl).cell 3
  have y4 : Y.cell? ⟨g10, 4, none⟩ = some (.int .i64 c) := (B6.out.get 1 rfl).cell 4
  have y5 : Y.cell? ⟨g10, 5, none⟩ = some (.int .i64 imm) := (B6.out.get 1 rfl).cell 5
  have ya : Y.cell? ⟨g5, a.toNat, none⟩ = some (.int .u32 (rg f a)) := ((B6.out.get 4 rfl).cell _).trans (f.at _ (by omega))
  have yb : Y.cell? ⟨g5, b.toNat, none⟩ = some (.int .u32 (rg f b)) := ((B6.out.get 4 rfl).cell _).trans (f.at _ (by omega))
  have yc : Y.cell? ⟨g5, c.toNat, none⟩ = some (.int .u32 (rg f c)) := ((B6.out.get 4 rfl).cell _).trans (f.at _ (by omega))
  go_upto_region 10 with fail
  rw [show imm % 4294967296 = v from HI.out]
  have z15 : Y.cell? ⟨g12, 15, none⟩ = some (.int .u32 f.nx.pc) := ((B6.out.get 0 rfl).cell 15).trans f.nx.at15
  have zf15 := (B6.out.get 0 rfl).free 15
  rcases hh with _ | _
  · go_upto_region 39 with (first | (refine wpList_load_g rfl _ rfl g5 f rfl (B6.out.get 4 rfl) ?_) | (go_at_call 33; refine (HH.out _).mono ?_; rintro e w5 ⟨rfl, hb5⟩; have B65 := hid (B6.out.on hb5); clear hb5))
    go_wp2_with (first | (refine wpList_load_g rfl _ rfl g12 (f.nx) rfl (B65.out.get 0 rfl) ?_) | (refine wpList_store_g rfl _ _ rfl g6 F.zero (f.nx) rfl rfl (B65.out.get 3 rfl) ?_; intro w7 hc hb hs; have C1 := hid (B65.out.put 3 rfl hc hb); clear hc hb hs) | (refine wpList_store_st rfl 42 _ _ rfl g7 (evc 0 0) rfl rfl (C1.out.get 2 rfl) size42 rfl rfl ?_; intro w8 hc hb hs; have C2 := hid (C1.out.put 2 rfl hc hb); clear hc hb hs))
    exact ret_two rfl rfl g6 g7 _ _ rfl rfl (C2.out.get 3 rfl) (C2.out.get 2 rfl) under25 under42 rfl rfl (by rw [size25, F.len]) size42 ⟨by rw [HO.out]; rfl, r, by rw [HO.out]; exact C2.out.st⟩
  · go_upto_region 31 with (first | (refine wpList_load_g rfl _ rfl g5 f rfl (B6.out.get 4 rfl) ?_) | (go_at_call 33; refine (HH.out _).mono ?_; rintro e w5 ⟨rfl, hb5⟩; have B65 := hid (B6.out.on hb5); clear hb5))
    clear z15 zf15 y0 y1 y2 y3 y4 y5 ya yb yc
    have z15 : w5.cell? ⟨g12, 15, none⟩ = some (.int .u32 f.nx.pc) := ((B65.out.get 0 rfl).cell 15).trans f.nx.at15
    have zf15 := (B65.out.get 0 rfl).free 15
    go_upto_region 39 with fail
    have B7 := hid (B65.out.put (x' := w5.setCell ⟨g12, 15, none⟩ (.int .u32 ((f.nx.pc + 4 * v) % 4294967296))) (es := ({ f.nx with pc := (f.nx.pc + 4 * v) % 4294967296 }).cs) 0 rfl (by rw [← f.nx.set15 ((f.nx.pc + 4 * v) % 4294967296)]; exact (B65.out.get 0 rfl).setCell 15 _) (.setCell _ _ _ _ (by simp)))
    simp only [List.set_cons_zero] at B7
    generalize hZZ : World.setCell _ _ _ = Z at *
    clear hZZ
    clear z15 zf15
    go_wp2_with (first | (refine wpList_load_g rfl _ rfl g12 ({ f.nx with pc := (f.nx.pc + 4 * v) % 4294967296 }) rfl (B7.out.get 0 rfl) ?_) | (refine wpList_store_g rfl _ _ rfl g6 F.zero ({ f.nx with pc := (f.nx.pc + 4 * v) % 4294967296 }) rfl rfl (B7.out.get 3 rfl) ?_; intro w7 hc hb hs; have C1 := hid (B7.out.put 3 rfl hc hb); clear hc hb hs) | (refine wpList_store_st rfl 42 _ _ rfl g7 (evc 0 0) rfl rfl (C1.out.get 2 rfl) size42 rfl rfl ?_; intro w8 hc hb hs; have C2 := hid (C1.out.put 2 rfl hc hb); clear hc hb hs))
    exact ret_two rfl rfl g6 g7 _ _ rfl rfl (C2.out.get 3 rfl) (C2.out.get 2 rfl) under25 under42 rfl rfl (by rw [size25, F.len]) size42 ⟨by rw [HO.out]; rfl, r, by rw [HO.out]; exact C2.out.st⟩
theorem rstep_22 (W : World) (hT : Tb W) (r : Rf) (m : MS) (h : RMem W r m) (hU : m.U) (l : Int) (f : F) (hF : f.U) (hlo : ∀ k ∈ r.all, 3 < k) (cond a b c imm : Int) (hE : m.trE l f.pc 2 = 0) (hdE : I.decE (m.fw l f.pc) = 0) (hd : I.dec (m.fw l f.pc) = ⟨22, cond, a, b, c, imm⟩) :
    Calls Tryz.prog 9 #[ptr r.g, .int .i64 l, f.v] W fun x w' => x = .returned (doI (m.fm l f.pc) l f ⟨22, cond, a, b, c, imm⟩).v ∧ ∃ r', RSt W w' r r' (doI (m.fm l f.pc) l f ⟨22, cond, a, b, c, imm⟩).m := by
  have HX := hid (M3.new W r m h f)
  have hw := hU.word (m.trS l f.pc 2) (m.trP l f.pc 2) (m.trO l f.pc 2)
  have HCl : Hid (∀ w, RMem w r m → Calls Tryz.prog 28 #[ptr r.g, .int .i64 l, .int .u32 f.pc, .int .i64 2] w fun x w' => x = .returned (.tuple #[.int .u32 (m.fw l f.pc), .bool true]) ∧ RSt w w' r r (m.fm l f.pc)) := hid (fun w hm => by
    have := rloaded_any w r m hm hU l f.pc 2 hF.p0 hF.p1 (.inr rfl)
    rw [rc_two hE, rm_two hE, hE] at this
    exact this)
  have HDe : Hid (∀ x, ButL r.all W x → Calls Tryz.prog 29 #[.int .u32 (m.fw l f.pc)] x fun e W' => e = .returned (.tuple #[.agg #[.int .i64 22, .int .i64 cond, .int .i64 a, .int .i64 b, .int .i64 c, .int .i64 imm], .int .i64 0]) ∧ Below x.heap.size x W') := hid (fun x hb => by
    have := I.rdecode_any x (hT.but hb hlo).s (hT.but hb hlo).z (m.fw l f.pc) hw.1 hw.2
    rw [hdE, hd] at this
    exact this)
  have hi := (dec_ok hdE).1
  rw [hd] at hi
  obtain ⟨a0, a1, b0, b1, c0, c1⟩ := hi
  simp only at a0 a1 b0 b1 c0 c1
  have ra0 := hF.r a.toNat
  have rb0 := hF.r b.toNat
  have rc0 := hF.r c.toNat
  have HI : Hid (imm % 4294967296 = im ⟨22, cond, a, b, c, imm⟩) := hid rfl
  have hv0 := im_range ⟨22, cond, a, b, c, imm⟩
  have hUm := hU.fm l f.pc
  generalize m.fm l f.pc = m2 at *
  have HO : Hid (doI m2 l f ⟨22, cond, a, b, c, imm⟩ = ⟨{ f.nx.put 14 f.nx.pc with pc := (f.nx.pc + 4 * im ⟨22, cond, a, b, c, imm⟩) % 4294967296 }, 0, 0, m2⟩) := hid rfl
  clear hT h hU hlo hE hdE hd hw
  generalize im ⟨22, cond, a, b, c, imm⟩ = v at *
  generalize m.fw l f.pc = wv at *
  simp only [F.v] at *
  simp only [zg, evc] at HX
  unfold ptr at *
  go_enter Tryz.func9, Tryz.ntmps9
  go_upto_region 1 with fail
  generalize hX : ((W.alloc _).alloc _).alloc _ = X at *
  clear hX
  generalize W.heap.size + 1 + 1 = g7 at *
  generalize W.heap.size + 1 = g6 at *
  generalize W.heap.size = g5 at HX ⊢
  have y15 : X.cell? ⟨g5, 15, none⟩ = some (.int .u32 f.pc) := ((HX.out.get 2 rfl).cell 15).trans f.at15
  go_upto_region 4 with (go_at_call 28; refine (HCl.out _ HX.out.st.mem).mono ?_; rintro e w1 ⟨rfl, hs1⟩; have B1 := hid (HX.out.call hs1); clear hs1)
  clear HX HCl y15
  go_upto_region 5 with (first | (go_at_call 29; refine (HDe.out _ B1.out.st.but).mono ?_; rintro e w2 ⟨rfl, hb2⟩; have B2 := hid ((B1.out.on hb2).box 85 [.int .i64 0, .int .i64 0, .int .i64 0, .int .i64 0, .int .i64 0, .int .i64 0]); clear hb2) | (refine wpList_store_st rfl 85 _ _ rfl w2.heap.size [.int .i64 22, .int .i64 cond, .int .i64 a, .int .i64 b, .int .i64 c, .int .i64 imm] rfl rfl (B2.out.get 0 rfl) size85r rfl rfl ?_; intro w3 hc3 hb3 hs3; have B3 := hid (B2.out.put 0 rfl hc3 hb3); clear hc3 hb3 hs3))
  clear B1 B2 HDe
  simp only [List.set_cons_zero] at B3
  generalize w2.heap.size = g10 at *
  go_upto_region 7 with fail
  have B4 := hid (B3.out.box 34 F.zero.cs)
  go_upto_region 8 with (first | (refine wpList_load_g rfl _ rfl g5 f rfl (B3.out.get 3 rfl) ?_) | (refine wpList_store_g rfl _ _ rfl w3.heap.size F.zero f rfl rfl (zg_new w3) ?_; intro w4 hc4 hb4 hs4; have B5 := hid (B4.out.put 0 rfl hc4 (zg_but hb4)); clear hc4 hb4 hs4))
  clear B3 B4
  simp only [List.set_cons_zero] at B5
  generalize w3.heap.size = g12 at *
  have y15 : w4.cell? ⟨g5, 15, none⟩ = some (.int .u32 f.pc) := ((B5.out.get 4 rfl).cell 15).trans f.at15
  have z15 : w4.cell? ⟨g12, 15, none⟩ = some (.int .u32 f.pc) := ((B5.out.get 0 rfl).cell 15).trans f.at15
  have zf15 := (B5.out.get 0 rfl).free 15
  go_upto_region 9 with fail
  have B6 := hid (B5.out.put (x' := w4.setCell ⟨g12, 15, none⟩ (.int .u32 ((f.pc + 4) % 4294967296))) (es := f.nx.cs) 0 rfl (by rw [show f.nx.cs = f.cs.set 15 (.int .u32 ((f.pc + 4) % 4294967296)) from (f.set15 _).symm]; exact (B5.out.get 0 rfl).setCell 15 _) (.setCell _ _ _ _ (by simp)))
  simp only [List.set_cons_zero] at B6
  generalize hY : World.setCell _ _ _ = Y at *
  clear hY B5 y15 z15 zf15
  have y0 : Y.cell? ⟨g10, 0, none⟩ = some (.int .i64 22) := (B6.out.get 1 rfl).cell 0
  have y1 : Y.cell? ⟨g10, 1, none⟩ = some (.int .i64 cond) := (B6.out.get 1 rfl).cell 1
  have y2 : Y.cell? ⟨g10, 2, none⟩ = some (.int .i64 a) := (B6.out.get 1 rfl).cell 2
  have y3 : Y.cell? ⟨g10, 3, none⟩ = some (.int .i64 b) := (B6.out.get 1 rfl).cell 3
  have y4 : Y.cell? ⟨g10, 4, none⟩ = some (.int .i64 c) := (B6.out.get 1 rfl).cell 4
  have y5 : Y.cell? ⟨g10, 5, none⟩ = some (.int .i64 imm) := (B6.out.get 1 rfl).cell 5
  have ya : Y.cell? ⟨g5, a.toNat, none⟩ = some (.int .u32 (rg f a)) := ((B6.out.get 4 rfl).cell _).trans (f.at _ (by omega))
  have yb : Y.cell? ⟨g5, b.toNat, none⟩ = some (.int .u32 (rg f b)) := ((B6.out.get 4 rfl).cell _).trans (f.at _ (by omega))
  have yc : Y.cell? ⟨g5, c.toNat, none⟩ = some (.int .u32 (rg f c)) := ((B6.out.get 4 rfl).cell _).trans (f.at _ (by omega))
  go_upto_region 10 with fail
  rw [show imm % 4294967296 = v from HI.out]
  have z15 : Y.cell? ⟨g12, 15, none⟩ = some (.int .u32 f.nx.pc) := ((B6.out.get 0 rfl).cell 15).trans f.nx.at15
  have zf15 := (B6.out.get 0 rfl).free 15
  have z14 : Y.cell? ⟨g12, 14, none⟩ = some (.int .u32 (f.nx.r 14)) := ((B6.out.get 0 rfl).cell 14).trans (f.nx.at 14 (by decide))
  have zf14 := (B6.out.get 0 rfl).free 14
  go_upto_region 34 with fail
  have B7 := hid (B6.out.put (x' := Y.setCell ⟨g12, 14, none⟩ (.int .u32 (f.nx.pc))) (es := (f.nx.put 14 f.nx.pc).cs) 0 rfl (by rw [← f.nx.set 14 (by decide) f.nx.pc]; exact (B6.out.get 0 rfl).setCell 14 _) (.setCell _ _ _ _ (by simp)))
  simp only [List.set_cons_zero] at B7
  generalize hZZ : World.setCell _ _ _ = Z at *
  clear hZZ
  clear z15 zf15 z14 zf14 y0 y1 y2 y3 y4 y5 ya yb yc
  have z15 : Z.cell? ⟨g12, 15, none⟩ = some (.int .u32 f.nx.pc) := ((B7.out.get 0 rfl).cell 15).trans (f.nx.put 14 f.nx.pc).at15
  have zf15 := (B7.out.get 0 rfl).free 15
  go_upto_region 39 with fail
  have B8 := hid (B7.out.put (x' := Z.setCell ⟨g12, 15, none⟩ (.int .u32 ((f.nx.pc + 4 * v) % 4294967296))) (es := ({ f.nx.put 14 f.nx.pc with pc := (f.nx.pc + 4 * v) % 4294967296 }).cs) 0 rfl (by rw [← (f.nx.put 14 f.nx.pc).set15 ((f.nx.pc + 4 * v) % 4294967296)]; exact (B7.out.get 0 rfl).setCell 15 _) (.setCell _ _ _ _ (by simp)))
  simp only [List.set_cons_zero] at B8
  generalize hZZ2 : World.setCell _ _ _ = Z2 at *
  clear hZZ2
  clear z15 zf15
  go_wp2_with (first | (refine wpList_load_g rfl _ rfl g12 ({ f.nx.put 14 f.nx.pc with pc := (f.nx.pc + 4 * v) % 4294967296 }) rfl (B8.out.get 0 rfl) ?_) | (refine wpList_store_g rfl _ _ rfl g6 F.zero ({ f.nx.put 14 f.nx.pc with pc := (f.nx.pc + 4 * v) % 4294967296 }) rfl rfl (B8.out.get 3 rfl) ?_; intro w7 hc hb hs; have C1 := hid (B8.out.put 3 rfl hc hb); clear hc hb hs) | (refine wpList_store_st rfl 42 _ _ rfl g7 (evc 0 0) rfl rfl (C1.out.get 2 rfl) size42 rfl rfl ?_; intro w8 hc hb hs; have C2 := hid (C1.out.put 2 rfl hc hb); clear hc hb hs))
  exact ret_two rfl rfl g6 g7 _ _ rfl rfl (C2.out.get 3 rfl) (C2.out.get 2 rfl) under25 under42 rfl rfl (by rw [size25, F.len]) size42 ⟨by rw [HO.out]; rfl, r, by rw [HO.out]; exact C2.out.st⟩
theorem rstep_23 (W : World) (hT : Tb W) (r : Rf) (m : MS) (h : RMem W r m) (hU : m.U) (l : Int) (f : F) (hF : f.U) (hlo : ∀ k ∈ r.all, 3 < k) (cond a b c imm : Int) (hE : m.trE l f.pc 2 = 0) (hdE : I.decE (m.fw l f.pc) = 0) (hd : I.dec (m.fw l f.pc) = ⟨23, cond, a, b, c, imm⟩) :
    Calls Tryz.prog 9 #[ptr r.g, .int .i64 l, f.v] W fun x w' => x = .returned (doI (m.fm l f.pc) l f ⟨23, cond, a, b, c, imm⟩).v ∧ ∃ r', RSt W w' r r' (doI (m.fm l f.pc) l f ⟨23, cond, a, b, c, imm⟩).m := by
  have HX := hid (M3.new W r m h f)
  have hw := hU.word (m.trS l f.pc 2) (m.trP l f.pc 2) (m.trO l f.pc 2)
  have HCl : Hid (∀ w, RMem w r m → Calls Tryz.prog 28 #[ptr r.g, .int .i64 l, .int .u32 f.pc, .int .i64 2] w fun x w' => x = .returned (.tuple #[.int .u32 (m.fw l f.pc), .bool true]) ∧ RSt w w' r r (m.fm l f.pc)) := hid (fun w hm => by
    have := rloaded_any w r m hm hU l f.pc 2 hF.p0 hF.p1 (.inr rfl)
    rw [rc_two hE, rm_two hE, hE] at this
    exact this)
  have HDe : Hid (∀ x, ButL r.all W x → Calls Tryz.prog 29 #[.int .u32 (m.fw l f.pc)] x fun e W' => e = .returned (.tuple #[.agg #[.int .i64 23, .int .i64 cond, .int .i64 a, .int .i64 b, .int .i64 c, .int .i64 imm], .int .i64 0]) ∧ Below x.heap.size x W') := hid (fun x hb => by
    have := I.rdecode_any x (hT.but hb hlo).s (hT.but hb hlo).z (m.fw l f.pc) hw.1 hw.2
    rw [hdE, hd] at this
    exact this)
  have hi := (dec_ok hdE).1
  rw [hd] at hi
  obtain ⟨a0, a1, b0, b1, c0, c1⟩ := hi
  simp only at a0 a1 b0 b1 c0 c1
  have ra0 := hF.r a.toNat
  have rb0 := hF.r b.toNat
  have rc0 := hF.r c.toNat
  have HI : Hid (imm % 4294967296 = im ⟨23, cond, a, b, c, imm⟩) := hid rfl
  have hv0 := im_range ⟨23, cond, a, b, c, imm⟩
  have hUm := hU.fm l f.pc
  generalize m.fm l f.pc = m2 at *
  have HO : Hid (doI m2 l f ⟨23, cond, a, b, c, imm⟩ = ⟨{ f.nx with pc := rg f a }, 0, 0, m2⟩) := hid rfl
  clear hT h hU hlo hE hdE hd hw
  generalize im ⟨23, cond, a, b, c, imm⟩ = v at *
  generalize m.fw l f.pc = wv at *
  simp only [F.v] at *
  simp only [zg, evc] at HX
  unfold ptr at *
  go_enter Tryz.func9, Tryz.ntmps9
  go_upto_region 1 with fail
  generalize hX : ((W.alloc _).alloc _).alloc _ = X at *
  clear hX
  generalize W.heap.size + 1 + 1 = g7 at *
  generalize W.heap.size + 1 = g6 at *
  generalize W.heap.size = g5 at HX ⊢
  have y15 : X.cell? ⟨g5, 15, none⟩ = some (.int .u32 f.pc) := ((HX.out.get 2 rfl).cell 15).trans f.at15
  go_upto_region 4 with (go_at_call 28; refine (HCl.out _ HX.out.st.mem).mono ?_; rintro e w1 ⟨rfl, hs1⟩; have B1 := hid (HX.out.call hs1); clear hs1)
  clear HX HCl y15
  go_upto_region 5 with (first | (go_at_call 29; refine (HDe.out _ B1.out.st.but).mono ?_; rintro e w2 ⟨rfl, hb2⟩; have B2 := hid ((B1.out.on hb2).box 85 [.int .i64 0, .int .i64 0, .int .i64 0, .int .i64 0, .int .i64 0, .int .i64 0]); clear hb2) | (refine wpList_store_st rfl 85 _ _ rfl w2.heap.size [.int .i64 23, .int .i64 cond, .int .i64 a, .int .i64 b, .int .i64 c, .int .i64 imm] rfl rfl (B2.out.get 0 rfl) size85r rfl rfl ?_; intro w3 hc3 hb3 hs3; have B3 := hid (B2.out.put 0 rfl hc3 hb3); clear hc3 hb3 hs3))
  clear B1 B2 HDe
  simp only [List.set_cons_zero] at B3
  generalize w2.heap.size = g10 at *
  go_upto_region 7 with fail
  have B4 := hid (B3.out.box 34 F.zero.cs)
  go_upto_region 8 with (first | (refine wpList_load_g rfl _ rfl g5 f rfl (B3.out.get 3 rfl) ?_) | (refine wpList_store_g rfl _ _ rfl w3.heap.size F.zero f rfl rfl (zg_new w3) ?_; intro w4 hc4 hb4 hs4; have B5 := hid (B4.out.put 0 rfl hc4 (zg_but hb4)); clear hc4 hb4 hs4))
  clear B3 B4
  simp only [List.set_cons_zero] at B5
  generalize w3.heap.size = g12 at *
  have y15 : w4.cell? ⟨g5, 15, none⟩ = some (.int .u32 f.pc) := ((B5.out.get 4 rfl).cell 15).trans f.at15
  have z15 : w4.cell? ⟨g12, 15, none⟩ = some (.int .u32 f.pc) := ((B5.out.get 0 rfl).cell 15).trans f.at15
  have zf15 := (B5.out.get 0 rfl).free 15
  go_upto_region 9 with fail
  have B6 := hid (B5.out.put (x' := w4.setCell ⟨g12, 15, none⟩ (.int .u32 ((f.pc + 4) % 4294967296))) (es := f.nx.cs) 0 rfl (by rw [show f.nx.cs = f.cs.set 15 (.int .u32 ((f.pc + 4) % 4294967296)) from (f.set15 _).symm]; exact (B5.out.get 0 rfl).setCell 15 _) (.setCell _ _ _ _ (by simp)))
  simp only [List.set_cons_zero] at B6
  generalize hY : World.setCell _ _ _ = Y at *
  clear hY B5 y15 z15 zf15
  have y0 : Y.cell? ⟨g10, 0, none⟩ = some (.int .i64 23) := (B6.out.get 1 rfl).cell 0
  have y1 : Y.cell? ⟨g10, 1, none⟩ = some (.int .i64 cond) := (B6.out.get 1 rfl).cell 1
  have y2 : Y.cell? ⟨g10, 2, none⟩ = some (.int .i64 a) := (B6.out.get 1 rfl).cell 2
  have y3 : Y.cell? ⟨g10, 3, none⟩ = some (.int .i64 b) := (B6.out.get 1 rfl).cell 3
  have y4 : Y.cell? ⟨g10, 4, none⟩ = some (.int .i64 c) := (B6.out.get 1 rfl).cell 4
  have y5 : Y.cell? ⟨g10, 5, none⟩ = some (.int .i64 imm) := (B6.out.get 1 rfl).cell 5
  have ya : Y.cell? ⟨g5, a.toNat, none⟩ = some (.int .u32 (rg f a)) := ((B6.out.get 4 rfl).cell _).trans (f.at _ (by omega))
  have yb : Y.cell? ⟨g5, b.toNat, none⟩ = some (.int .u32 (rg f b)) := ((B6.out.get 4 rfl).cell _).trans (f.at _ (by omega))
  have yc : Y.cell? ⟨g5, c.toNat, none⟩ = some (.int .u32 (rg f c)) := ((B6.out.get 4 rfl).cell _).trans (f.at _ (by omega))
  go_upto_region 10 with fail
  rw [show imm % 4294967296 = v from HI.out]
  have z15 : Y.cell? ⟨g12, 15, none⟩ = some (.int .u32 f.nx.pc) := ((B6.out.get 0 rfl).cell 15).trans f.nx.at15
  have zf15 := (B6.out.get 0 rfl).free 15
  go_upto_region 39 with fail
  have B7 := hid (B6.out.put (x' := Y.setCell ⟨g12, 15, none⟩ (.int .u32 (rg f a))) (es := ({ f.nx with pc := rg f a }).cs) 0 rfl (by rw [← f.nx.set15 (rg f a)]; exact (B6.out.get 0 rfl).setCell 15 _) (.setCell _ _ _ _ (by simp)))
  simp only [List.set_cons_zero] at B7
  generalize hZZ : World.setCell _ _ _ = Z at *
  clear hZZ
  clear z15 zf15 y0 y1 y2 y3 y4 y5 ya yb yc
  go_wp2_with (first | (refine wpList_load_g rfl _ rfl g12 ({ f.nx with pc := rg f a }) rfl (B7.out.get 0 rfl) ?_) | (refine wpList_store_g rfl _ _ rfl g6 F.zero ({ f.nx with pc := rg f a }) rfl rfl (B7.out.get 3 rfl) ?_; intro w7 hc hb hs; have C1 := hid (B7.out.put 3 rfl hc hb); clear hc hb hs) | (refine wpList_store_st rfl 42 _ _ rfl g7 (evc 0 0) rfl rfl (C1.out.get 2 rfl) size42 rfl rfl ?_; intro w8 hc hb hs; have C2 := hid (C1.out.put 2 rfl hc hb); clear hc hb hs))
  exact ret_two rfl rfl g6 g7 _ _ rfl rfl (C2.out.get 3 rfl) (C2.out.get 2 rfl) under25 under42 rfl rfl (by rw [size25, F.len]) size42 ⟨by rw [HO.out]; rfl, r, by rw [HO.out]; exact C2.out.st⟩
theorem rstep_24 (W : World) (hT : Tb W) (r : Rf) (m : MS) (h : RMem W r m) (hU : m.U) (l : Int) (f : F) (hF : f.U) (hlo : ∀ k ∈ r.all, 3 < k) (cond a b c imm : Int) (hE : m.trE l f.pc 2 = 0) (hdE : I.decE (m.fw l f.pc) = 0) (hd : I.dec (m.fw l f.pc) = ⟨24, cond, a, b, c, imm⟩) :
    Calls Tryz.prog 9 #[ptr r.g, .int .i64 l, f.v] W fun x w' => x = .returned (doI (m.fm l f.pc) l f ⟨24, cond, a, b, c, imm⟩).v ∧ ∃ r', RSt W w' r r' (doI (m.fm l f.pc) l f ⟨24, cond, a, b, c, imm⟩).m := by
  have HX := hid (M3.new W r m h f)
  have hw := hU.word (m.trS l f.pc 2) (m.trP l f.pc 2) (m.trO l f.pc 2)
  have HCl : Hid (∀ w, RMem w r m → Calls Tryz.prog 28 #[ptr r.g, .int .i64 l, .int .u32 f.pc, .int .i64 2] w fun x w' => x = .returned (.tuple #[.int .u32 (m.fw l f.pc), .bool true]) ∧ RSt w w' r r (m.fm l f.pc)) := hid (fun w hm => by
    have := rloaded_any w r m hm hU l f.pc 2 hF.p0 hF.p1 (.inr rfl)
    rw [rc_two hE, rm_two hE, hE] at this
    exact this)
  have HDe : Hid (∀ x, ButL r.all W x → Calls Tryz.prog 29 #[.int .u32 (m.fw l f.pc)] x fun e W' => e = .returned (.tuple #[.agg #[.int .i64 24, .int .i64 cond, .int .i64 a, .int .i64 b, .int .i64 c, .int .i64 imm], .int .i64 0]) ∧ Below x.heap.size x W') := hid (fun x hb => by
    have := I.rdecode_any x (hT.but hb hlo).s (hT.but hb hlo).z (m.fw l f.pc) hw.1 hw.2
    rw [hdE, hd] at this
    exact this)
  have hi := (dec_ok hdE).1
  rw [hd] at hi
  obtain ⟨a0, a1, b0, b1, c0, c1⟩ := hi
  simp only at a0 a1 b0 b1 c0 c1
  have ra0 := hF.r a.toNat
  have rb0 := hF.r b.toNat
  have rc0 := hF.r c.toNat
  have HI : Hid (imm % 4294967296 = im ⟨24, cond, a, b, c, imm⟩) := hid rfl
  have hv0 := im_range ⟨24, cond, a, b, c, imm⟩
  have hUm := hU.fm l f.pc
  generalize m.fm l f.pc = m2 at *
  have HO : Hid (doI m2 l f ⟨24, cond, a, b, c, imm⟩ = ⟨f.nx, 1, im ⟨24, cond, a, b, c, imm⟩, m2⟩) := hid rfl
  clear hT h hU hlo hE hdE hd hw
  generalize im ⟨24, cond, a, b, c, imm⟩ = v at *
  generalize m.fw l f.pc = wv at *
  simp only [F.v] at *
  simp only [zg, evc] at HX
  unfold ptr at *
  go_enter Tryz.func9, Tryz.ntmps9
  go_upto_region 1 with fail
  generalize hX : ((W.alloc _).alloc _).alloc _ = X at *
  clear hX
  generalize W.heap.size + 1 + 1 = g7 at *
  generalize W.heap.size + 1 = g6 at *
  generalize W.heap.size = g5 at HX ⊢
  have y15 : X.cell? ⟨g5, 15, none⟩ = some (.int .u32 f.pc) := ((HX.out.get 2 rfl).cell 15).trans f.at15
  go_upto_region 4 with (go_at_call 28; refine (HCl.out _ HX.out.st.mem).mono ?_; rintro e w1 ⟨rfl, hs1⟩; have B1 := hid (HX.out.call hs1); clear hs1)
  clear HX HCl y15
  go_upto_region 5 with (first | (go_at_call 29; refine (HDe.out _ B1.out.st.but).mono ?_; rintro e w2 ⟨rfl, hb2⟩; have B2 := hid ((B1.out.on hb2).box 85 [.int .i64 0, .int .i64 0, .int .i64 0, .int .i64 0, .int .i64 0, .int .i64 0]); clear hb2) | (refine wpList_store_st rfl 85 _ _ rfl w2.heap.size [.int .i64 24, .int .i64 cond, .int .i64 a, .int .i64 b, .int .i64 c, .int .i64 imm] rfl rfl (B2.out.get 0 rfl) size85r rfl rfl ?_; intro w3 hc3 hb3 hs3; have B3 := hid (B2.out.put 0 rfl hc3 hb3); clear hc3 hb3 hs3))
  clear B1 B2 HDe
  simp only [List.set_cons_zero] at B3
  generalize w2.heap.size = g10 at *
  go_upto_region 7 with fail
  have B4 := hid (B3.out.box 34 F.zero.cs)
  go_upto_region 8 with (first | (refine wpList_load_g rfl _ rfl g5 f rfl (B3.out.get 3 rfl) ?_) | (refine wpList_store_g rfl _ _ rfl w3.heap.size F.zero f rfl rfl (zg_new w3) ?_; intro w4 hc4 hb4 hs4; have B5 := hid (B4.out.put 0 rfl hc4 (zg_but hb4)); clear hc4 hb4 hs4))
  clear B3 B4
  simp only [List.set_cons_zero] at B5
  generalize w3.heap.size = g12 at *
  have y15 : w4.cell? ⟨g5, 15, none⟩ = some (.int .u32 f.pc) := ((B5.out.get 4 rfl).cell 15).trans f.at15
  have z15 : w4.cell? ⟨g12, 15, none⟩ = some (.int .u32 f.pc) := ((B5.out.get 0 rfl).cell 15).trans f.at15
  have zf15 := (B5.out.get 0 rfl).free 15
  go_upto_region 9 with fail
  have B6 := hid (B5.out.put (x' := w4.setCell ⟨g12, 15, none⟩ (.int .u32 ((f.pc + 4) % 4294967296))) (es := f.nx.cs) 0 rfl (by rw [show f.nx.cs = f.cs.set 15 (.int .u32 ((f.pc + 4) % 4294967296)) from (f.set15 _).symm]; exact (B5.out.get 0 rfl).setCell 15 _) (.setCell _ _ _ _ (by simp)))
  simp only [List.set_cons_zero] at B6
  generalize hY : World.setCell _ _ _ = Y at *
  clear hY B5 y15 z15 zf15
  have y0 : Y.cell? ⟨g10, 0, none⟩ = some (.int .i64 24) := (B6.out.get 1 rfl).cell 0
  have y1 : Y.cell? ⟨g10, 1, none⟩ = some (.int .i64 cond) := (B6.out.get 1 rfl).cell 1
  have y2 : Y.cell? ⟨g10, 2, none⟩ = some (.int .i64 a) := (B6.out.get 1 rfl).cell 2
  have y3 : Y.cell? ⟨g10, 3, none⟩ = some (.int .i64 b) := (B6.out.get 1 rfl).cell 3
  have y4 : Y.cell? ⟨g10, 4, none⟩ = some (.int .i64 c) := (B6.out.get 1 rfl).cell 4
  have y5 : Y.cell? ⟨g10, 5, none⟩ = some (.int .i64 imm) := (B6.out.get 1 rfl).cell 5
  have ya : Y.cell? ⟨g5, a.toNat, none⟩ = some (.int .u32 (rg f a)) := ((B6.out.get 4 rfl).cell _).trans (f.at _ (by omega))
  have yb : Y.cell? ⟨g5, b.toNat, none⟩ = some (.int .u32 (rg f b)) := ((B6.out.get 4 rfl).cell _).trans (f.at _ (by omega))
  have yc : Y.cell? ⟨g5, c.toNat, none⟩ = some (.int .u32 (rg f c)) := ((B6.out.get 4 rfl).cell _).trans (f.at _ (by omega))
  go_upto_region 10 with fail
  rw [show imm % 4294967296 = v from HI.out]
  go_wp2_with (first | (refine wpList_load_g rfl _ rfl g12 (f.nx) rfl (B6.out.get 0 rfl) ?_) | (refine wpList_store_g rfl _ _ rfl g6 F.zero (f.nx) rfl rfl (B6.out.get 3 rfl) ?_; intro w7 hc hb hs; have C1 := hid (B6.out.put 3 rfl hc hb); clear hc hb hs) | (refine wpList_store_st rfl 42 _ _ rfl g7 (evc 1 v) rfl rfl (C1.out.get 2 rfl) size42 rfl rfl ?_; intro w8 hc hb hs; have C2 := hid (C1.out.put 2 rfl hc hb); clear hc hb hs))
  exact ret_two rfl rfl g6 g7 _ _ rfl rfl (C2.out.get 3 rfl) (C2.out.get 2 rfl) under25 under42 rfl rfl (by rw [size25, F.len]) size42 ⟨by rw [HO.out]; rfl, r, by rw [HO.out]; exact C2.out.st⟩
end Go.Proofs.YteldpapacdbbiaaGreatDoor
