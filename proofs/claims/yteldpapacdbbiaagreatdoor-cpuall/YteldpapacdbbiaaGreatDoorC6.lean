/- cpu's Step 11. -/
import Derived.Test.YteldpapacdbbiaaGreatDoorC5
namespace Go.Proofs.YteldpapacdbbiaaGreatDoor
open Go.RowKit
set_option maxHeartbeats 8000000
set_option maxRecDepth 100000
attribute [-simp] Tryz.isAgg26 Tryz.sizeOf26 Tryz.isAgg24
theorem dec_ok {w : Int} (h : I.decE w = 0) : IOk (I.dec w) ∧ 1 ≤ (I.dec w).op ∧ (I.dec w).op ≤ 24 := by
  obtain ⟨n, h1, h2, h3, h4, h5⟩ := I.chk_zero (I.dec_yes h).2
  obtain ⟨a0, a1, b0, b1, c0, c1, _⟩ := I.good_bounds h4 h5
  exact ⟨⟨a0, by omega, b0, by omega, c0, by omega⟩, by omega, by omega⟩
theorem ad_range (f : F) (i : Ins) : 0 ≤ ad f i ∧ ad f i < 4294967296 := by unfold ad; split <;> omega
def MS.fw (m : MS) (l pc : Int) : Int := m.word (m.trS l pc 2) (m.trP l pc 2) (m.trO l pc 2)
def MS.fm (m : MS) (l pc : Int) : MS := (m.wkS l pc).read (m.trS l pc 2) (m.trP l pc 2) (m.trO l pc 2)
theorem MS.U.fm {m : MS} (h : m.U) (l pc : Int) : (m.fm l pc).U := (h.wkS l pc).read _ _ _
/-- One instruction. -/
def stp (m : MS) (l : Int) (f : F) : Out :=
  if m.trE l f.pc 2 = 0 then
    (if I.decE (m.fw l f.pc) = 0 then doI (m.fm l f.pc) l f (I.dec (m.fw l f.pc)) else ⟨f, 2, m.fw l f.pc, m.fm l f.pc⟩)
  else ⟨f, 3, f.pc, m.wkS l f.pc⟩
structure SM (W x : World) (g5 g6 g7 : Nat) (fp : Fp) (m : MS) (f : F) : Prop where
  rd : Rd W x fp m
  cf : Cel x g5 26 f.cs
  c6 : Cel x g6 26 F.zero.cs
  c7 : Cel x g7 38 (evc 0 0)
  l5 : W.heap.size ≤ g5
  l6 : W.heap.size ≤ g6
  l7 : W.heap.size ≤ g7
  n : g5 ≠ g6
theorem SM.on {W x x' : World} {g5 g6 g7 : Nat} {fp : Fp} {m : MS} {f : F} (d : SM W x g5 g6 g7 fp m f) (hb : Below x.heap.size x x') : SM W x' g5 g6 g7 fp m f :=
  ⟨d.rd.on hb, d.cf.on hb, d.c6.on hb, d.c7.on hb, d.l5, d.l6, d.l7, d.n⟩
theorem SM.step {W x x' : World} {g5 g6 g7 : Nat} {fp : Fp} {m m' : MS} {f : F} (d : SM W x g5 g6 g7 fp m f) (hm : Mem x' fp m') (hb : ButL fp.w x x') : SM W x' g5 g6 g7 fp m' f :=
  ⟨d.rd.step hm hb, d.cf.but hb (d.rd.new d.l5), d.c6.but hb (d.rd.new d.l6), d.c7.but hb (d.rd.new d.l7), d.l5, d.l6, d.l7, d.n⟩
theorem SM.seven {W x x' : World} {g5 g6 g7 : Nat} {fp : Fp} {m : MS} {f : F} (d : SM W x g5 g6 g7 fp m f) (hb : ButL [g6] x x') : Cel x' g7 38 (evc 0 0) := d.c7.but hb (by simpa using d.c7.ne d.c6 (by decide))
theorem SM.cf6 {W x x' : World} {g5 g6 g7 : Nat} {fp : Fp} {m : MS} {f : F} (d : SM W x g5 g6 g7 fp m f) (hb : ButL [g6] x x') : Cel x' g5 26 f.cs := d.cf.but hb (by simpa using d.n)
theorem SM.cf7 {W x x' x2 : World} {g5 g6 g7 : Nat} {fp : Fp} {m : MS} {f : F} (d : SM W x g5 g6 g7 fp m f) (hb : ButL [g6] x x') (hb2 : ButL [g7] x' x2) : Cel x2 g5 26 f.cs := (d.cf6 hb).but hb2 (by simpa using d.cf.ne d.c7 (by decide))
theorem SM.out {W x x1 x2 : World} {g5 g6 g7 : Nat} {fp : Fp} {m : MS} {f r : F} {es : List Value} (d : SM W x g5 g6 g7 fp m f) (hc6 : Cel x1 g6 26 r.cs) (hb6 : ButL [g6] x x1) (hc7 : Cel x2 g7 38 es) (hb7 : ButL [g7] x1 x2) : Cel x2 g6 26 r.cs ∧ Cel x2 g7 38 es ∧ Rd W x2 fp m :=
  ⟨hc6.but hb7 (by simpa using (d.c7.ne d.c6 (by decide)).symm), hc7, (d.rd.set hb6 d.l6).set hb7 d.l7⟩
theorem SM.new (W : World) (fp : Fp) (m : MS) (hm : Mem W fp m) (f : F) : SM W (((W.alloc (.cells f.cs.toArray 26)).alloc zf).alloc (.cells (evc 0 0).toArray 38)) W.heap.size (W.heap.size + 1) (W.heap.size + 1 + 1) fp m f := by
  have hz : zf = .cells F.zero.cs.toArray 26 := by unfold zf; rw [zc]
  rw [hz]
  have h2 := Cel.new (W.alloc (.cells f.cs.toArray 26)) 26 F.zero.cs
  have h9 := Cel.new ((W.alloc (.cells f.cs.toArray 26)).alloc (.cells F.zero.cs.toArray 26)) 38 (evc 0 0)
  rw [World.size_alloc] at h2
  rw [World.size_alloc, World.size_alloc] at h9
  exact ⟨(((Rd.start hm).on (below_one _ _)).on (below_one _ _)).on (below_one _ _), ((Cel.new W 26 f.cs).on (below_one _ _)).on (below_one _ _), h2.on (below_one _ _), h9, Nat.le_refl _, by omega, by omega, by omega⟩
theorem step_any (W : World) (hT : Tb W) (fp : Fp) (m : MS) (hM : Mem W fp m) (hU : m.U) (l : Int) (f : F) (hF : f.U) (hlo : ∀ k ∈ fp.w, 3 < k) :
    Calls Tryz.prog 8 #[ptr fp.gm, .int .i64 l, f.v] W fun x w' => x = .returned (stp m l f).v ∧ Rd W w' fp (stp m l f).m := by
  have HX := hid (SM.new W fp m hM f)
  have HT := hid (fun w (hm : Mem w fp m) => translate_any w fp m hm hU l f.pc 2 hF.p0 hF.p1)
  have HR := hid (fun w (hm : Mem w fp (m.wkS l f.pc)) => read_any w fp (m.wkS l f.pc) hm (m.trS l f.pc 2) (m.trP l f.pc 2) (m.trO l f.pc 2))
  have hw := hU.word (m.trS l f.pc 2) (m.trP l f.pc 2) (m.trO l f.pc 2)
  have HDe := hid (fun x (hb : ButL fp.w W x) => I.decode_any x (hT.but hb hlo).f (hT.but hb hlo).t (hT.but hb hlo).z (m.fw l f.pc) hw.1 hw.2)
  have HDo := hid (fun x (hb : ButL fp.w W x) (hm : Mem x fp (m.fm l f.pc)) (he : I.decE (m.fw l f.pc) = 0) => do_any x (hT.but hb hlo) fp (m.fm l f.pc) hm (hU.fm l f.pc) l f hF (I.dec (m.fw l f.pc)) (dec_ok he).1 (dec_ok he).2.1 (dec_ok he).2.2 (ad_range _ _) hlo)
  rw [MS.wkS_err, MS.wkS_word] at HR
  rw [show m.word (m.trS l f.pc 2) (m.trP l f.pc 2) (m.trO l f.pc 2) = m.fw l f.pc from rfl, show (m.wkS l f.pc).read (m.trS l f.pc 2) (m.trP l f.pc 2) (m.trO l f.pc 2) = m.fm l f.pc from rfl] at HR
  clear hT hM hU hF hlo hw
  generalize hs : stp m l f = O at *
  have HS := hid hs
  clear hs
  unfold stp at HS
  generalize m.fw l f.pc = wv at *
  generalize m.fm l f.pc = m2 at *
  generalize m.wkS l f.pc = m1 at *
  generalize m.trE l f.pc 2 = te at *
  generalize m.trS l f.pc 2 = ts at *
  generalize m.trP l f.pc 2 = tp at *
  generalize m.trO l f.pc 2 = tof at *
  generalize m.err ts tp tof = er at *
  generalize I.decE wv = de at *
  generalize hdi : I.dec wv = di at *
  clear hdi
  obtain ⟨op, cond, a, b, c, imm⟩ := di
  simp only [I.Ins.v, F.v] at *
  simp only [zf, evc] at HX
  unfold ptr fr at *
  go_enter Tryz.func8, Tryz.ntmps8
  go_upto_region 1 with fail
  generalize hX : ((W.alloc _).alloc _).alloc _ = X at *
  clear hX
  generalize W.heap.size + 1 + 1 = g7 at *
  generalize W.heap.size + 1 = g6 at *
  generalize hg : W.heap.size = g5 at *
  have y15 := (HX.out.cf.cell 15).trans f.at15
  go_wp2_with fail
  refine (HT.out _ HX.out.rd.mem).mono ?_
  rintro e w1 ⟨rfl, hr1⟩
  have HM1 := hid ((HX.out.step hr1.mem hr1.but).on (below_one _ (.cells #[.bool ts, .int .i64 tp] 59)))
  have C8 := hid (Cel.new w1 59 [.bool ts, .int .i64 tp])
  have L8 : Hid (g5 ≤ w1.heap.size) := hid (by rw [← hg]; exact (HX.out.rd.step hr1.mem hr1.but).but.size)
  clear hr1 HX HT y15
  go_upto_region 2 with fail
  generalize hX1 : World.alloc _ _ = X1 at *
  clear hX1
  generalize w1.heap.size = g8 at *
  by_cases te0 : te = 0
  · subst te0
    have r0 := C8.out.cell 0
    have r1 := C8.out.cell 1
    simp only [List.getElem?_cons_zero, List.getElem?_cons_succ] at r0 r1
    go_wp2_with fail
    refine (HR.out _ HM1.out.rd.mem).mono ?_
    rintro e w2 ⟨rfl, hm2, hb2⟩
    have HM2 := hid (HM1.out.step hm2 hb2)
    clear hm2 hb2 HM1 HR r0 r1 C8 L8
    go_wp2_with fail
    refine (HDe.out _ HM2.out.rd.but).mono ?_
    rintro e w3 ⟨rfl, hb3⟩
    have HM3 := hid ((HM2.out.on hb3).on (below_one _ (.cells #[.int .i64 op, .int .i64 cond, .int .i64 a, .int .i64 b, .int .i64 c, .int .i32 imm] 78)))
    have C13 := hid (Cel.new w3 78 [.int .i64 op, .int .i64 cond, .int .i64 a, .int .i64 b, .int .i64 c, .int .i32 imm])
    clear hb3 HM2 HDe
    go_upto_region 6 with fail
    generalize hX3 : World.alloc _ _ = X3 at *
    clear hX3
    generalize w3.heap.size = g13 at *
    by_cases de0 : de = 0
    · subst de0
      obtain ⟨q0, q1, q2, q3, q4, q5⟩ := cel6 (i := ⟨op, cond, a, b, c, imm⟩) C13.out
      simp only at q0 q1 q2 q3 q4 q5
      have HDo1 := hid (HDo.out _ HM3.out.rd.but HM3.out.rd.mem rfl)
      generalize doI m2 l f _ = o2 at *
      clear HDo
      go_upto_region 8 with fail
      go_wp2_with (first | (refine wpList_load_f rfl _ rfl g5 f rfl HM3.out.cf ?_) | (go_at_call 27; refine HDo1.out.mono ?_; rintro e w4 ⟨rfl, hr4⟩; have HM4 := hid (HM3.out.step hr4.mem hr4.but); clear hr4 q0 q1 q2 q3 q4 q5; unfold Out.v) | (refine wpList_store_f rfl _ _ rfl g6 F.zero o2.f rfl rfl HM4.out.c6 ?_; intro w8 hc8 hb8 hs8; have H8 := hid hc8; have B8 := hid hb8; have C9 := hid (HM4.out.seven hb8); clear hc8 hb8 hs8) | (refine wpList_store_st rfl 38 _ _ rfl g7 (evc o2.k o2.a) rfl rfl C9.out size35 rfl rfl ?_; intro w9 hc9 hb9 hs9; have HO := hid (HM4.out.out H8.out B8.out hc9 hb9); clear hc9 hb9 hs9))
      refine ret_two rfl rfl g6 g7 _ _ rfl rfl HO.out.1 HO.out.2.1 under27 under35 rfl rfl (by rw [size27, F.len]) size35 ?_
      have hO := HS.out
      simp only [if_pos] at hO
      rw [← hO]
      exact ⟨rfl, HO.out.2.2⟩
    · have de1 : (de != 0) = true := by simpa using de0
      have HD0 := hid de0
      clear de0 HDo
      go_upto_region 7 with fail
      go_wp2_with (first | (refine wpList_load_f rfl _ rfl g5 f rfl HM3.out.cf ?_) | (refine wpList_store_f rfl _ _ rfl g6 F.zero f rfl rfl HM3.out.c6 ?_; intro w8 hc8 hb8 hs8; have H8 := hid hc8; have B8 := hid hb8; have C9 := hid (HM3.out.seven hb8); clear hc8 hb8 hs8) | (refine wpList_store_st rfl 38 _ _ rfl g7 (evc 2 wv) rfl rfl C9.out size35 rfl rfl ?_; intro w9 hc9 hb9 hs9; have HO := hid (HM3.out.out H8.out B8.out hc9 hb9); clear hc9 hb9 hs9))
      refine ret_two rfl rfl g6 g7 _ _ rfl rfl HO.out.1 HO.out.2.1 under27 under35 rfl rfl (by rw [size27, F.len]) size35 ?_
      have hO := HS.out
      rw [if_neg HD0.out] at hO
      simp only [if_pos] at hO
      rw [← hO]
      exact ⟨rfl, HO.out.2.2⟩
  · have te1 : (te != 0) = true := by simpa using te0
    have HT0 := hid te0
    clear te0 HDo HDe HR
    go_upto_region 3 with fail
    have HD := hid (HM1.out.on (Below.refl _ _).drew)
    refine wp_region_held_drew (S := fun x => Cel x g5 26 f.cs) (by kernel_rfl) HD.out.cf (fun hHeld => ?_)
    refine wpAnyH_take (i := 0) (oi := { dst := some 25, op := Op.load 26 (Operand.tmp 5), type := 26, pos := "cpu.go:34", after := #[], guard := none }) (v := .agg f.cs.toArray) rfl (by kernel_rfl) (by kernel_rfl) (by kernel_rfl) (fun _ _ _ h => h) (yieldsIf_load_mid (by rfl) _ _ rfl _ _ rfl _ _ (fun w hSw => Cel.range hSw) under27 rfl (by rw [size27, F.len])) (by assumption) ?_
    simp only [Act.put, List.setIfInBounds_toArray, List.set_cons_zero, List.set_cons_succ]
    refine wpAnyH_take (i := 1) (oi := { dst := some 26, op := Op.fieldAddr 26 (Operand.tmp 5) 1, type := 0, pos := "cpu.go:34", after := #[{ on := 4, ground := Ground.gcOnly Departure.lateStores }], guard := none }) (v := .pointer (some ⟨g5, 15, none⟩)) rfl (by kernel_rfl) (by kernel_rfl) (by kernel_rfl) (fun _ _ _ h => h) (Or.inl ⟨by rfl, by intro w hSw; go_simp⟩) (by assumption) ?_
    simp only [Act.put, List.setIfInBounds_toArray, List.set_cons_zero, List.set_cons_succ]
    refine wpAnyH_take (i := 2) (oi := { dst := some 27, op := Op.load 23 (Operand.tmp 26), type := 23, pos := "cpu.go:34", after := #[{ on := 1, ground := Ground.data }, { on := 4, ground := Ground.gcOnly Departure.lateStores }], guard := none }) (v := .int .u32 f.pc) rfl (by kernel_rfl) (by kernel_rfl) (by kernel_rfl) (fun _ _ _ h => h) (Or.inl ⟨by rfl, by intro w hSw; have hq := (Cel.cell hSw 15).trans f.at15; go_simp⟩) (by assumption) ?_
    simp only [Act.put, List.setIfInBounds_toArray, List.set_cons_zero, List.set_cons_succ]
    refine wpAnyH_take (i := 3) (oi := { dst := some 28, op := Op.build 38 #[(0, Operand.const (Value.int IntKind.i64 3)), (1, Operand.tmp 27)], type := 38, pos := "cpu.go:34", after := #[{ on := 2, ground := Ground.data }, { on := 4, ground := Ground.gcOnly Departure.lateStores }], guard := none }) (v := .agg #[.int .i64 3, .int .u32 f.pc]) rfl (by kernel_rfl) (by kernel_rfl) (by kernel_rfl) (fun _ _ _ h => h) (Or.inl ⟨by rfl, by intro w hSw; go_simp⟩) (by assumption) ?_
    simp only [Act.put, List.setIfInBounds_toArray, List.set_cons_zero, List.set_cons_succ]
    refine wpAnyH_ready (rs := [4]) (by kernel_rfl) (by simp) (AllReadyH.cons (o := { dst := none, op := Op.store 26 (Operand.tmp 6) (Operand.tmp 25), type := 0, pos := "cpu.go:34", after := #[{ on := 0, ground := Ground.data }, { on := 0, ground := Ground.phase }, { on := 1, ground := Ground.textOnly Departure.lateStores }, { on := 2, ground := Ground.textOnly Departure.lateStores }, { on := 3, ground := Ground.textOnly Departure.lateStores }], guard := none }) rfl (fun KQ hK => ?_) AllReadyH.nil)
    rw [if_pos (by rfl)]
    refine wp_store_st 26 _ _ rfl g6 f.cs rfl rfl HD.out.c6 (by rw [size27, F.len]) (by rw [F.len, F.len]) (F.all _) ?_
    intro w8 hc8 hb8 hs8
    have H8 := hid hc8
    have B8 := hid hb8
    have C9 := hid (HD.out.seven hb8)
    clear hc8 hb8 hs8
    refine hK.out _ _ (HD.out.cf6 B8.out) (fun hHeld => ?_)
    clear hK KQ
    try simp only [Act.put]
    refine wpAnyH_ready (rs := [5]) (by kernel_rfl) (by simp) (AllReadyH.cons (o := { dst := none, op := Op.store 38 (Operand.tmp 7) (Operand.tmp 28), type := 0, pos := "cpu.go:34", after := #[{ on := 3, ground := Ground.data }, { on := 4, ground := Ground.chain }, { on := 0, ground := Ground.phase }, { on := 1, ground := Ground.phase }, { on := 2, ground := Ground.phase }, { on := 3, ground := Ground.phase }, { on := 4, ground := Ground.phase }], guard := none }) rfl (fun KQ hK => ?_) AllReadyH.nil)
    rw [if_pos (by rfl)]
    refine wp_store_st 38 _ _ rfl g7 (evc 3 f.pc) rfl rfl C9.out size35 rfl rfl ?_
    intro w9 hc9 hb9 hs9
    have HO := hid (HD.out.out H8.out B8.out hc9 hb9)
    have B9 := hid hb9
    clear hc9 hb9 hs9
    refine hK.out _ _ (HD.out.cf7 B8.out B9.out) (fun hHeld => ?_)
    clear hK KQ
    try simp only [Act.put]
    refine wpAnyH_done (by kernel_rfl) ?_ _
    go_wp2_with fail
    refine ret_two rfl rfl g6 g7 _ _ rfl rfl HO.out.1 HO.out.2.1 under27 under35 rfl rfl (by rw [size27, F.len]) size35 ?_
    have hO := HS.out
    rw [if_neg HT0.out] at hO
    rw [← hO]
    exact ⟨rfl, HO.out.2.2⟩
end Go.Proofs.YteldpapacdbbiaaGreatDoor
