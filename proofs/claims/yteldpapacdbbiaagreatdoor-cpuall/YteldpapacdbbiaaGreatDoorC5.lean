/- cpu's do 28. -/
import Derived.Test.YteldpapacdbbiaaGreatDoorC4
namespace Go.Proofs.YteldpapacdbbiaaGreatDoor
open Go.RowKit
set_option maxHeartbeats 8000000
set_option maxRecDepth 100000
attribute [-simp] Tryz.isAgg26 Tryz.sizeOf26 Tryz.isAgg24
theorem under35 : Tryz.prog.underlying 38 = some (.struct (Tryz.prog.fieldsOf 38)) := by kernel_rfl
theorem size35 : (Tryz.prog.info? 38).map (·.size) = some 2 := by kernel_rfl
theorem wp_store_st {P : Program} {op : Oper} {a : Act} {w : World} {K : Act → World → Prop} {Q : Exit → Act → World → Prop} (ty : TypeId) (x y : Operand) (ho : op.op = .store ty x y)
    (g : Nat) (vs : List Value) (hx : a.eval x = .pointer (some ⟨g, 0, none⟩)) (hy : a.eval y = .agg vs.toArray) {e : TypeId} {cs : List Value} (hg : Cel w g e cs) (hi : (P.info? ty).map (·.size) = some vs.length) (hl : cs.length = vs.length) (h1 : vs.all (·.oneCell') = true)
    (h : ∀ w', Cel w' g e vs → ButL [g] w w' → w'.heap.size = w.heap.size → K (a.put op.dst undef) w') : op.wp P a w K Q := by
  have hs : (Instr.storeAt ty (.pointer (some ⟨g, 0, none⟩)) (.agg vs.toArray)).run P w = .ok () (w.setRow g vs.toArray) := by
    simp only [Instr.storeAt, Instr.sureAddr, Sem.run_bind, Sem.run_pure, Result.andThen]
    exact run_storeVar_row w g e ty _ _ hg (by rw [hi]; simp) (by simp [hl]) (by simpa using h1)
  unfold Oper.wp execOp
  simp only [ho, hx, hy, Sem.run_bind, Sem.run_pure, hs, Result.andThen_ok]
  exact h _ (hg.set _) (.setRow _ _ _ (by simp)) (by simp)
def F.nx (f : F) : F := { f with pc := (f.pc + 4) % 4294967296 }
/-- What an instruction leaves: the file, the event, the memory. -/
structure Out where
  f : F
  k : Int
  a : Int
  m : MS
def evc (k a : Int) : List Value := [.int .i64 k, .int .u32 a]
def Out.v (o : Out) : Value := .tuple #[.agg o.f.cs.toArray, .agg (evc o.k o.a).toArray]
def acc (i : Ins) : Int := if i.op = 16 ∨ i.op = 18 then 1 else 0
def doI (m : MS) (l : Int) (f : F) (i : Ins) : Out :=
  if i.op ≤ 14 then ⟨f.nx.put i.a.toNat (sm f i), 0, 0, m⟩
  else if i.op ≤ 18 then
    (if m.trE l (ad f i) (acc i) = 0 then ⟨f.nx.put i.a.toNat (m.rcW l (ad f i) (acc i) (rg f i.a)), 0, 0, m.rcM l (ad f i) (acc i) (rg f i.a)⟩
     else ⟨f, 4, ad f i, m.rcM l (ad f i) (acc i) (rg f i.a)⟩)
  else if i.op ≤ 20 then ⟨f.nx.cmp (rg f i.a) (ag f i), 0, 0, m⟩
  else if i.op ≤ 23 then ⟨jm f.nx i, 0, 0, m⟩
  else ⟨f.nx, 1, im i, m⟩
structure DM (W x : World) (gf gi g8 g9 g10 : Nat) (fp : Fp) (m : MS) (f : F) (i : Ins) (h : F) : Prop where
  rd : Rd W x fp m
  cf : Cel x gf 26 f.cs
  ci : Cel x gi 78 i.cs
  c8 : Cel x g8 26 F.zero.cs
  c9 : Cel x g9 38 (evc 0 0)
  c10 : Cel x g10 26 h.cs
  lf : W.heap.size ≤ gf
  li : W.heap.size ≤ gi
  l8 : W.heap.size ≤ g8
  l9 : W.heap.size ≤ g9
  l10 : W.heap.size ≤ g10
  n1 : g8 ≠ g10
  n2 : gf ≠ g10
theorem DM.on {W x x' : World} {gf gi g8 g9 g10 : Nat} {fp : Fp} {m : MS} {f h : F} {i : Ins} (d : DM W x gf gi g8 g9 g10 fp m f i h) (hb : Below x.heap.size x x') : DM W x' gf gi g8 g9 g10 fp m f i h :=
  ⟨d.rd.on hb, d.cf.on hb, d.ci.on hb, d.c8.on hb, d.c9.on hb, d.c10.on hb, d.lf, d.li, d.l8, d.l9, d.l10, d.n1, d.n2⟩
theorem DM.step {W x x' : World} {gf gi g8 g9 g10 : Nat} {fp : Fp} {m m' : MS} {f h : F} {i : Ins} (d : DM W x gf gi g8 g9 g10 fp m f i h) (r : Rd x x' fp m') : DM W x' gf gi g8 g9 g10 fp m' f i h :=
  ⟨d.rd.step r.mem r.but, d.cf.but r.but (d.rd.new d.lf), d.ci.but r.but (d.rd.new d.li), d.c8.but r.but (d.rd.new d.l8), d.c9.but r.but (d.rd.new d.l9), d.c10.but r.but (d.rd.new d.l10), d.lf, d.li, d.l8, d.l9, d.l10, d.n1, d.n2⟩
theorem Cel.ne {x : World} {g g' : Nat} {t t' : TypeId} {cs cs' : List Value} (h : Cel x g t cs) (h' : Cel x g' t' cs') (ht : t ≠ t') : g ≠ g' := fun e => by subst e; exact ht (h.ty h')
theorem DM.put {W x x' : World} {gf gi g8 g9 g10 : Nat} {fp : Fp} {m : MS} {f h h' : F} {i : Ins} (d : DM W x gf gi g8 g9 g10 fp m f i h) (hc : Cel x' g10 26 h'.cs) (hb : ButL [g10] x x') : DM W x' gf gi g8 g9 g10 fp m f i h' :=
  ⟨d.rd.set hb d.l10, d.cf.but hb (by simpa using d.n2), d.ci.but hb (by simpa using d.ci.ne d.c10 (by decide)), d.c8.but hb (by simpa using d.n1), d.c9.but hb (by simpa using d.c9.ne d.c10 (by decide)), hc, d.lf, d.li, d.l8, d.l9, d.l10, d.n1, d.n2⟩
theorem DM.setc {W x : World} {gf gi g8 g9 g10 : Nat} {fp : Fp} {m : MS} {f h h' : F} {i : Ins} (d : DM W x gf gi g8 g9 g10 fp m f i h) (j : Nat) (u : Value) (hs : h.cs.set j u = h'.cs) : DM W (x.setCell ⟨g10, j, none⟩ u) gf gi g8 g9 g10 fp m f i h' :=
  d.put (by rw [← hs]; exact d.c10.setCell j u) (.setCell _ _ _ _ (by simp))
theorem DM.nine {W x x' : World} {gf gi g8 g9 g10 : Nat} {fp : Fp} {m : MS} {f h : F} {i : Ins} (d : DM W x gf gi g8 g9 g10 fp m f i h) (hb : ButL [g8] x x') : Cel x' g9 38 (evc 0 0) := d.c9.but hb (by simpa using d.c9.ne d.c8 (by decide))
theorem DM.out {W x x1 x2 : World} {gf gi g8 g9 g10 : Nat} {fp : Fp} {m : MS} {f h r : F} {i : Ins} {es : List Value} (d : DM W x gf gi g8 g9 g10 fp m f i h) (hc8 : Cel x1 g8 26 r.cs) (hb8 : ButL [g8] x x1) (hc9 : Cel x2 g9 38 es) (hb9 : ButL [g9] x1 x2) : Cel x2 g8 26 r.cs ∧ Cel x2 g9 38 es ∧ Rd W x2 fp m :=
  ⟨hc8.but hb9 (by simpa using (d.c9.ne d.c8 (by decide)).symm), hc9, (d.rd.set hb8 d.l8).set hb9 d.l9⟩
theorem DM.b {W x : World} {gf gi g8 g9 g10 : Nat} {fp : Fp} {m : MS} {f h : F} {i : Ins} (d : DM W x gf gi g8 g9 g10 fp m f i h) (k : Int) (h0 : 0 ≤ k) (h1 : k < 15) : x.cell? ⟨gf, k.toNat, none⟩ = some (.int .u32 (rg f k)) := (d.cf.cell _).trans (f.at _ (by omega))
theorem DM.b10 {W x : World} {gf gi g8 g9 g10 : Nat} {fp : Fp} {m : MS} {f h : F} {i : Ins} (d : DM W x gf gi g8 g9 g10 fp m f i h) (k : Int) (h0 : 0 ≤ k) (h1 : k < 15) : x.cell? ⟨g10, k.toNat, none⟩ = some (.int .u32 (h.r k.toNat)) := (d.c10.cell _).trans (h.at _ (by omega))
/-- What a drawn region may lean on. -/
structure FS (x : World) (gf gi : Nat) (f : F) (i : Ins) : Prop where
  cf : Cel x gf 26 f.cs
  ci : Cel x gi 78 i.cs
theorem FS.b {x : World} {gf gi : Nat} {f : F} {i : Ins} (h : FS x gf gi f i) (k : Int) (h0 : 0 ≤ k) (h1 : k < 15) : x.cell? ⟨gf, k.toNat, none⟩ = some (.int .u32 (rg f k)) := (h.cf.cell _).trans (f.at _ (by omega))
theorem DM.fs {W x : World} {gf gi g8 g9 g10 : Nat} {fp : Fp} {m : MS} {f h : F} {i : Ins} (d : DM W x gf gi g8 g9 g10 fp m f i h) : FS x gf gi f i := ⟨d.cf, d.ci⟩
theorem DM.ft {W x : World} {gf gi g8 g9 g10 : Nat} {fp : Fp} {m : MS} {f h : F} {i : Ins} (d : DM W x gf gi g8 g9 g10 fp m f i h) : FS x g10 gi h i := ⟨d.c10, d.ci⟩
theorem DM.ft8 {W x x' : World} {gf gi g8 g9 g10 : Nat} {fp : Fp} {m : MS} {f h : F} {i : Ins} (d : DM W x gf gi g8 g9 g10 fp m f i h) (hb : ButL [g8] x x') : FS x' g10 gi h i := ⟨d.c10.but hb (by simpa using d.n1.symm), d.ci.but hb (by simpa using d.ci.ne d.c8 (by decide))⟩
theorem DM.ft9 {W x x' x2 : World} {gf gi g8 g9 g10 : Nat} {fp : Fp} {m : MS} {f h : F} {i : Ins} (d : DM W x gf gi g8 g9 g10 fp m f i h) (hb : ButL [g8] x x') (hb2 : ButL [g9] x' x2) : FS x2 g10 gi h i := ⟨(d.ft8 hb).cf.but hb2 (by simpa using d.c10.ne d.c9 (by decide)), (d.ft8 hb).ci.but hb2 (by simpa using d.ci.ne d.c9 (by decide))⟩
def zf : Obj := .cells #[.int .u32 0, .int .u32 0, .int .u32 0, .int .u32 0, .int .u32 0, .int .u32 0, .int .u32 0, .int .u32 0, .int .u32 0, .int .u32 0, .int .u32 0, .int .u32 0, .int .u32 0, .int .u32 0, .int .u32 0, .int .u32 0, .bool false, .bool false, .bool false] 26
/-- The boxes at the start. -/
structure D4 (W x : World) (gf gi g8 g9 : Nat) (fp : Fp) (m : MS) (f : F) (i : Ins) : Prop where
  rd : Rd W x fp m
  cf : Cel x gf 26 f.cs
  ci : Cel x gi 78 i.cs
  c8 : Cel x g8 26 F.zero.cs
  c9 : Cel x g9 38 (evc 0 0)
  lf : W.heap.size ≤ gf
  li : W.heap.size ≤ gi
  l8 : W.heap.size ≤ g8
  l9 : W.heap.size ≤ g9
theorem D4.new (W : World) (fp : Fp) (m : MS) (hm : Mem W fp m) (f : F) (i : Ins) : D4 W ((((W.alloc (.cells f.cs.toArray 26)).alloc (.cells i.cs.toArray 78)).alloc zf).alloc (.cells (evc 0 0).toArray 38)) W.heap.size (W.heap.size + 1) (W.heap.size + 1 + 1) (W.heap.size + 1 + 1 + 1) fp m f i := by
  have hz : zf = .cells F.zero.cs.toArray 26 := by unfold zf; rw [zc]
  rw [hz]
  have h := FI.new W f i
  have h2 := Cel.new ((W.alloc (.cells f.cs.toArray 26)).alloc (.cells i.cs.toArray 78)) 26 F.zero.cs
  have h9 := Cel.new (((W.alloc (.cells f.cs.toArray 26)).alloc (.cells i.cs.toArray 78)).alloc (.cells F.zero.cs.toArray 26)) 38 (evc 0 0)
  rw [World.size_alloc, World.size_alloc] at h2
  rw [World.size_alloc, World.size_alloc, World.size_alloc] at h9
  have h3 := (h.on (below_one _ (.cells F.zero.cs.toArray 26))).on (below_one _ (.cells (evc 0 0).toArray 38))
  exact ⟨((((Rd.start hm).on (below_one _ _)).on (below_one _ _)).on (below_one _ _)).on (below_one _ _), h3.cf, h3.ci, h2.on (below_one _ _), h9, Nat.le_refl _, by omega, by omega, by omega⟩
theorem D4.ten {W x x' : World} {gf gi g8 g9 : Nat} {fp : Fp} {m : MS} {f : F} {i : Ins} (d : D4 W x gf gi g8 g9 fp m f i) (hc : Cel x' x.heap.size 26 f.cs) (hb : ButL [x.heap.size] (x.alloc zf) x') : DM W x' gf gi g8 g9 x.heap.size fp m f i f := by
  have hl : W.heap.size ≤ x.heap.size := d.rd.but.size
  have q : ∀ {g t cs}, Cel x g t cs → Cel x' g t cs := fun {g t cs} h => (h.on (below_one x zf)).but hb (by have := h.lt; simp; omega)
  exact ⟨(d.rd.on (below_one x zf)).set hb hl, q d.cf, q d.ci, q d.c8, q d.c9, hc, d.lf, d.li, d.l8, d.l9, hl, by have := d.c8.lt; omega, by have := d.cf.lt; omega⟩
theorem do_any (W : World) (hT : Tb W) (fp : Fp) (m : MS) (hM : Mem W fp m) (hU : m.U) (l : Int) (f : F) (hF : f.U) (i : Ins) (h : IOk i) (o1 : 1 ≤ i.op) (o2 : i.op ≤ 24) (hA : 0 ≤ ad f i ∧ ad f i < 4294967296) (hlo : ∀ k ∈ fp.w, 3 < k) :
    Calls Tryz.prog 27 #[ptr fp.gm, .int .i64 l, f.v, i.v] W fun x w' => x = .returned (doI m l f i).v ∧ Rd W w' fp (doI m l f i).m := by
  have HX := hid (D4.new W fp m hM f i)
  have HI := hid (fun W => imm_any W i)
  have HG := hid (fun x (hb : ButL fp.w W x) => (hT.but hb hlo).g i.op.toNat (by omega))
  have HSm := hid (fun W h1 h2 => sum_any W f i h hF h1 h2)
  have HAg := hid (fun W => against_any W f i h)
  have HAd := hid (fun W => address_any W f i h)
  have HCm := hid (fun W => compare_any W f.nx (rg f i.a) (ag f i))
  have HJm := hid (fun W h1 h2 => jump_any W f.nx i h h1 h2)
  have HRc := hid (fun w (hm : Mem w fp m) => reach_any w fp m hm hU l (ad f i) (acc i) (rg f i.a) hA.1 hA.2 (by unfold acc; split <;> simp))
  obtain ⟨a0, a1, b0, b1, c0, c1⟩ := h
  clear hT hM hU hF hA hlo
  generalize hdo : doI m l f i = O at *
  have HDo := hid hdo
  clear hdo
  unfold doI at HDo
  generalize im i = v at *
  generalize sm f i = sv at *
  generalize ag f i = gv at *
  generalize ad f i = va at *
  generalize hac : acc i = ac at *
  have HAC := hid hac
  clear hac
  obtain ⟨op, cond, a, b, c, imm⟩ := i
  simp only [I.Ins.v, F.v] at *
  simp only [I.Ins.cs] at HX
  simp only [acc] at HAC

  unfold ptr at *
  simp only [zf, evc] at HX
  have oo0 : 0 ≤ op := by omega
  have oo1 : op < 25 := by omega
  go_enter Tryz.func27, Tryz.ntmps27
  go_upto_region 1 with fail
  generalize hX : (((W.alloc _).alloc _).alloc _).alloc _ = X at *
  clear hX
  generalize W.heap.size + 1 + 1 + 1 = g9 at *
  generalize W.heap.size + 1 + 1 = g8 at *
  generalize W.heap.size + 1 = gi at *
  generalize hg : W.heap.size = gf at *
  go_upto_region 2 with (first | (refine wpList_load_f rfl _ rfl gf f rfl HX.out.cf ?_) | (refine wpList_store_f rfl _ _ rfl X.heap.size F.zero f rfl rfl (by rw [zc]; exact Cel.new X 26 F.zero.cs) ?_; intro w1 hc1 hb1 hs1; have HM := hid (HX.out.ten hc1 hb1); clear hc1 hb1 hs1))
  generalize X.heap.size = g10 at *
  have y15 := (HM.out.c10.cell 15).trans f.at15
  have f15 := HM.out.c10.free 15
  have HM2 := hid (HM.out.setc (h' := f.nx) 15 (.int .u32 ((f.pc + 4) % 4294967296)) (f.set15 _))
  go_upto_region 3 with fail
  generalize hX2 : World.setCell _ _ _ = X2 at *
  clear hX2 y15 f15 HM HX
  obtain ⟨q0, q1, q2, q3, q4, q5⟩ := cel6 HM2.out.ci
  simp only at q0 q1 q2 q3 q4 q5
  have cg := HG.out X2 HM2.out.rd.but
  clear HG
  by_cases e14 : op ≤ 14
  · have hgr : grp op.toNat = 1 := by unfold grp; rw [if_neg (by omega), if_pos (by omega)]
    rw [hgr] at cg
    clear hgr
    go_upto_region 11 with fail
    have HD := hid (HM2.out.on (Below.refl _ _).drew)
    clear q0 q1 q2 q3 q4 q5 cg
    refine wp_region_held_drew (S := fun x => FS x gf gi f ⟨op, cond, a, b, c, imm⟩) (by kernel_rfl) HD.out.fs (fun hHeld => ?_)
    refine wpAnyH_take (i := 0) (oi := { dst := some 36, op := Op.fieldAddr 78 (Operand.tmp 7) 2, type := 0, pos := "do.go:62", after := #[], guard := none }) (v := .pointer (some ⟨gi, 2, none⟩)) rfl (by kernel_rfl) (by kernel_rfl) (by kernel_rfl) (fun _ _ _ h => h) (Or.inl ⟨by rfl, by intro w hSw; go_simp⟩) (by assumption) ?_
    simp only [Act.put, List.setIfInBounds_toArray, List.set_cons_zero, List.set_cons_succ]
    refine wpAnyH_take (i := 1) (oi := { dst := some 37, op := Op.load 3 (Operand.tmp 36), type := 3, pos := "do.go:62", after := #[{ on := 0, ground := Ground.data }], guard := none }) (v := .int .i64 a) rfl (by kernel_rfl) (by kernel_rfl) (by kernel_rfl) (fun _ _ _ h => h) (Or.inl ⟨by rfl, by intro w hSw; have hq := cel6 hSw.ci; obtain ⟨q0, q1, q2, q3, q4, q5⟩ := hq; go_simp⟩) (by assumption) ?_
    simp only [Act.put, List.setIfInBounds_toArray, List.set_cons_zero, List.set_cons_succ]
    refine wpAnyH_take (i := 2) (oi := { dst := some 38, op := Op.load 26 (Operand.tmp 6), type := 26, pos := "do.go:62", after := #[], guard := none }) (v := .agg f.cs.toArray) rfl (by kernel_rfl) (by kernel_rfl) (by kernel_rfl) (fun _ _ _ h => h) (yieldsIf_load_mid (by rfl) _ _ rfl _ _ rfl _ _ (fun w hSw => hSw.cf.range) under27 rfl (by rw [size27, F.len])) (by assumption) ?_
    simp only [Act.put, List.setIfInBounds_toArray, List.set_cons_zero, List.set_cons_succ]
    refine wpAnyH_take (i := 3) (oi := { dst := some 39, op := Op.load 78 (Operand.tmp 7), type := 78, pos := "do.go:62", after := #[], guard := none }) (v := .agg #[.int .i64 op, .int .i64 cond, .int .i64 a, .int .i64 b, .int .i64 c, .int .i32 imm]) rfl (by kernel_rfl) (by kernel_rfl) (by kernel_rfl) (fun _ _ _ h => h) (Or.inl ⟨by rfl, by intro w hSw; have hq := cel6 hSw.ci; obtain ⟨q0, q1, q2, q3, q4, q5⟩ := hq; go_simp⟩) (by assumption) ?_
    simp only [Act.put, List.setIfInBounds_toArray, List.set_cons_zero, List.set_cons_succ]
    refine wpAnyH_take (i := 5) (oi := { dst := some 41, op := Op.fieldAddr 26 (Operand.tmp 10) 0, type := 0, pos := "do.go:62", after := #[], guard := none }) (v := .pointer (some ⟨g10, 0, none⟩)) rfl (by kernel_rfl) (by kernel_rfl) (by kernel_rfl) (fun _ _ _ h => h) (Or.inl ⟨by rfl, by intro w hSw; go_simp⟩) (by assumption) ?_
    simp only [Act.put, List.setIfInBounds_toArray, List.set_cons_zero, List.set_cons_succ]
    refine wpAnyH_ready (rs := [4]) (by kernel_rfl) (by simp) (AllReadyH.cons (o := { dst := some 40, op := Op.call { callee := Callee.value (Operand.func 50), args := #[Operand.tmp 38, Operand.tmp 39], argTypes := #[26, 78] }, type := 23, pos := "do.go:62", after := #[{ on := 2, ground := Ground.data }, { on := 3, ground := Ground.data }], guard := none }) rfl (fun KQ hK => ?_) AllReadyH.nil)
    go_simp
    refine (HSm.out _ o1 e14).mono ?_
    rintro e w3 ⟨rfl, hb3⟩
    have HM3 := hid (HD.out.on hb3)
    clear hb3
    go_wp2_with fail
    refine hK.out _ _ HM3.out.fs (fun hHeld => ?_)
    clear hK KQ
    try simp only [Act.put, List.setIfInBounds_toArray, List.set_cons_zero, List.set_cons_succ]
    have ya := HM3.out.b10 a a0 a1
    have fa := HM3.out.c10.free a.toNat
    refine wpAnyH_take (i := 6) (oi := { dst := some 42, op := Op.indexAddr 24 (Operand.tmp 41) (Operand.tmp 37), type := 0, pos := "do.go:62", after := #[{ on := 5, ground := Ground.data }, { on := 1, ground := Ground.data }, { on := 0, ground := Ground.phase }, { on := 1, ground := Ground.phase }, { on := 2, ground := Ground.phase }, { on := 3, ground := Ground.phase }, { on := 4, ground := Ground.phase }], guard := none }) (v := .pointer (some ⟨g10, a.toNat, none⟩)) rfl (by kernel_rfl) (by kernel_rfl) (by kernel_rfl) (fun _ _ _ h => h) (Or.inl ⟨by rfl, by intro w hSw; go_simp⟩) (by assumption) ?_
    simp only [Act.put, List.setIfInBounds_toArray, List.set_cons_zero, List.set_cons_succ]
    refine wpAnyH_ready (rs := [7]) (by kernel_rfl) (by simp) (AllReadyH.cons (o := { dst := none, op := Op.store 23 (Operand.tmp 42) (Operand.tmp 40), type := 0, pos := "do.go:62", after := #[{ on := 6, ground := Ground.data }, { on := 4, ground := Ground.data }, { on := 4, ground := Ground.chain }, { on := 0, ground := Ground.phase }, { on := 1, ground := Ground.phase }, { on := 2, ground := Ground.phase }, { on := 3, ground := Ground.phase }, { on := 4, ground := Ground.phase }], guard := none }) rfl (fun KQ hK => ?_) AllReadyH.nil)
    go_simp
    have HM4 := hid (HM3.out.setc (h' := f.nx.put a.toNat sv) a.toNat (.int .u32 sv) (F.set _ _ (by omega) _))
    refine hK.out _ _ HM4.out.fs (fun hHeld => ?_)
    clear hK KQ
    try simp only [Act.put]
    refine wpAnyH_done (by kernel_rfl) ?_ _
    generalize hX4 : World.setCell _ _ _ = X4 at *
    clear hX4 ya fa
    go_upto_region 21 with fail
    go_wp2_with (first | (refine wpList_load_f rfl _ rfl g10 (f.nx.put a.toNat sv) rfl HM4.out.c10 ?_) | (refine wpList_store_f rfl _ _ rfl g8 F.zero (f.nx.put a.toNat sv) rfl rfl HM4.out.c8 ?_; intro w8 hc8 hb8 hs8; have H8 := hid hc8; have B8 := hid hb8; have C9 := hid (HM4.out.nine hb8); clear hc8 hb8 hs8) | (refine wpList_store_st rfl 38 _ _ rfl g9 (evc 0 0) rfl rfl C9.out size35 rfl rfl ?_; intro w9 hc9 hb9 hs9; have HO := hid (HM4.out.out H8.out B8.out hc9 hb9); clear hc9 hb9 hs9))
    refine ret_two rfl rfl g8 g9 _ _ rfl rfl HO.out.1 HO.out.2.1 under27 under35 rfl rfl (by rw [size27, F.len]) size35 ?_
    have hO := HDo.out
    rw [if_pos e14] at hO
    rw [← hO]
    exact ⟨rfl, HO.out.2.2⟩

  by_cases e24 : op = 24
  · subst e24
    have cg' : X2.cell? ⟨0, 24, none⟩ = some (.int .i64 6) := cg
    clear cg o1 o2 oo0 oo1 e14
    go_upto_region 14 with fail
    have HD := hid (HM2.out.on (Below.refl _ _).drew)
    clear q0 q1 q2 q3 q4 q5 cg'
    refine wp_region_held_drew (S := fun x => FS x g10 gi f.nx ⟨24, cond, a, b, c, imm⟩) (by kernel_rfl) HD.out.ft (fun hHeld => ?_)
    refine wpAnyH_take (i := 0) (oi := { dst := some 56, op := Op.load 26 (Operand.tmp 10), type := 26, pos := "do.go:68", after := #[], guard := none }) (v := .agg f.nx.cs.toArray) rfl (by kernel_rfl) (by kernel_rfl) (by kernel_rfl) (fun _ _ _ h => h) (yieldsIf_load_mid (by rfl) _ _ rfl _ _ rfl _ _ (fun w hSw => hSw.cf.range) under27 rfl (by rw [size27, F.len])) (by assumption) ?_
    simp only [Act.put, List.setIfInBounds_toArray, List.set_cons_zero, List.set_cons_succ]
    refine wpAnyH_take (i := 1) (oi := { dst := some 57, op := Op.load 78 (Operand.tmp 7), type := 78, pos := "do.go:68", after := #[], guard := none }) (v := .agg #[.int .i64 24, .int .i64 cond, .int .i64 a, .int .i64 b, .int .i64 c, .int .i32 imm]) rfl (by kernel_rfl) (by kernel_rfl) (by kernel_rfl) (fun _ _ _ h => h) (Or.inl ⟨by rfl, by intro w hSw; have hq := cel6 hSw.ci; obtain ⟨q0, q1, q2, q3, q4, q5⟩ := hq; go_simp⟩) (by assumption) ?_
    simp only [Act.put, List.setIfInBounds_toArray, List.set_cons_zero, List.set_cons_succ]
    refine wpAnyH_ready (rs := [2]) (by kernel_rfl) (by simp) (AllReadyH.cons (o := { dst := some 58, op := Op.call { callee := Callee.value (Operand.func 54), args := #[Operand.tmp 57], argTypes := #[78] }, type := 23, pos := "do.go:68", after := #[{ on := 1, ground := Ground.data }], guard := none }) rfl (fun KQ hK => ?_) AllReadyH.nil)
    go_simp
    refine (HI.out _).mono ?_
    rintro e w3 ⟨rfl, hb3⟩
    have HM3 := hid (HD.out.on hb3)
    clear hb3
    go_wp2_with fail
    refine hK.out _ _ HM3.out.ft (fun hHeld => ?_)
    clear hK KQ
    try simp only [Act.put, List.setIfInBounds_toArray, List.set_cons_zero, List.set_cons_succ]
    refine wpAnyH_take (i := 3) (oi := { dst := some 59, op := Op.build 38 #[(0, Operand.const (Value.int IntKind.i64 1)), (1, Operand.tmp 58)], type := 38, pos := "do.go:68", after := #[{ on := 2, ground := Ground.data }, { on := 4, ground := Ground.gcOnly Departure.lateStores }], guard := none }) (v := .agg #[.int .i64 1, .int .u32 v]) rfl (by kernel_rfl) (by kernel_rfl) (by kernel_rfl) (fun _ _ _ h => h) (Or.inl ⟨by rfl, by intro w hSw; go_simp⟩) (by assumption) ?_
    simp only [Act.put, List.setIfInBounds_toArray, List.set_cons_zero, List.set_cons_succ]
    refine wpAnyH_ready (rs := [4]) (by kernel_rfl) (by simp) (AllReadyH.cons (o := { dst := none, op := Op.store 26 (Operand.tmp 8) (Operand.tmp 56), type := 0, pos := "do.go:68", after := #[{ on := 0, ground := Ground.data }, { on := 2, ground := Ground.chain }, { on := 0, ground := Ground.phase }, { on := 1, ground := Ground.textOnly Departure.lateStores }, { on := 2, ground := Ground.textOnly Departure.lateStoresUnsure }, { on := 3, ground := Ground.textOnly Departure.lateStores }], guard := none }) rfl (fun KQ hK => ?_) AllReadyH.nil)
    rw [if_pos (by rfl)]
    refine wp_store_st 26 _ _ rfl g8 f.nx.cs rfl rfl HM3.out.c8 (by rw [size27, F.len]) (by rw [F.len, F.len]) (F.all _) ?_
    intro w8 hc8 hb8 hs8
    have H8 := hid hc8
    have B8 := hid hb8
    have C9 := hid (HM3.out.nine hb8)
    clear hc8 hb8 hs8
    refine hK.out _ _ (HM3.out.ft8 B8.out) (fun hHeld => ?_)
    clear hK KQ
    try simp only [Act.put]
    refine wpAnyH_ready (rs := [5]) (by kernel_rfl) (by simp) (AllReadyH.cons (o := { dst := none, op := Op.store 38 (Operand.tmp 9) (Operand.tmp 59), type := 0, pos := "do.go:68", after := #[{ on := 3, ground := Ground.data }, { on := 4, ground := Ground.chain }, { on := 0, ground := Ground.phase }, { on := 1, ground := Ground.phase }, { on := 2, ground := Ground.phase }, { on := 3, ground := Ground.phase }, { on := 4, ground := Ground.phase }], guard := none }) rfl (fun KQ hK => ?_) AllReadyH.nil)
    rw [if_pos (by rfl)]
    refine wp_store_st 38 _ _ rfl g9 (evc 1 v) rfl rfl C9.out size35 rfl rfl ?_
    intro w9 hc9 hb9 hs9
    have HO := hid (HM3.out.out H8.out B8.out hc9 hb9)
    have B9 := hid hb9
    clear hc9 hb9 hs9
    refine hK.out _ _ (HM3.out.ft9 B8.out B9.out) (fun hHeld => ?_)
    clear hK KQ
    try simp only [Act.put]
    refine wpAnyH_done (by kernel_rfl) ?_ _
    go_wp2_with fail
    refine ret_two rfl rfl g8 g9 _ _ rfl rfl HO.out.1 HO.out.2.1 under27 under35 rfl rfl (by rw [size27, F.len]) size35 ?_
    have hO := HDo.out
    rw [if_neg (by omega), if_neg (by omega), if_neg (by omega), if_neg (by omega)] at hO
    rw [← hO]
    exact ⟨rfl, HO.out.2.2⟩
  by_cases e18 : op ≤ 18
  · generalize hrm : m.rcM l va ac (rg f a) = m4 at *
    generalize hrw : m.rcW l va ac (rg f a) = wv at *
    generalize hte : m.trE l va ac = te at *
    clear hrm hrw hte
    by_cases e16 : op = 16 ∨ op = 18
    · have hac : 1 = ac := by rw [← HAC.out, if_pos e16]
      subst hac
      have hgr : grp op.toNat = 3 := by unfold grp; rw [if_neg (by omega), if_neg (by omega), if_neg (by omega), if_pos (by omega)]
      rw [hgr] at cg
      clear hgr e16 HAC
      go_upto_region 16 with fail
      go_upto_region 17 with (first | (refine wpList_load_f rfl _ rfl gf f rfl HM2.out.cf ?_) | (go_at_call 55; refine (HAd.out _).mono ?_; rintro e w3 ⟨rfl, hb3⟩; have HM3 := hid (HM2.out.on hb3); clear hb3 q0 q1 q2 q3 q4 q5 cg))
      obtain ⟨q0, q1, q2, q3, q4, q5⟩ := cel6 HM3.out.ci
      simp only at q0 q1 q2 q3 q4 q5
      have ya := HM3.out.b a a0 a1
      go_wp2_with fail
      refine (HRc.out _ HM3.out.rd.mem).mono ?_
      rintro e w4 ⟨rfl, hr4⟩
      have HM4 := hid (HM3.out.step hr4)
      clear hr4 q0 q1 q2 q3 q4 q5 ya HM2 HM3 HRc HAd
      by_cases te0 : te = 0
      · subst te0
        obtain ⟨q0, q1, q2, q3, q4, q5⟩ := cel6 HM4.out.ci
        simp only at q0 q1 q2 q3 q4 q5
        have ya := HM4.out.b10 a a0 a1
        have fa := HM4.out.c10.free a.toNat
        have HM5 := hid (HM4.out.setc (h' := f.nx.put a.toNat wv) a.toNat (.int .u32 wv) (F.set _ _ (by omega) _))
        go_upto_region 21 with fail
        generalize hX5 : World.setCell _ _ _ = X5 at *
        clear hX5 q0 q1 q2 q3 q4 q5 ya fa
        go_wp2_with (first | (refine wpList_load_f rfl _ rfl g10 (f.nx.put a.toNat wv) rfl HM5.out.c10 ?_) | (refine wpList_store_f rfl _ _ rfl g8 F.zero (f.nx.put a.toNat wv) rfl rfl HM5.out.c8 ?_; intro w8 hc8 hb8 hs8; have H8 := hid hc8; have B8 := hid hb8; have C9 := hid (HM5.out.nine hb8); clear hc8 hb8 hs8) | (refine wpList_store_st rfl 38 _ _ rfl g9 (evc 0 0) rfl rfl C9.out size35 rfl rfl ?_; intro w9 hc9 hb9 hs9; have HO := hid (HM5.out.out H8.out B8.out hc9 hb9); clear hc9 hb9 hs9))
        refine ret_two rfl rfl g8 g9 _ _ rfl rfl HO.out.1 HO.out.2.1 under27 under35 rfl rfl (by rw [size27, F.len]) size35 ?_
        have hO := HDo.out
        rw [if_neg (by omega), if_pos (by omega)] at hO
        simp only [if_pos] at hO
        rw [← hO]
        exact ⟨rfl, HO.out.2.2⟩
      · have te1 : (te != 0) = true := by simpa using te0
        have HT0 := hid te0
        clear te0
        go_upto_region 19 with fail
        go_wp2_with (first | (refine wpList_load_f rfl _ rfl gf f rfl HM4.out.cf ?_) | (refine wpList_store_f rfl _ _ rfl g8 F.zero f rfl rfl HM4.out.c8 ?_; intro w8 hc8 hb8 hs8; have H8 := hid hc8; have B8 := hid hb8; have C9 := hid (HM4.out.nine hb8); clear hc8 hb8 hs8) | (refine wpList_store_st rfl 38 _ _ rfl g9 (evc 4 va) rfl rfl C9.out size35 rfl rfl ?_; intro w9 hc9 hb9 hs9; have HO := hid (HM4.out.out H8.out B8.out hc9 hb9); clear hc9 hb9 hs9))
        refine ret_two rfl rfl g8 g9 _ _ rfl rfl HO.out.1 HO.out.2.1 under27 under35 rfl rfl (by rw [size27, F.len]) size35 ?_
        have hO := HDo.out
        rw [if_neg (by omega), if_pos (by omega), if_neg HT0.out] at hO
        rw [← hO]
        exact ⟨rfl, HO.out.2.2⟩
    · have hac : 0 = ac := by rw [← HAC.out, if_neg e16]
      subst hac
      have hgr : grp op.toNat = 2 := by unfold grp; rw [if_neg (by omega), if_neg (by omega), if_pos (by omega)]
      rw [hgr] at cg
      clear hgr e16 HAC
      go_upto_region 16 with fail
      go_upto_region 17 with (first | (refine wpList_load_f rfl _ rfl gf f rfl HM2.out.cf ?_) | (go_at_call 55; refine (HAd.out _).mono ?_; rintro e w3 ⟨rfl, hb3⟩; have HM3 := hid (HM2.out.on hb3); clear hb3 q0 q1 q2 q3 q4 q5 cg))
      obtain ⟨q0, q1, q2, q3, q4, q5⟩ := cel6 HM3.out.ci
      simp only at q0 q1 q2 q3 q4 q5
      have ya := HM3.out.b a a0 a1
      go_wp2_with fail
      refine (HRc.out _ HM3.out.rd.mem).mono ?_
      rintro e w4 ⟨rfl, hr4⟩
      have HM4 := hid (HM3.out.step hr4)
      clear hr4 q0 q1 q2 q3 q4 q5 ya HM2 HM3 HRc HAd
      by_cases te0 : te = 0
      · subst te0
        obtain ⟨q0, q1, q2, q3, q4, q5⟩ := cel6 HM4.out.ci
        simp only at q0 q1 q2 q3 q4 q5
        have ya := HM4.out.b10 a a0 a1
        have fa := HM4.out.c10.free a.toNat
        have HM5 := hid (HM4.out.setc (h' := f.nx.put a.toNat wv) a.toNat (.int .u32 wv) (F.set _ _ (by omega) _))
        go_upto_region 21 with fail
        generalize hX5 : World.setCell _ _ _ = X5 at *
        clear hX5 q0 q1 q2 q3 q4 q5 ya fa
        go_wp2_with (first | (refine wpList_load_f rfl _ rfl g10 (f.nx.put a.toNat wv) rfl HM5.out.c10 ?_) | (refine wpList_store_f rfl _ _ rfl g8 F.zero (f.nx.put a.toNat wv) rfl rfl HM5.out.c8 ?_; intro w8 hc8 hb8 hs8; have H8 := hid hc8; have B8 := hid hb8; have C9 := hid (HM5.out.nine hb8); clear hc8 hb8 hs8) | (refine wpList_store_st rfl 38 _ _ rfl g9 (evc 0 0) rfl rfl C9.out size35 rfl rfl ?_; intro w9 hc9 hb9 hs9; have HO := hid (HM5.out.out H8.out B8.out hc9 hb9); clear hc9 hb9 hs9))
        refine ret_two rfl rfl g8 g9 _ _ rfl rfl HO.out.1 HO.out.2.1 under27 under35 rfl rfl (by rw [size27, F.len]) size35 ?_
        have hO := HDo.out
        rw [if_neg (by omega), if_pos (by omega)] at hO
        simp only [if_pos] at hO
        rw [← hO]
        exact ⟨rfl, HO.out.2.2⟩
      · have te1 : (te != 0) = true := by simpa using te0
        have HT0 := hid te0
        clear te0
        go_upto_region 19 with fail
        go_wp2_with (first | (refine wpList_load_f rfl _ rfl gf f rfl HM4.out.cf ?_) | (refine wpList_store_f rfl _ _ rfl g8 F.zero f rfl rfl HM4.out.c8 ?_; intro w8 hc8 hb8 hs8; have H8 := hid hc8; have B8 := hid hb8; have C9 := hid (HM4.out.nine hb8); clear hc8 hb8 hs8) | (refine wpList_store_st rfl 38 _ _ rfl g9 (evc 4 va) rfl rfl C9.out size35 rfl rfl ?_; intro w9 hc9 hb9 hs9; have HO := hid (HM4.out.out H8.out B8.out hc9 hb9); clear hc9 hb9 hs9))
        refine ret_two rfl rfl g8 g9 _ _ rfl rfl HO.out.1 HO.out.2.1 under27 under35 rfl rfl (by rw [size27, F.len]) size35 ?_
        have hO := HDo.out
        rw [if_neg (by omega), if_pos (by omega), if_neg HT0.out] at hO
        rw [← hO]
        exact ⟨rfl, HO.out.2.2⟩

  by_cases e20 : op ≤ 20
  · have hgr : grp op.toNat = 4 := by unfold grp; rw [if_neg (by omega), if_neg (by omega), if_neg (by omega), if_neg (by omega), if_pos (by omega)]
    rw [hgr] at cg
    clear hgr
    go_upto_region 12 with fail
    have HD := hid (HM2.out.on (Below.refl _ _).drew)
    clear q0 q1 q2 q3 q4 q5 cg
    refine wp_region_held_drew (S := fun x => FS x gf gi f ⟨op, cond, a, b, c, imm⟩) (by kernel_rfl) HD.out.fs (fun hHeld => ?_)
    refine wpAnyH_take (i := 1) (oi := { dst := some 44, op := Op.fieldAddr 78 (Operand.tmp 7) 2, type := 0, pos := "do.go:64", after := #[], guard := none }) (v := .pointer (some ⟨gi, 2, none⟩)) rfl (by kernel_rfl) (by kernel_rfl) (by kernel_rfl) (fun _ _ _ h => h) (Or.inl ⟨by rfl, by intro w hSw; go_simp⟩) (by assumption) ?_
    simp only [Act.put, List.setIfInBounds_toArray, List.set_cons_zero, List.set_cons_succ]
    refine wpAnyH_take (i := 2) (oi := { dst := some 45, op := Op.load 3 (Operand.tmp 44), type := 3, pos := "do.go:64", after := #[{ on := 1, ground := Ground.data }], guard := none }) (v := .int .i64 a) rfl (by kernel_rfl) (by kernel_rfl) (by kernel_rfl) (fun _ _ _ h => h) (Or.inl ⟨by rfl, by intro w hSw; have hq := cel6 hSw.ci; obtain ⟨q0, q1, q2, q3, q4, q5⟩ := hq; go_simp⟩) (by assumption) ?_
    simp only [Act.put, List.setIfInBounds_toArray, List.set_cons_zero, List.set_cons_succ]
    refine wpAnyH_take (i := 3) (oi := { dst := some 46, op := Op.fieldAddr 26 (Operand.tmp 6) 0, type := 0, pos := "do.go:64", after := #[], guard := none }) (v := .pointer (some ⟨gf, 0, none⟩)) rfl (by kernel_rfl) (by kernel_rfl) (by kernel_rfl) (fun _ _ _ h => h) (Or.inl ⟨by rfl, by intro w hSw; go_simp⟩) (by assumption) ?_
    simp only [Act.put, List.setIfInBounds_toArray, List.set_cons_zero, List.set_cons_succ]
    refine wpAnyH_take (i := 4) (oi := { dst := some 47, op := Op.indexAddr 24 (Operand.tmp 46) (Operand.tmp 45), type := 0, pos := "do.go:64", after := #[{ on := 3, ground := Ground.data }, { on := 2, ground := Ground.data }], guard := none }) (v := .pointer (some ⟨gf, a.toNat, none⟩)) rfl (by kernel_rfl) (by kernel_rfl) (by kernel_rfl) (fun _ _ _ h => h) (Or.inl ⟨by rfl, by intro w hSw; go_simp⟩) (by assumption) ?_
    simp only [Act.put, List.setIfInBounds_toArray, List.set_cons_zero, List.set_cons_succ]
    refine wpAnyH_take (i := 5) (oi := { dst := some 48, op := Op.load 23 (Operand.tmp 47), type := 23, pos := "do.go:64", after := #[{ on := 4, ground := Ground.data }], guard := none }) (v := .int .u32 (rg f a)) rfl (by kernel_rfl) (by kernel_rfl) (by kernel_rfl) (fun _ _ _ h => h) (Or.inl ⟨by rfl, by intro w hSw; have hq := hSw.b a a0 a1; go_simp⟩) (by assumption) ?_
    simp only [Act.put, List.setIfInBounds_toArray, List.set_cons_zero, List.set_cons_succ]
    refine wpAnyH_take (i := 6) (oi := { dst := some 49, op := Op.load 26 (Operand.tmp 6), type := 26, pos := "do.go:64", after := #[], guard := none }) (v := .agg f.cs.toArray) rfl (by kernel_rfl) (by kernel_rfl) (by kernel_rfl) (fun _ _ _ h => h) (yieldsIf_load_mid (by rfl) _ _ rfl _ _ rfl _ _ (fun w hSw => hSw.cf.range) under27 rfl (by rw [size27, F.len])) (by assumption) ?_
    simp only [Act.put, List.setIfInBounds_toArray, List.set_cons_zero, List.set_cons_succ]
    refine wpAnyH_take (i := 7) (oi := { dst := some 50, op := Op.load 78 (Operand.tmp 7), type := 78, pos := "do.go:64", after := #[], guard := none }) (v := .agg #[.int .i64 op, .int .i64 cond, .int .i64 a, .int .i64 b, .int .i64 c, .int .i32 imm]) rfl (by kernel_rfl) (by kernel_rfl) (by kernel_rfl) (fun _ _ _ h => h) (Or.inl ⟨by rfl, by intro w hSw; have hq := cel6 hSw.ci; obtain ⟨q0, q1, q2, q3, q4, q5⟩ := hq; go_simp⟩) (by assumption) ?_
    simp only [Act.put, List.setIfInBounds_toArray, List.set_cons_zero, List.set_cons_succ]
    refine wpAnyH_ready (rs := [0, 8]) (by kernel_rfl) (by simp) (AllReadyH.cons (o := { dst := some 43, op := Op.load 26 (Operand.tmp 10), type := 26, pos := "do.go:64", after := #[], guard := none }) rfl (fun KQ hK => ?_) (AllReadyH.cons (o := { dst := some 51, op := Op.call { callee := Callee.value (Operand.func 52), args := #[Operand.tmp 49, Operand.tmp 50], argTypes := #[26, 78] }, type := 23, pos := "do.go:64", after := #[{ on := 6, ground := Ground.data }, { on := 7, ground := Ground.data }], guard := none }) rfl (fun KQ hK => ?_) AllReadyH.nil))
    · rw [if_pos (by rfl)]
      refine wp_load_mid 26 _ rfl g10 0 rfl _ _ HD.out.c10.range under27 rfl (by rw [size27, F.len]) ?_
      refine hK.out _ _ HD.out.fs (fun hHeld => ?_)
      clear hK KQ
      try simp only [Act.put, List.setIfInBounds_toArray, List.set_cons_zero, List.set_cons_succ]
      refine wpAnyH_ready (rs := [8]) (by kernel_rfl) (by simp) (AllReadyH.cons (o := { dst := some 51, op := Op.call { callee := Callee.value (Operand.func 52), args := #[Operand.tmp 49, Operand.tmp 50], argTypes := #[26, 78] }, type := 23, pos := "do.go:64", after := #[{ on := 6, ground := Ground.data }, { on := 7, ground := Ground.data }], guard := none }) rfl (fun KQ hK => ?_) AllReadyH.nil)
      go_simp
      refine (HAg.out _).mono ?_
      rintro e w3 ⟨rfl, hb3⟩
      have HM3 := hid (HD.out.on hb3)
      clear hb3
      go_wp2_with fail
      refine hK.out _ _ HM3.out.fs (fun hHeld => ?_)
      clear hK KQ
      try simp only [Act.put, List.setIfInBounds_toArray, List.set_cons_zero, List.set_cons_succ]
      refine wpAnyH_ready (rs := [9]) (by kernel_rfl) (by simp) (AllReadyH.cons (o := { dst := some 52, op := Op.call { callee := Callee.value (Operand.func 51), args := #[Operand.tmp 43, Operand.tmp 48, Operand.tmp 51], argTypes := #[26, 23, 23] }, type := 26, pos := "do.go:64", after := #[{ on := 0, ground := Ground.data }, { on := 5, ground := Ground.data }, { on := 8, ground := Ground.data }, { on := 8, ground := Ground.chain }], guard := none }) rfl (fun KQ hK => ?_) AllReadyH.nil)
      go_simp
      refine (HCm.out _).mono ?_
      rintro e w4 ⟨rfl, hb4⟩
      have HM4 := hid (HM3.out.on hb4)
      clear hb4
      go_wp2_with fail
      refine hK.out _ _ HM4.out.fs (fun hHeld => ?_)
      clear hK KQ
      try simp only [Act.put, List.setIfInBounds_toArray, List.set_cons_zero, List.set_cons_succ]
      refine wpAnyH_ready (rs := [10]) (by kernel_rfl) (by simp) (AllReadyH.cons (o := { dst := none, op := Op.store 26 (Operand.tmp 10) (Operand.tmp 52), type := 0, pos := "do.go:64", after := #[{ on := 9, ground := Ground.data }, { on := 9, ground := Ground.chain }, { on := 0, ground := Ground.phase }, { on := 1, ground := Ground.phase }, { on := 2, ground := Ground.phase }, { on := 3, ground := Ground.phase }, { on := 4, ground := Ground.phase }, { on := 5, ground := Ground.phase }, { on := 6, ground := Ground.phase }, { on := 7, ground := Ground.phase }, { on := 8, ground := Ground.phase }, { on := 9, ground := Ground.phase }], guard := none }) rfl (fun KQ hK => ?_) AllReadyH.nil)
      rw [if_pos (by rfl)]
      refine wp_store_st 26 _ _ rfl g10 (f.nx.cmp (rg f a) gv).cs rfl rfl HM4.out.c10 (by rw [size27, F.len]) (by rw [F.len, F.len]) (F.all _) ?_
      intro w5 hc5 hb5 hs5
      have HM5 := hid (HM4.out.put hc5 hb5)
      clear hc5 hb5 hs5
      refine hK.out _ _ HM5.out.fs (fun hHeld => ?_)
      clear hK KQ
      try simp only [Act.put]
      refine wpAnyH_done (by kernel_rfl) ?_ _
      go_upto_region 21 with fail
      go_wp2_with (first | (refine wpList_load_f rfl _ rfl g10 (f.nx.cmp (rg f a) gv) rfl HM5.out.c10 ?_) | (refine wpList_store_f rfl _ _ rfl g8 F.zero (f.nx.cmp (rg f a) gv) rfl rfl HM5.out.c8 ?_; intro w8 hc8 hb8 hs8; have H8 := hid hc8; have B8 := hid hb8; have C9 := hid (HM5.out.nine hb8); clear hc8 hb8 hs8) | (refine wpList_store_st rfl 38 _ _ rfl g9 (evc 0 0) rfl rfl C9.out size35 rfl rfl ?_; intro w9 hc9 hb9 hs9; have HO := hid (HM5.out.out H8.out B8.out hc9 hb9); clear hc9 hb9 hs9))
      refine ret_two rfl rfl g8 g9 _ _ rfl rfl HO.out.1 HO.out.2.1 under27 under35 rfl rfl (by rw [size27, F.len]) size35 ?_
      have hO := HDo.out
      rw [if_neg (by omega), if_neg (by omega), if_pos (by omega)] at hO
      rw [← hO]
      exact ⟨rfl, HO.out.2.2⟩
    · go_simp
      refine (HAg.out _).mono ?_
      rintro e w3 ⟨rfl, hb3⟩
      have HM3 := hid (HD.out.on hb3)
      clear hb3
      go_wp2_with fail
      refine hK.out _ _ HM3.out.fs (fun hHeld => ?_)
      clear hK KQ
      try simp only [Act.put, List.setIfInBounds_toArray, List.set_cons_zero, List.set_cons_succ]
      refine wpAnyH_ready (rs := [0]) (by kernel_rfl) (by simp) (AllReadyH.cons (o := { dst := some 43, op := Op.load 26 (Operand.tmp 10), type := 26, pos := "do.go:64", after := #[], guard := none }) rfl (fun KQ hK => ?_) AllReadyH.nil)
      rw [if_pos (by rfl)]
      refine wp_load_mid 26 _ rfl g10 0 rfl _ _ HM3.out.c10.range under27 rfl (by rw [size27, F.len]) ?_
      refine hK.out _ _ HM3.out.fs (fun hHeld => ?_)
      clear hK KQ
      try simp only [Act.put, List.setIfInBounds_toArray, List.set_cons_zero, List.set_cons_succ]
      refine wpAnyH_ready (rs := [9]) (by kernel_rfl) (by simp) (AllReadyH.cons (o := { dst := some 52, op := Op.call { callee := Callee.value (Operand.func 51), args := #[Operand.tmp 43, Operand.tmp 48, Operand.tmp 51], argTypes := #[26, 23, 23] }, type := 26, pos := "do.go:64", after := #[{ on := 0, ground := Ground.data }, { on := 5, ground := Ground.data }, { on := 8, ground := Ground.data }, { on := 8, ground := Ground.chain }], guard := none }) rfl (fun KQ hK => ?_) AllReadyH.nil)
      go_simp
      refine (HCm.out _).mono ?_
      rintro e w4 ⟨rfl, hb4⟩
      have HM4 := hid (HM3.out.on hb4)
      clear hb4
      go_wp2_with fail
      refine hK.out _ _ HM4.out.fs (fun hHeld => ?_)
      clear hK KQ
      try simp only [Act.put, List.setIfInBounds_toArray, List.set_cons_zero, List.set_cons_succ]
      refine wpAnyH_ready (rs := [10]) (by kernel_rfl) (by simp) (AllReadyH.cons (o := { dst := none, op := Op.store 26 (Operand.tmp 10) (Operand.tmp 52), type := 0, pos := "do.go:64", after := #[{ on := 9, ground := Ground.data }, { on := 9, ground := Ground.chain }, { on := 0, ground := Ground.phase }, { on := 1, ground := Ground.phase }, { on := 2, ground := Ground.phase }, { on := 3, ground := Ground.phase }, { on := 4, ground := Ground.phase }, { on := 5, ground := Ground.phase }, { on := 6, ground := Ground.phase }, { on := 7, ground := Ground.phase }, { on := 8, ground := Ground.phase }, { on := 9, ground := Ground.phase }], guard := none }) rfl (fun KQ hK => ?_) AllReadyH.nil)
      rw [if_pos (by rfl)]
      refine wp_store_st 26 _ _ rfl g10 (f.nx.cmp (rg f a) gv).cs rfl rfl HM4.out.c10 (by rw [size27, F.len]) (by rw [F.len, F.len]) (F.all _) ?_
      intro w5 hc5 hb5 hs5
      have HM5 := hid (HM4.out.put hc5 hb5)
      clear hc5 hb5 hs5
      refine hK.out _ _ HM5.out.fs (fun hHeld => ?_)
      clear hK KQ
      try simp only [Act.put]
      refine wpAnyH_done (by kernel_rfl) ?_ _
      go_upto_region 21 with fail
      go_wp2_with (first | (refine wpList_load_f rfl _ rfl g10 (f.nx.cmp (rg f a) gv) rfl HM5.out.c10 ?_) | (refine wpList_store_f rfl _ _ rfl g8 F.zero (f.nx.cmp (rg f a) gv) rfl rfl HM5.out.c8 ?_; intro w8 hc8 hb8 hs8; have H8 := hid hc8; have B8 := hid hb8; have C9 := hid (HM5.out.nine hb8); clear hc8 hb8 hs8) | (refine wpList_store_st rfl 38 _ _ rfl g9 (evc 0 0) rfl rfl C9.out size35 rfl rfl ?_; intro w9 hc9 hb9 hs9; have HO := hid (HM5.out.out H8.out B8.out hc9 hb9); clear hc9 hb9 hs9))
      refine ret_two rfl rfl g8 g9 _ _ rfl rfl HO.out.1 HO.out.2.1 under27 under35 rfl rfl (by rw [size27, F.len]) size35 ?_
      have hO := HDo.out
      rw [if_neg (by omega), if_neg (by omega), if_pos (by omega)] at hO
      rw [← hO]
      exact ⟨rfl, HO.out.2.2⟩
  · have j1 : 21 ≤ op := by omega
    have j2 : op ≤ 23 := by omega
    have hgr : grp op.toNat = 5 := by unfold grp; rw [if_neg (by omega), if_neg (by omega), if_neg (by omega), if_neg (by omega), if_neg (by omega), if_pos (by omega)]
    rw [hgr] at cg
    clear hgr
    have HJ := hid (fun W => HJm.out W j1 j2)
    generalize jm f.nx _ = fj at *
    go_upto_region 13 with fail
    go_upto_region 21 with (first | (refine wpList_load_f rfl _ rfl g10 f.nx rfl HM2.out.c10 ?_) | (go_at_call 53; refine (HJ.out _).mono ?_; rintro e w3 ⟨rfl, hb3⟩; have HM3 := hid (HM2.out.on hb3); clear hb3 q0 q1 q2 q3 q4 q5 cg) | (refine wpList_store_f rfl _ _ rfl g10 f.nx fj rfl rfl HM3.out.c10 ?_; intro w4 hc4 hb4 hs4; have HM4 := hid (HM3.out.put hc4 hb4); clear hc4 hb4 hs4))
    go_wp2_with (first | (refine wpList_load_f rfl _ rfl g10 fj rfl HM4.out.c10 ?_) | (refine wpList_store_f rfl _ _ rfl g8 F.zero fj rfl rfl HM4.out.c8 ?_; intro w8 hc8 hb8 hs8; have H8 := hid hc8; have B8 := hid hb8; have C9 := hid (HM4.out.nine hb8); clear hc8 hb8 hs8) | (refine wpList_store_st rfl 38 _ _ rfl g9 (evc 0 0) rfl rfl C9.out size35 rfl rfl ?_; intro w9 hc9 hb9 hs9; have HO := hid (HM4.out.out H8.out B8.out hc9 hb9); clear hc9 hb9 hs9))
    refine ret_two rfl rfl g8 g9 _ _ rfl rfl HO.out.1 HO.out.2.1 under27 under35 rfl rfl (by rw [size27, F.len]) size35 ?_
    have hO := HDo.out
    rw [if_neg (by omega), if_neg (by omega), if_neg (by omega), if_pos (by omega)] at hO
    rw [← hO]
    exact ⟨rfl, HO.out.2.2⟩
end Go.Proofs.YteldpapacdbbiaaGreatDoor
