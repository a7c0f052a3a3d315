/- adds 7. -/
import Derived.Test.YteldpapacdbbiaaGreatDoorC9
namespace Go.Proofs.YteldpapacdbbiaaGreatDoor
open Go.RowKit
set_option maxHeartbeats 8000000
set_option maxRecDepth 100000
attribute [-simp] Tryz.isAgg26 Tryz.sizeOf26 Tryz.isAgg24 Tryz.isAgg28 Tryz.sizeOf28
theorem lay1_ao (m : MS) (y : Ly) (ao : Option Addr) : ∀ k, m.lay1 { y with ao := ao } k = m.lay1 y k
  | 0 => rfl
  | k + 1 => by unfold MS.lay1; rw [lay1_ao m y ao k]
theorem lays_ao (m : MS) (L : Nat → Ly) (ao : Nat → Option Addr) : ∀ k, m.lays (fun j => { L j with ao := ao j }) k = m.lays L k
  | 0 => rfl
  | k + 1 => by unfold MS.lays; rw [lays_ao m L ao k, lay1_ao]
def aL (j : Nat) : Ly := if j = 0 then ⟨true, 0, 0, none, 1, 1, fun _ => 257⟩ else if j = 1 then ⟨true, 1, 1, none, 1, 1, fun _ => 523⟩ else ⟨true, 2, 0, none, 1, 1, fun _ => 281051136⟩
def aM : MS := (MS.new 3 1).lays aL 3
def aS : Out := stp aM 0 ⟨st3 7 8192 3, 4096, false, false, false⟩
theorem aS_eq : aS.k = 0 ∧ aS.a = 0 ∧ aS.f.r 3 = 10 ∧ aS.f.pc = 4100 := by decide +kernel
def aX (W : World) : World := (((W.alloc (.cells #[.int .u32 257] 23)).alloc (.cells #[.int .u32 523] 23)).alloc (.cells #[.int .u32 281051136] 23)).alloc (.cells #[.bool true, .int .i64 0, .int .i64 0, .slice (some ⟨W.heap.size, 0, none⟩) 1 1, .bool true, .int .i64 1, .int .i64 1, .slice (some ⟨W.heap.size + 1, 0, none⟩) 1 1, .bool true, .int .i64 2, .int .i64 0, .slice (some ⟨W.heap.size + 1 + 1, 0, none⟩) 1 1] 62)
def aQ (W : World) : Mq := ⟨2, 0, some ⟨W.heap.size + 1 + 1 + 1, 0, none⟩, 3, 3, 0, F.zero⟩
def aG (W : World) (j : Nat) : Ly := { aL j with ao := some ⟨W.heap.size + j, 0, none⟩ }
theorem F.zero_U : F.zero.U := ⟨fun _ => ⟨Int.le_refl 0, by show (0 : Int) < 4294967296; decide⟩, by decide, by decide⟩
theorem aX_ok (W : World) : (aQ W).Ok (aX W) (W.heap.size + 1 + 1 + 1) 0 (aG W) ∧ Below W.heap.size W (aX W) := by
  have b1 := below_one W (.cells #[.int .u32 257] 23)
  have b2 := below_one (W.alloc (.cells #[.int .u32 257] 23)) (.cells #[.int .u32 523] 23)
  have b3 := below_one ((W.alloc (.cells #[.int .u32 257] 23)).alloc (.cells #[.int .u32 523] 23)) (.cells #[.int .u32 281051136] 23)
  have b4 := below_one (((W.alloc (.cells #[.int .u32 257] 23)).alloc (.cells #[.int .u32 523] 23)).alloc (.cells #[.int .u32 281051136] 23)) (.cells #[.bool true, .int .i64 0, .int .i64 0, .slice (some ⟨W.heap.size, 0, none⟩) 1 1, .bool true, .int .i64 1, .int .i64 1, .slice (some ⟨W.heap.size + 1, 0, none⟩) 1 1, .bool true, .int .i64 2, .int .i64 0, .slice (some ⟨W.heap.size + 1 + 1, 0, none⟩) 1 1] 62)
  have c1 := (((Cel.new W 23 [.int .u32 257]).on b2).on b3).on b4
  have c2 := ((Cel.new (W.alloc (.cells #[.int .u32 257] 23)) 23 [.int .u32 523]).on b3).on b4
  have c3 := (Cel.new ((W.alloc (.cells #[.int .u32 257] 23)).alloc (.cells #[.int .u32 523] 23)) 23 [.int .u32 281051136]).on b4
  have c4 := Cel.new (((W.alloc (.cells #[.int .u32 257] 23)).alloc (.cells #[.int .u32 523] 23)).alloc (.cells #[.int .u32 281051136] 23)) 62 [.bool true, .int .i64 0, .int .i64 0, .slice (some ⟨W.heap.size, 0, none⟩) 1 1, .bool true, .int .i64 1, .int .i64 1, .slice (some ⟨W.heap.size + 1, 0, none⟩) 1 1, .bool true, .int .i64 2, .int .i64 0, .slice (some ⟨W.heap.size + 1 + 1, 0, none⟩) 1 1]
  rw [World.size_alloc] at c2
  rw [World.size_alloc, World.size_alloc] at c3
  rw [World.size_alloc, World.size_alloc, World.size_alloc] at c4
  refine ⟨⟨⟨fun _ => ⟨rfl, c4.lt⟩, ?_, ?_⟩, by show ((3 : Nat) : Int) ≤ 140737488355328; decide, F.zero_U⟩, below_on (below_on (below_on b1 b2) b3) b4⟩
  · intro j hj
    have hj3 : j = 0 ∨ j = 1 ∨ j = 2 := by have : j < 3 := hj; omega
    rcases hj3 with rfl | rfl | rfl
    · exact ⟨c4.cell 0, c4.cell 1, c4.cell 2, c4.cell 3⟩
    · exact ⟨c4.cell 4, c4.cell 5, c4.cell 6, c4.cell 7⟩
    · exact ⟨c4.cell 8, c4.cell 9, c4.cell 10, c4.cell 11⟩
  · intro j hj
    have hj3 : j = 0 ∨ j = 1 ∨ j = 2 := by have : j < 3 := hj; omega
    rcases hj3 with rfl | rfl | rfl
    · exact ⟨fun _ => ⟨W.heap.size, 0, rfl, c1.lt, fun k hk => by rw [show k = 0 from by have h1 : k < 1 := hk; omega]; exact c1.cell 0⟩, fun _ _ => ⟨by show (0 : Int) ≤ 257; decide, by show (257 : Int) < 4294967296; decide⟩⟩
    · exact ⟨fun _ => ⟨W.heap.size + 1, 0, rfl, c2.lt, fun k hk => by rw [show k = 0 from by have h1 : k < 1 := hk; omega]; exact c2.cell 0⟩, fun _ _ => ⟨by show (0 : Int) ≤ 523; decide, by show (523 : Int) < 4294967296; decide⟩⟩
    · exact ⟨fun _ => ⟨W.heap.size + 2, 0, rfl, c3.lt, fun k hk => by rw [show k = 0 from by have h1 : k < 1 := hk; omega]; exact c3.cell 0⟩, fun _ _ => ⟨by show (0 : Int) ≤ 281051136; decide, by show (281051136 : Int) < 4294967296; decide⟩⟩
theorem under28 : Tryz.prog.underlying 28 = some (.struct (Tryz.prog.fieldsOf 28)) := by kernel_rfl
theorem size28 : (Tryz.prog.info? 28).map (·.size) = some 23 := by kernel_rfl
theorem built28 (v : Value) (ao : Option Addr) (n c : Nat) (hv : v = .slice ao n c) : Tryz.prog.built 28 [(0, .int .i64 2), (2, v)] = some (Mq.cs ⟨2, 0, ao, n, c, 0, F.zero⟩).toArray := by subst hv; kernel_rfl
theorem Mq.all (q : Mq) : q.cs.all (·.oneCell') = true := by
  unfold Mq.cs
  rw [List.all_append, F.all]
  rfl
theorem wpList_build28 {ops : Array Oper} {rest : List Oper} {o : Oper} {a : Act} {w : World} {Q : Exit → Act → World → Prop} (hgd : o.guard = none) (x y : Operand) (ho : o.op = .build 28 #[(0, x), (2, y)]) (ao : Option Addr) (n c : Nat) (hx : a.eval x = .int .i64 2) (hy : a.eval y = .slice ao n c)
    (h : wpList Tryz.prog ops Q rest (a.put o.dst (Mq.v ⟨2, 0, ao, n, c, 0, F.zero⟩)) w) : wpList Tryz.prog ops Q (o :: rest) a w :=
  wpList_build_f hgd 28 _ ho #[(0, .int .i64 2), (2, .slice ao n c)] (by simp only [List.map_toArray, List.map_cons, List.map_nil, hx, hy]) _ (built28 _ ao n c rfl) h
def zQ : Mq := ⟨0, 0, none, 0, 0, 0, F.zero⟩
def zqA : Array Value := #[.int .i64 0, .int .i64 0, .slice none 0 0, .int .i64 0, .int .u32 0, .int .u32 0, .int .u32 0, .int .u32 0, .int .u32 0, .int .u32 0, .int .u32 0, .int .u32 0, .int .u32 0, .int .u32 0, .int .u32 0, .int .u32 0, .int .u32 0, .int .u32 0, .int .u32 0, .int .u32 0, .bool false, .bool false, .bool false]
theorem zqA_eq : zqA = zQ.cs.toArray := by kernel_rfl
theorem aX_size (W : World) : (aX W).heap.size = W.heap.size + 1 + 1 + 1 + 1 := by unfold aX; rw [World.size_alloc, World.size_alloc, World.size_alloc, World.size_alloc]
theorem aQ_m (W : World) : (aQ W).m (aG W) = aM := by
  unfold Mq.m aM
  exact lays_ao (MS.new 3 1) aL (fun j => some ⟨W.heap.size + j, 0, none⟩) 3
theorem wpList_load_q {ops : Array Oper} {rest : List Oper} {o : Oper} {a : Act} {w : World} {Q : Exit → Act → World → Prop} (hgd : o.guard = none) (x : Operand) (ho : o.op = .load 28 x)
    (g : Nat) (q : Mq) (hx : a.eval x = .pointer (some ⟨g, 0, none⟩)) (hg : Cel w g 28 q.cs)
    (h : wpList Tryz.prog ops Q rest (a.put o.dst q.v) w) : wpList Tryz.prog ops Q (o :: rest) a w :=
  wpList_load_mid hgd 28 x ho g 0 hx _ _ hg.range under28 rfl (by rw [size28, Mq.len]) h
theorem aF_U : F.U ⟨st3 7 8192 3, 4096, false, false, false⟩ := ⟨fun k => by
  show 0 ≤ st3 7 8192 3 k ∧ st3 7 8192 3 k < 4294967296
  unfold st3
  exact in_ite ⟨by decide, by decide⟩ (in_ite ⟨by decide, by decide⟩ (in_ite ⟨by decide, by decide⟩ ⟨by decide, by decide⟩)), by decide, by decide⟩
theorem lay1_U {m : MS} {y : Ly} (h : m.U) (hr : ∀ j, j < y.n → 0 ≤ y.w j ∧ y.w j < 4294967296) : ∀ k, k ≤ y.n → (m.lay1 y k).U
  | 0, _ => h
  | k + 1, hk => by
    unfold MS.lay1
    split
    · exact (lay1_U h hr k (by omega)).write _ _ _ _ (hr k (by omega)).1 (hr k (by omega)).2
    · exact lay1_U h hr k (by omega)
theorem lays_U {m : MS} {L : Nat → Ly} {n : Nat} (h : m.U) (hr : ∀ i, i < n → ∀ j, j < (L i).n → 0 ≤ (L i).w j ∧ (L i).w j < 4294967296) : ∀ k, k ≤ n → (m.lays L k).U
  | 0, _ => h
  | k + 1, hk => by
    unfold MS.lays
    exact lay1_U (lays_U h hr k (by omega)) (hr k (by omega)) _ (by omega)
theorem Mq.Ok.U {W : World} {q : Mq} {b off : Nat} {L : Nat → Ly} (h : q.Ok W b off L) : (q.m L).U := lays_U (MS.U.new _ _) (fun i hi => (h.at_.ok i hi).r) _ (Nat.le_refl _)
theorem NewMem.lo {W w : World} {f : Fp} {m : MS} (h : NewMem W w f m) (hz : 3 < W.heap.size) : ∀ k ∈ f.w, 3 < k := fun k hk => by
  have := h.new k (by simp only [Fp.w, Fp.all, List.mem_cons] at hk ⊢; rcases hk with hk | hk <;> simp [hk])
  omega
/-- Two new variables: a file and an event. -/
structure Two (w x : World) (g : Nat) : Prop where
  c0 : Cel x g 26 F.zero.cs
  c1 : Cel x (g + 1) 38 (evc 0 0)
  below : Below w.heap.size w x
  size : x.heap.size = w.heap.size + 2
theorem Two.new (w : World) : Two w ((w.alloc zf).alloc (.cells (evc 0 0).toArray 38)) w.heap.size := by
  have hz : zf = .cells F.zero.cs.toArray 26 := by unfold zf; rw [zc]
  rw [hz]
  have h9 := Cel.new (w.alloc (.cells F.zero.cs.toArray 26)) 38 (evc 0 0)
  rw [World.size_alloc] at h9
  exact ⟨(Cel.new w 26 F.zero.cs).on (below_one _ _), h9, below_on (below_one _ _) (below_one _ _), by rw [World.size_alloc, World.size_alloc]⟩
/-- They are filled. -/
structure Full (w x : World) (g : Nat) (f : F) (k a : Int) : Prop where
  c0 : Cel x g 26 f.cs
  c1 : Cel x (g + 1) 38 (evc k a)
  below : Below w.heap.size w x
theorem Two.fill {w x x1 x2 : World} {g : Nat} {f : F} {k a : Int} (h : Two w x g) (hg : w.heap.size ≤ g) (h1 : Cel x1 g 26 f.cs) (b1 : ButL [g] x x1) (h2 : Cel x2 (g + 1) 38 (evc k a)) (b2 : ButL [g + 1] x1 x2) : Full w x2 g f k a :=
  ⟨h1.but b2 (by simp), h2, (h.below.trans (b1.below (B := w.heap.size) (by simpa using hg) h.below.size)).trans (b2.below (B := w.heap.size) (by simp; omega) (by have := b1.size; have := h.below.size; omega))⟩
theorem Full.on {w x x' : World} {g : Nat} {f : F} {k a : Int} (h : Full w x g f k a) (hb : Below x.heap.size x x') : Full w x' g f k a := ⟨h.c0.on hb, h.c1.on hb, below_on h.below hb⟩
theorem adds_any (W : World) (hT : Tb W) : Calls Tryz.prog 5 #[] W fun e W' => e = .returned (.bool true) ∧ Below W.heap.size W W' := by
  have hX := aX_ok W
  have HZ : Hid (Cel ((aX W).alloc (.cells zqA 28)) (W.heap.size + 1 + 1 + 1 + 1) 28 zQ.cs) := hid (by rw [zqA_eq, ← aX_size]; exact Cel.new _ 28 _)
  have HBx := hid (below_on hX.2 (below_one (aX W) (.cells zqA 28)))
  have HQx : Hid (∀ w1, ButL [W.heap.size + 1 + 1 + 1 + 1] ((aX W).alloc (.cells zqA 28)) w1 → (aQ W).Ok w1 (W.heap.size + 1 + 1 + 1) 0 (aG W)) := hid (fun w1 hb => hX.1.on ((below_one (aX W) (.cells zqA 28)).trans (hb.below (B := (aX W).heap.size) (by rw [aX_size]; simp) (by rw [World.size_alloc]; omega))))
  have HT := hid hT
  clear hX hT
  unfold aX zqA at HZ HBx HQx
  go_enter Tryz.func5, Tryz.ntmps5
  go_upto_region 1 with fail
  go_upto_region 2 with (first | (refine wpList_build28 rfl _ _ rfl (some ⟨W.heap.size + 1 + 1 + 1, 0, none⟩) 3 3 rfl rfl ?_) | (refine wpList_store_st rfl 28 _ _ rfl (W.heap.size + 1 + 1 + 1 + 1) (aQ W).cs rfl rfl HZ.out (by rw [size28, Mq.len]) (by rw [Mq.len, Mq.len]) (Mq.all _) ?_; intro w1 hc1 hb1 hs1; have HC1 := hid hc1; have HB1 := hid (HBx.out.trans (hb1.below (B := W.heap.size) (by simp; omega) HBx.out.size)); have HQ1 := hid (HQx.out _ hb1); clear hc1 hb1 hs1))
  simp only [Act.put]
  clear HZ HBx HQx
  have HMd := hid (made_any w1 (aQ W) _ _ _ HQ1.out)
  rw [aQ_m] at HMd
  generalize W.heap.size + 1 + 1 + 1 + 1 = g4 at *
  have HU : Hid aM.U := hid (by have := HQ1.out.U; rwa [aQ_m] at this)
  have HS := hid (fun x f (hb : Below W.heap.size W x) (hm : Mem x f aM) (hl : ∀ k ∈ f.w, 3 < k) => step_any x (HT.out.on hb) f aM hm HU.out 0 _ aF_U hl)
  rw [show stp aM 0 ⟨st3 7 8192 3, 4096, false, false, false⟩ = aS from rfl] at HS
  have HSt := hid (fun W => start_any W 4096 7 8192 3)
  unfold ptr at HS
  have HE := hid aS_eq
  have HTz := hid HT.out.z
  generalize aS = o at *
  generalize aM = m at *
  clear HU HT HQ1
  go_wp2_with (first | (refine wpList_load_q rfl _ rfl g4 (aQ W) rfl HC1.out ?_) | (go_at_call 4; refine HMd.out.mono ?_; rintro e w2 ⟨f, rfl, hm2⟩; have HM2 := hid hm2; clear hm2; unfold ptr))
  refine (HSt.out _).mono ?_
  rintro e w3 ⟨rfl, hb3⟩
  have HM3 := hid (HM2.out.on hb3)
  have HB3 := hid (HB1.out.trans ((HM2.out.on hb3).below.mono HB1.out.size))
  clear hb3 HM2
  go_wp2_with fail
  refine (HS.out _ f HB3.out HM3.out.mem (HM3.out.lo (by have := HTz.out; have := HB1.out.size; omega))).mono ?_
  rintro e w4 ⟨rfl, hr4⟩
  have HB4 := hid (HB3.out.trans (hr4.but.below (B := W.heap.size) (fun k hk => by have := HM3.out.new k (by simp only [Fp.w, Fp.all, List.mem_cons] at hk ⊢; rcases hk with hk | hk <;> simp [hk]); have := HB1.out.size; omega) HB3.out.size))
  have HT4 := hid (Two.new w4)
  simp only [zf, evc] at HT4
  clear hr4 HM3 HS HSt
  unfold Out.v evc
  go_upto_region 6 with (first | (refine wpList_store_f rfl _ _ rfl w4.heap.size F.zero o.f rfl rfl HT4.out.c0 ?_; intro w5 hc5 hb5 hs5; have H5 := hid (And.intro hc5 hb5); have C9 := hid (HT4.out.c1.but hb5 (by simp)); clear hc5 hb5 hs5) | (refine wpList_store_st rfl 38 _ _ rfl (w4.heap.size + 1) (evc o.k o.a) rfl rfl C9.out size35 rfl rfl ?_; intro w6 hc6 hb6 hs6; have H6 := hid (HT4.out.fill (Nat.le_refl _) H5.out.1 H5.out.2 hc6 hb6); clear hc6 hb6 hs6))
  try simp only [Act.put]
  have d0 : w6.cell? ⟨w4.heap.size + 1, 0, none⟩ = some (.int .i64 o.k) := H6.out.c1.cell 0
  have d1 : w6.cell? ⟨w4.heap.size + 1, 1, none⟩ = some (.int .u32 o.a) := H6.out.c1.cell 1
  have d3 := (H6.out.c0.cell 3).trans (o.f.at 3 (by decide))
  have d15 := (H6.out.c0.cell 15).trans o.f.at15
  rw [HE.out.1] at d0
  rw [HE.out.2.1] at d1
  rw [HE.out.2.2.1] at d3
  rw [HE.out.2.2.2] at d15
  have HB6 := hid (below_on HB4.out H6.out.below)
  clear HE HT4 H5 C9 H6 HB4 HB3 HC1
  generalize w4.heap.size + 1 = g6 at *
  generalize w4.heap.size = g5 at *
  go_wp2_with fail
  go_ret
  exact ⟨rfl, HB6.out⟩
end Go.Proofs.YteldpapacdbbiaaGreatDoor
