/- CpuAll 3. -/
import Derived.Test.YteldpapacdbbiaaGreatDoorF4
namespace Go.Proofs.YteldpapacdbbiaaGreatDoor
open Go.RowKit
set_option maxHeartbeats 16000000
set_option maxRecDepth 100000
attribute [-simp] Tryz.isAgg26 Tryz.sizeOf26 Tryz.isAgg24 Tryz.isAgg28 Tryz.sizeOf28 Tryz.isAgg34 Tryz.sizeOf34
theorem TB.first {W X w1 w2 w3 : World} {fa : Fp} {r : Rf} {m : MS} {q : Mq} (hX : X = W.alloc (.cells q.cs.toArray 28)) (h1 : NewMem X w1 fa m) (h2 : Below w1.heap.size w1 w2) (h3 : NewR w2 w3 r m) : TB W w3 fa r m m [(W.heap.size, 28, q.cs)] := by
  subst hX
  have hs : W.heap.size < (W.alloc (.cells q.cs.toArray 28)).heap.size := by rw [World.size_alloc]; omega
  have h4 := h1.below.size
  have h5 := h2.size
  have hb := below_on (below_on (below_on (below_one W (.cells q.cs.toArray 28)) h1.below) h2) h3.below
  have hc := ((Cel.new W 28 q.cs).on h1.below).on h2
  refine ⟨(h1.mem.on h2).on h3.below, h3.mem, hb, fun k hk => by have := h1.new k hk; omega, fun k hk => by have := h3.new k hk; omega, fun k hk hf => by
    have := h1.mem.lt k hf
    have := h3.new k hk
    omega, fun p hp => ?_, fun p hp => ?_, by simp⟩
  · rw [List.mem_singleton] at hp
    subst hp
    exact hc.on h3.below
  · rw [List.mem_singleton] at hp
    subst hp
    exact ⟨Nat.le_refl _, fun hf => by have := h1.new _ hf; simp only at this; omega, fun hf => by have := h3.new _ hf; simp only at this; omega⟩
theorem all_any (W : World) (hT : Tb W) (q : Mq) (bk off : Nat) (L : Nat → Ly) (hq : q.Ok W bk off L) (x1 x2 : Int) :
    Calls Tryz.prog 3 #[q.v, .int .i64 x1, .int .i64 x2] W fun e W' => e = .returned (.bool true) ∧ Below W.heap.size W W' := by
  have HC : Hid (Cel (W.alloc (.cells q.cs.toArray 28)) W.heap.size 28 q.cs) := hid (Cel.new W 28 _)
  have HB0 := hid (below_one W (.cells q.cs.toArray 28))
  have HMd := hid (fun x (hb : Below W.heap.size W x) => made_any x q bk off L (hq.on hb))
  have HMr := hid (fun x (hb : Below W.heap.size W x) => madeDoc_any x q bk off L (hq.on hb))
  have HAd := hid (fun x (hb : Below W.heap.size W x) => adds_any x (hT.on hb))
  have HU := hid (And.intro hq.U hq.f)
  have HF := hid (fun x f => docFile_any x f)
  have HV := hid (fun x k a => docEvent_any x k a)
  have HS : Hid (∀ (x : World) (fa : Fp) (r : Rf) (ma mr : MS) (f' : F) (K : List (Nat × TypeId × List Value)), TB W x fa r ma mr K → ma.U → f'.U → Calls Tryz.prog 8 #[ptr fa.gm, .int .i64 q.l, f'.v] x fun e w' => e = .returned (stp ma q.l f').v ∧ Rd x w' fa (stp ma q.l f').m) := hid (fun x fa r ma mr f' K h hU' hF' => step_any x (hT.on h.below) fa ma h.a hU' q.l f' hF' (h.loA hT.z))
  have HSr : Hid (∀ (x : World) (fa : Fp) (r : Rf) (ma mr : MS) (f' : F) (K : List (Nat × TypeId × List Value)), TB W x fa r ma mr K → mr.U → f'.U → Calls Tryz.prog 9 #[ptr r.g, .int .i64 q.l, f'.v] x fun e w' => e = .returned (stp mr q.l f').v ∧ ∃ r2, RSt x w' r r2 (stp mr q.l f').m) := hid (fun x fa r ma mr f' K h hU' hF' => rstep_any x (hT.on h.below) r mr h.d hU' q.l f' hF' (h.loR hT.z))
  have HRn : Hid (∀ (ma : MS) (f' : F), ma.U → f'.U → ∃ o : Ran, (∀ (x : World) (fa : Fp) (r : Rf) (mr : MS) (K : List (Nat × TypeId × List Value)), TB W x fa r ma mr K → Calls Tryz.prog 13 #[ptr fa.gm, .int .i64 q.l, f'.v, .int .i64 x2] x fun e w' => e = .returned o.v ∧ Rd x w' fa o.m) ∧ (∀ (x : World) (fa : Fp) (r : Rf) (mb : MS) (K : List (Nat × TypeId × List Value)), TB W x fa r mb ma K → Calls Tryz.prog 14 #[ptr r.g, .int .i64 q.l, f'.v, .int .i64 x2] x fun e w' => e = .returned o.v ∧ ∃ r2, RSt x w' r r2 o.m)) := hid (fun ma f' hU' hF' => by
    obtain ⟨o, ho⟩ := run_two ma q.l f' x2
    obtain ⟨h1, h2⟩ := ho hU' hF'
    exact ⟨o, fun x fa r mr K h => h1 x fa (hT.on h.below) h.a (h.loA hT.z), fun x fa r mb K h => h2 x r (hT.on h.below) h.d (h.loR hT.z)⟩)
  clear hT hq
  generalize q.m L = m0 at *
  simp only [F.v] at *
  unfold ptr at *
  unfold Mq.v
  go_enter Tryz.func3, Tryz.ntmps3
  go_upto_region 1 with fail
  generalize hX : W.alloc _ = X at *
  have HX := hid hX.symm
  clear hX
  go_upto_region 2 with (first | (refine wpList_load_q rfl _ rfl W.heap.size q rfl HC.out ?_) | (go_at_call 4; unfold Mq.v at HMd; refine (HMd.out _ HB0.out).mono ?_; rintro e w1 ⟨fa, rfl, hm1⟩; have HM1 := hid hm1; have HB1 := hid (below_on HB0.out hm1.below); have HC1 := hid (HC.out.on hm1.below); clear hm1))
  clear HMd
  go_upto_region 4 with (go_at_call 5; refine (HAd.out _ HB1.out).mono ?_; rintro e w2 ⟨rfl, hb2⟩; have HA2 := hid hb2; have HB2 := hid (below_on HB1.out hb2); have HC2 := hid (HC1.out.on hb2); clear hb2)
  clear HAd
  go_upto_region 5 with (first | (refine wpList_load_q rfl _ rfl W.heap.size q rfl HC2.out ?_) | (go_at_call 6; unfold Mq.v at HMr; refine (HMr.out _ HB2.out).mono ?_; rintro e w3 ⟨r0, rfl, hm3⟩; have B3 := hid (TB.first HX.out HM1.out HA2.out hm3); clear hm3))
  clear HMr HM1 HA2 HB0 HB1 HB2 HC HC1 HC2 HX
  generalize W.heap.size = g3 at B3 ⊢
  have B4 := hid B3.out.boxf
  simp only [zf] at B4
  go_upto_region 6 with (first | (refine wpList_fa4 rfl _ rfl g3 rfl ?_) | (refine wpList_load_qf rfl _ rfl g3 q rfl (B3.out.get 0 rfl) ?_) | (refine wpList_store_f rfl _ _ rfl w3.heap.size F.zero q.f rfl rfl (B4.out.get 0 rfl) ?_; intro w4 hc hb hs; have B5 := hid (B4.out.put 0 rfl hc hb); clear hc hb hs))
  clear B3 B4
  simp only [List.set_cons_zero] at B5
  generalize w3.heap.size = g9 at *
  simp only [F.v] at *
  go_upto_region 7 with (first | (refine wpList_fa4 rfl _ rfl g3 rfl ?_) | (refine wpList_load_qf rfl _ rfl g3 q rfl (B5.out.get 1 rfl) ?_) | (go_at_call 7; refine (HF.out _ q.f).mono ?_; rintro e w5 ⟨rfl, hb5⟩; have B6 := hid (B5.out.on hb5); have B7 := hid B6.out.boxg; simp only [zg] at B7; clear hb5) | (refine wpList_store_g rfl _ _ rfl w5.heap.size F.zero q.f rfl rfl (B7.out.get 0 rfl) ?_; intro w6 hc hb hs; have B8 := hid (B7.out.put 0 rfl hc hb); clear hc hb hs))
  clear B5 B6 B7
  simp only [List.set_cons_zero] at B8
  generalize w5.heap.size = g10 at *
  generalize hgr : r0.g = gr at *
  have HG := hid hgr
  clear hgr
  go_wp2_with fail
  go_loopw [11] (fun i wr => ∃ (j : Nat) (r1 : Rf) (m' : MS) (f' : F), j ≤ min x1.toNat 1000 ∧ i = .int .i64 (j : Int) ∧ Hid (TB W wr fa r1 m' m' [(g10, 34, f'.cs), (g9, 26, f'.cs), (g3, 28, q.cs)] ∧ m'.U ∧ f'.U ∧ r1.g = gr)) (fun i _ => min x1.toNat 1000 - (intOf i).toNat)
  case atStart => exact ⟨0, r0, m0, q.f, Nat.zero_le _, rfl, hid ⟨B8.out, HU.out.1, HU.out.2, HG.out⟩⟩
  case round =>
    obtain ⟨j, r1, m', f', hj, rfl, HQ⟩ := hrel
    clear B8 HU HG
    have c3 : wr.cell? ⟨g3, 3, none⟩ = some (.int .i64 q.l) := (HQ.out.1.get 2 rfl).cell 3
    by_cases hlt : j < min x1.toNat 1000
    · have q1 : (j : Int) < x1 := by omega
      have q2 : (j : Int) < 1000 := by omega
      have HJ : Hid (j < min x1.toNat 1000) := hid hlt
      clear hlt hj
      have HS1 := hid (HS.out _ fa r1 m' m' f' _ HQ.out.1 HQ.out.2.1 HQ.out.2.2.1)
      have HS2 := hid (fun x ma K (h : TB W x fa r1 ma m' K) => HSr.out x fa r1 ma m' f' K h HQ.out.2.1 HQ.out.2.2.1)
      have HU1 := hid (stp_U HQ.out.2.1 q.l HQ.out.2.2.1)
      have HG1 := hid HQ.out.2.2.2
      rw [HG1.out] at HS2
      have HM := hid HQ.out.1
      clear HQ
      generalize stp m' q.l f' = s at *
      go_upto_region 11 with (first | (refine wpList_load_f rfl _ rfl g9 f' rfl (HM.out.get 1 rfl) ?_) | (go_at_call 8; refine HS1.out.mono ?_; rintro e w1 ⟨rfl, hs1⟩; have A1 := hid (HM.out.stepA hs1); have A2 := hid A1.out.twoA; simp only [zf, evc] at A2; clear hs1; unfold Out.v evc) | (refine wpList_store_f rfl _ _ rfl w1.heap.size F.zero s.f rfl rfl (A2.out.get 1 rfl) ?_; intro w2 hc hb hs; have A3 := hid (A2.out.put 1 rfl hc hb); clear hc hb hs) | (refine wpList_store_st rfl 38 _ _ rfl (w1.heap.size + 1) (evc s.k s.a) rfl rfl (A3.out.get 0 rfl) size35 rfl rfl ?_; intro w3 hc hb hs; have A4 := hid (A3.out.put 0 rfl hc hb); clear hc hb hs))
      clear A1 A2 A3 HM HS1
      simp only [List.set_cons_zero, List.set_cons_succ] at A4
      generalize w1.heap.size + 1 = g13 at *
      generalize w1.heap.size = g12 at *
      have c3' : w3.cell? ⟨g3, 3, none⟩ = some (.int .i64 q.l) := (A4.out.get 4 rfl).cell 3
      clear c3
      have HS3 := hid (HS2.out _ _ _ A4.out)
      clear HS2
      go_upto_region 12 with (first | (refine wpList_load_g rfl _ rfl g10 f' rfl (A4.out.get 2 rfl) ?_) | (go_at_call 9; refine HS3.out.mono ?_; rintro e w4 ⟨rfl, r2, hs1⟩; have HG2 := hid (hs1.g.trans HG1.out); have A5 := hid (A4.out.stepR hs1); have A6 := hid A5.out.twoR; simp only [zg, evc] at A6; clear hs1; unfold Out.v evc) | (refine wpList_store_g rfl _ _ rfl w4.heap.size F.zero s.f rfl rfl (A6.out.get 1 rfl) ?_; intro w5 hc hb hs; have A7 := hid (A6.out.put 1 rfl hc hb); clear hc hb hs) | (refine wpList_store_st rfl 42 _ _ rfl (w4.heap.size + 1) (evc s.k s.a) rfl rfl (A7.out.get 0 rfl) size42 rfl rfl ?_; intro w6 hc hb hs; have A8 := hid (A7.out.put 0 rfl hc hb); clear hc hb hs))
      clear A4 A5 A6 A7 HS3 c3'
      simp only [List.set_cons_zero, List.set_cons_succ] at A8
      generalize w4.heap.size + 1 = g15 at *
      generalize w4.heap.size = g14 at *
      go_upto_region 13 with (first | (refine wpList_load_f rfl _ rfl g12 s.f rfl (A8.out.get 3 rfl) ?_) | (refine wpList_store_f rfl _ _ rfl g9 f' s.f rfl rfl (A8.out.get 5 rfl) ?_; intro w7 hc hb hs; have A9 := hid (A8.out.put 5 rfl hc hb); clear hc hb hs))
      clear A8
      simp only [List.set_cons_zero, List.set_cons_succ] at A9
      go_upto_region 14 with (first | (refine wpList_load_g rfl _ rfl g14 s.f rfl (A9.out.get 1 rfl) ?_) | (refine wpList_store_g rfl _ _ rfl g10 f' s.f rfl rfl (A9.out.get 4 rfl) ?_; intro w8 hc hb hs; have AA := hid (A9.out.put 4 rfl hc hb); clear hc hb hs))
      clear A9
      simp only [List.set_cons_zero, List.set_cons_succ] at AA
      have AD := hid (AA.out.on (Below.refl _ _).drew)
      refine wp_region_held_drew (S := fun x => Cel x g9 26 s.f.cs ∧ Cel x g10 34 s.f.cs ∧ Cel x g13 38 (evc s.k s.a) ∧ Cel x g15 42 (evc s.k s.a)) (by kernel_rfl) ⟨AD.out.get 5 rfl, AD.out.get 4 rfl, AD.out.get 2 rfl, AD.out.get 0 rfl⟩ (fun hHeld => ?_)
      refine wpAnyH_take (i := 0) (oi := { dst := some 66, op := Op.load 26 (Operand.tmp 9), type := 26, pos := "law.go:126", after := #[], guard := none }) (v := .agg s.f.cs.toArray) rfl (by kernel_rfl) (by kernel_rfl) (by kernel_rfl) (fun _ _ _ h => h) (yieldsIf_load_mid (by rfl) _ _ rfl _ _ rfl _ _ (fun w hSw => hSw.1.range) under27 rfl (by rw [size27, F.len])) (by assumption) ?_
      simp only [Act.put, List.setIfInBounds_toArray, List.set_cons_zero, List.set_cons_succ]
      refine wpAnyH_take (i := 2) (oi := { dst := some 68, op := Op.load 34 (Operand.tmp 10), type := 34, pos := "law.go:126", after := #[], guard := none }) (v := .agg s.f.cs.toArray) rfl (by kernel_rfl) (by kernel_rfl) (by kernel_rfl) (fun _ _ _ h => h) (yieldsIf_load_mid (by rfl) _ _ rfl _ _ rfl _ _ (fun w hSw => hSw.2.1.range) under25 rfl (by rw [size25, F.len])) (by assumption) ?_
      simp only [Act.put, List.setIfInBounds_toArray, List.set_cons_zero, List.set_cons_succ]
      refine wpAnyH_ready (rs := [1]) (by kernel_rfl) (by simp) (AllReadyH.cons (o := { dst := some 67, op := Op.call { callee := Callee.value (Operand.func 7), args := #[Operand.tmp 66], argTypes := #[26] }, type := 34, pos := "law.go:126", after := #[{ on := 0, ground := Ground.data }], guard := none }) rfl (fun KQ hK => ?_) AllReadyH.nil)
      go_simp
      refine (HF.out _ s.f).mono ?_
      rintro e w9 ⟨rfl, hb⟩
      have AE := hid (AD.out.on hb)
      clear hb
      go_wp2_with fail
      refine hK.out _ _ ⟨AE.out.get 5 rfl, AE.out.get 4 rfl, AE.out.get 2 rfl, AE.out.get 0 rfl⟩ (fun hHeld => ?_)
      clear hK KQ
      try simp only [Act.put, List.setIfInBounds_toArray, List.set_cons_zero, List.set_cons_succ]
      refine wpAnyH_take (i := 3) (oi := { dst := some 69, op := Op.binOp BinOp.neq 34 (Operand.tmp 67) (Operand.tmp 68) 34, type := 4, pos := "law.go:126", after := #[{ on := 1, ground := Ground.data }, { on := 2, ground := Ground.data }], guard := none }) (v := .bool false) rfl (by kernel_rfl) (by kernel_rfl) (by kernel_rfl) (fun _ _ _ h => h) (Or.inl ⟨by rfl, by intro w hSw; exact exec_neq_g _ _ rfl s.f s.f rfl rfl false (by rw [F.same_self]; rfl)⟩) (by assumption) ?_
      simp only [Act.put, List.setIfInBounds_toArray, List.set_cons_zero, List.set_cons_succ]
      refine wpAnyH_take (i := 4) (oi := { dst := some 70, op := Op.move (Operand.tmp 69), type := 4, pos := "law.go:126", after := #[{ on := 3, ground := Ground.data }, { on := 1, ground := Ground.chain }], guard := none }) (v := .bool false) rfl (by kernel_rfl) (by kernel_rfl) (by kernel_rfl) (fun _ _ _ h => h) (Or.inl ⟨by rfl, by intro w hSw; go_simp⟩) (by assumption) ?_
      simp only [Act.put, List.setIfInBounds_toArray, List.set_cons_zero, List.set_cons_succ]
      refine wpAnyH_take (i := 5) (oi := { dst := some 71, op := Op.load 38 (Operand.tmp 13), type := 38, pos := "law.go:126", after := #[{ on := 4, ground := Ground.guard }], guard := some (4, false) }) (v := .agg (evc s.k s.a).toArray) rfl (by kernel_rfl) (by kernel_rfl) (by kernel_rfl) (fun _ _ _ h => h) (yieldsIf_load_mid (by rfl) _ _ rfl _ _ rfl _ _ (fun w hSw => hSw.2.2.1.range) under35 rfl size35) (by assumption) ?_
      simp only [Act.put, List.setIfInBounds_toArray, List.set_cons_zero, List.set_cons_succ]
      refine wpAnyH_take (i := 7) (oi := { dst := some 73, op := Op.load 42 (Operand.tmp 15), type := 42, pos := "law.go:126", after := #[{ on := 4, ground := Ground.guard }], guard := some (4, false) }) (v := .agg (evc s.k s.a).toArray) rfl (by kernel_rfl) (by kernel_rfl) (by kernel_rfl) (fun _ _ _ h => h) (yieldsIf_load_mid (by rfl) _ _ rfl _ _ rfl _ _ (fun w hSw => hSw.2.2.2.range) under42 rfl size42) (by assumption) ?_
      simp only [Act.put, List.setIfInBounds_toArray, List.set_cons_zero, List.set_cons_succ]
      refine wpAnyH_ready (rs := [6]) (by kernel_rfl) (by simp) (AllReadyH.cons (o := { dst := some 72, op := Op.call { callee := Callee.value (Operand.func 10), args := #[Operand.tmp 71], argTypes := #[38] }, type := 42, pos := "law.go:126", after := #[{ on := 5, ground := Ground.data }, { on := 4, ground := Ground.chain }, { on := 4, ground := Ground.guard }], guard := some (4, false) }) rfl (fun KQ hK => ?_) AllReadyH.nil)
      go_simp
      refine (HV.out _ s.k s.a).mono ?_
      rintro e w10 ⟨rfl, hb⟩
      have AF := hid (AE.out.on hb)
      clear hb
      go_wp2_with fail
      refine hK.out _ _ ⟨AF.out.get 5 rfl, AF.out.get 4 rfl, AF.out.get 2 rfl, AF.out.get 0 rfl⟩ (fun hHeld => ?_)
      clear hK KQ
      try simp only [Act.put, List.setIfInBounds_toArray, List.set_cons_zero, List.set_cons_succ]
      refine wpAnyH_take (i := 8) (oi := { dst := some 74, op := Op.binOp BinOp.neq 42 (Operand.tmp 72) (Operand.tmp 73) 42, type := 4, pos := "law.go:126", after := #[{ on := 6, ground := Ground.data }, { on := 7, ground := Ground.data }, { on := 4, ground := Ground.guard }], guard := some (4, false) }) (v := .bool false) rfl (by kernel_rfl) (by kernel_rfl) (by kernel_rfl) (fun _ _ _ h => h) (Or.inl ⟨by rfl, by intro w hSw; unfold evc; go_simp⟩) (by assumption) ?_
      simp only [Act.put, List.setIfInBounds_toArray, List.set_cons_zero, List.set_cons_succ]
      refine wpAnyH_take (i := 9) (oi := { dst := some 75, op := Op.pick (Operand.tmp 70) (Operand.const (Value.bool true)) (Operand.tmp 74), type := 4, pos := "law.go:126", after := #[{ on := 4, ground := Ground.data }, { on := 8, ground := Ground.data }], guard := none }) (v := .bool false) rfl (by kernel_rfl) (by kernel_rfl) (by kernel_rfl) (fun _ _ _ h => h) (Or.inl ⟨by rfl, by intro w hSw; go_simp⟩) (by assumption) ?_
      simp only [Act.put, List.setIfInBounds_toArray, List.set_cons_zero, List.set_cons_succ]
      refine wpAnyH_take (i := 10) (oi := { dst := some 76, op := Op.move (Operand.tmp 75), type := 4, pos := "law.go:126", after := #[{ on := 9, ground := Ground.data }, { on := 6, ground := Ground.chain }], guard := none }) (v := .bool false) rfl (by kernel_rfl) (by kernel_rfl) (by kernel_rfl) (fun _ _ _ h => h) (Or.inl ⟨by rfl, by intro w hSw; go_simp⟩) (by assumption) ?_
      simp only [Act.put, List.setIfInBounds_toArray, List.set_cons_zero, List.set_cons_succ]
      refine wpAnyH_take (i := 11) (oi := { dst := some 77, op := Op.move (Operand.tmp 7), type := 29, pos := "law.go:126", after := #[{ on := 10, ground := Ground.guard }], guard := some (10, false) }) (v := .pointer (some ⟨fa.gm, 0, none⟩)) rfl (by kernel_rfl) (by kernel_rfl) (by kernel_rfl) (fun _ _ _ h => h) (Or.inl ⟨by rfl, by intro w hSw; go_simp⟩) (by assumption) ?_
      simp only [Act.put, List.setIfInBounds_toArray, List.set_cons_zero, List.set_cons_succ]
      refine wpAnyH_take (i := 13) (oi := { dst := some 79, op := Op.move (Operand.tmp 8), type := 32, pos := "law.go:126", after := #[{ on := 10, ground := Ground.guard }], guard := some (10, false) }) (v := .pointer (some ⟨gr, 0, none⟩)) rfl (by kernel_rfl) (by kernel_rfl) (by kernel_rfl) (fun _ _ _ h => h) (Or.inl ⟨by rfl, by intro w hSw; go_simp⟩) (by assumption) ?_
      simp only [Act.put, List.setIfInBounds_toArray, List.set_cons_zero, List.set_cons_succ]
      refine wpAnyH_ready (rs := [12]) (by kernel_rfl) (by simp) (AllReadyH.cons (o := { dst := some 78, op := Op.call { callee := Callee.value (Operand.func 11), args := #[Operand.tmp 77], argTypes := #[29] }, type := 2, pos := "law.go:126", after := #[{ on := 11, ground := Ground.data }, { on := 10, ground := Ground.chain }, { on := 10, ground := Ground.guard }], guard := some (10, false) }) rfl (fun KQ hK => ?_) AllReadyH.nil)
      go_simp
      refine (meter_any _ fa s.m AF.out.a).mono ?_
      rintro e w11 ⟨rfl, hw⟩
      have AG := hid (hw ▸ AF.out : TB W w11 fa r2 s.m s.m _)
      clear hw
      go_wp2_with fail
      refine hK.out _ _ ⟨AG.out.get 5 rfl, AG.out.get 4 rfl, AG.out.get 2 rfl, AG.out.get 0 rfl⟩ (fun hHeld => ?_)
      clear hK KQ
      try simp only [Act.put, List.setIfInBounds_toArray, List.set_cons_zero, List.set_cons_succ]
      refine wpAnyH_ready (rs := [14]) (by kernel_rfl) (by simp) (AllReadyH.cons (o := { dst := some 80, op := Op.call { callee := Callee.value (Operand.func 12), args := #[Operand.tmp 79], argTypes := #[32] }, type := 2, pos := "law.go:126", after := #[{ on := 13, ground := Ground.data }, { on := 12, ground := Ground.chain }, { on := 10, ground := Ground.guard }], guard := some (10, false) }) rfl (fun KQ hK => ?_) AllReadyH.nil)
      go_simp
      refine ((show Calls Tryz.prog 12 #[.pointer (some ⟨gr, 0, none⟩)] w11 _ from HG2.out ▸ rmeter_any w11 r2 s.m AG.out.d)).mono ?_
      rintro e w12 ⟨rfl, hw⟩
      have AH := hid (hw ▸ AG.out : TB W w12 fa r2 s.m s.m _)
      clear hw
      go_wp2_with fail
      refine hK.out _ _ ⟨AH.out.get 5 rfl, AH.out.get 4 rfl, AH.out.get 2 rfl, AH.out.get 0 rfl⟩ (fun hHeld => ?_)
      clear hK KQ
      try simp only [Act.put, List.setIfInBounds_toArray, List.set_cons_zero, List.set_cons_succ]
      refine wpAnyH_take (i := 15) (oi := { dst := some 81, op := Op.binOp BinOp.neq 2 (Operand.tmp 78) (Operand.tmp 80) 2, type := 4, pos := "law.go:126", after := #[{ on := 12, ground := Ground.data }, { on := 14, ground := Ground.data }, { on := 10, ground := Ground.guard }], guard := some (10, false) }) (v := .bool false) rfl (by kernel_rfl) (by kernel_rfl) (by kernel_rfl) (fun _ _ _ h => h) (Or.inl ⟨by rfl, by intro w hSw; go_simp⟩) (by assumption) ?_
      simp only [Act.put, List.setIfInBounds_toArray, List.set_cons_zero, List.set_cons_succ]
      refine wpAnyH_take (i := 16) (oi := { dst := some 82, op := Op.pick (Operand.tmp 76) (Operand.const (Value.bool true)) (Operand.tmp 81), type := 4, pos := "law.go:126", after := #[{ on := 10, ground := Ground.data }, { on := 15, ground := Ground.data }], guard := none }) (v := .bool false) rfl (by kernel_rfl) (by kernel_rfl) (by kernel_rfl) (fun _ _ _ h => h) (Or.inl ⟨by rfl, by intro w hSw; go_simp⟩) (by assumption) ?_
      simp only [Act.put, List.setIfInBounds_toArray, List.set_cons_zero, List.set_cons_succ]
      refine wpAnyH_done (by kernel_rfl) ?_ _
      go_wp2_with fail
      go_roundw
      case measure => have := HJ.out; simp [intOf] <;> omega
      case rel => exact ⟨j + 1, r2, s.m, s.f, by have := HJ.out; omega, by simp, hid ⟨AH.out.tail.tail.tail.tail, HU1.out.m, HU1.out.f, HG2.out⟩⟩
    · have hjn : j = min x1.toNat 1000 := by omega
      obtain ⟨s, h13, h14⟩ := HRn.out m' f' HQ.out.2.1 HQ.out.2.2.1
      have HRp := hid h13
      have HRq := hid h14
      have HG1 := hid HQ.out.2.2.2
      clear h13 h14 HS HSr HRn hlt
      by_cases hx : (j : Int) < x1
      · have hk : (j : Int) = 1000 := by omega
        have hx2 : (1000 : Int) < x1 := by omega
        clear hx hj
        rw [hk] at *
        clear hjn hk
        go_upto_region 18 with (first | (revert HQ; intro HQ; refine wpList_load_f rfl _ rfl g9 f' rfl (HQ.out.1.get 1 rfl) ?_) | (go_at_call 13; refine (HRp.out _ fa r1 m' _ HQ.out.1).mono ?_; rintro e w1 ⟨rfl, hs1⟩; have A1 := hid (HQ.out.1.stepA hs1); have A2 := hid A1.out.twoA; simp only [zf, evc] at A2; clear hs1 A1 HQ HRp; unfold Ran.v evc) | (revert A2; intro A2; refine wpList_store_f rfl _ _ rfl w1.heap.size F.zero s.f rfl rfl (A2.out.get 1 rfl) ?_; intro w2 hc hb hs; have A3 := hid (A2.out.put 1 rfl hc hb); clear hc hb hs A2) | (revert A3; intro A3; refine wpList_store_st rfl 38 _ _ rfl (w1.heap.size + 1) (evc s.k s.a) rfl rfl (A3.out.get 0 rfl) size35 rfl rfl ?_; intro w3 hc hb hs; have A4 := hid (A3.out.put 0 rfl hc hb); clear hc hb hs A3; simp only [List.set_cons_zero, List.set_cons_succ] at A4; have c3' : w3.cell? ⟨g3, 3, none⟩ = some (.int .i64 q.l) := (A4.out.get 4 rfl).cell 3; clear c3; have HS3 := hid (HRq.out _ fa r1 _ _ A4.out); rw [HG1.out] at HS3; clear HRq) | (revert A4; intro A4; refine wpList_load_g rfl _ rfl g10 f' rfl (A4.out.get 2 rfl) ?_) | (go_at_call 14; refine HS3.out.mono ?_; rintro e w4 ⟨rfl, r2, hs1⟩; have HG2 := hid (hs1.g.trans HG1.out); have A5 := hid (A4.out.stepR hs1); have A6 := hid A5.out.twoR; simp only [zg, evc] at A6; clear hs1 A4 A5 HS3 c3'; unfold Ran.v evc) | (revert A6; intro A6; refine wpList_store_g rfl _ _ rfl w4.heap.size F.zero s.f rfl rfl (A6.out.get 1 rfl) ?_; intro w5 hc hb hs; have A7 := hid (A6.out.put 1 rfl hc hb); clear hc hb hs A6) | (revert A7; intro A7; refine wpList_store_st rfl 42 _ _ rfl (w4.heap.size + 1) (evc s.k s.a) rfl rfl (A7.out.get 0 rfl) size42 rfl rfl ?_; intro w6 hc hb hs; have A8 := hid (A7.out.put 0 rfl hc hb); clear hc hb hs A7))
        simp only [List.set_cons_zero, List.set_cons_succ] at A8
        generalize w4.heap.size + 1 = g15 at *
        generalize w4.heap.size = g14 at *
        generalize w1.heap.size + 1 = g13 at *
        generalize w1.heap.size = g12 at *
        have AD := hid (A8.out.on (Below.refl _ _).drew)
        clear A8
        refine wp_region_held_drew (S := fun x => Cel x g12 26 s.f.cs ∧ Cel x g14 34 s.f.cs ∧ Cel x g13 38 (evc s.k s.a) ∧ Cel x g15 42 (evc s.k s.a)) (by kernel_rfl) ⟨AD.out.get 3 rfl, AD.out.get 1 rfl, AD.out.get 2 rfl, AD.out.get 0 rfl⟩ (fun hHeld => ?_)
        refine wpAnyH_take (i := 0) (oi := { dst := some 105, op := Op.load 26 (Operand.tmp 16), type := 26, pos := "law.go:132", after := #[], guard := none }) (v := .agg s.f.cs.toArray) rfl (by kernel_rfl) (by kernel_rfl) (by kernel_rfl) (fun _ _ _ h => h) (yieldsIf_load_mid (by rfl) _ _ rfl _ _ rfl _ _ (fun w hSw => hSw.1.range) under27 rfl (by rw [size27, F.len])) (by assumption) ?_
        simp only [Act.put, List.setIfInBounds_toArray, List.set_cons_zero, List.set_cons_succ]
        refine wpAnyH_take (i := 2) (oi := { dst := some 107, op := Op.load 34 (Operand.tmp 20), type := 34, pos := "law.go:132", after := #[], guard := none }) (v := .agg s.f.cs.toArray) rfl (by kernel_rfl) (by kernel_rfl) (by kernel_rfl) (fun _ _ _ h => h) (yieldsIf_load_mid (by rfl) _ _ rfl _ _ rfl _ _ (fun w hSw => hSw.2.1.range) under25 rfl (by rw [size25, F.len])) (by assumption) ?_
        simp only [Act.put, List.setIfInBounds_toArray, List.set_cons_zero, List.set_cons_succ]
        refine wpAnyH_ready (rs := [1]) (by kernel_rfl) (by simp) (AllReadyH.cons (o := { dst := some 106, op := Op.call { callee := Callee.value (Operand.func 7), args := #[Operand.tmp 105], argTypes := #[26] }, type := 34, pos := "law.go:132", after := #[{ on := 0, ground := Ground.data }], guard := none }) rfl (fun KQ hK => ?_) AllReadyH.nil)
        go_simp
        refine (HF.out _ s.f).mono ?_
        rintro e w9 ⟨rfl, hb⟩
        have AE := hid (AD.out.on hb)
        clear hb
        go_wp2_with fail
        refine hK.out _ _ ⟨AE.out.get 3 rfl, AE.out.get 1 rfl, AE.out.get 2 rfl, AE.out.get 0 rfl⟩ (fun hHeld => ?_)
        clear hK KQ
        try simp only [Act.put, List.setIfInBounds_toArray, List.set_cons_zero, List.set_cons_succ]
        refine wpAnyH_take (i := 3) (oi := { dst := some 108, op := Op.binOp BinOp.eql 34 (Operand.tmp 106) (Operand.tmp 107) 34, type := 4, pos := "law.go:132", after := #[{ on := 1, ground := Ground.data }, { on := 2, ground := Ground.data }], guard := none }) (v := .bool true) rfl (by kernel_rfl) (by kernel_rfl) (by kernel_rfl) (fun _ _ _ h => h) (Or.inl ⟨by rfl, by intro w hSw; exact exec_eql_g _ _ rfl s.f s.f rfl rfl true (F.same_self _)⟩) (by assumption) ?_
        simp only [Act.put, List.setIfInBounds_toArray, List.set_cons_zero, List.set_cons_succ]
        refine wpAnyH_take (i := 4) (oi := { dst := some 109, op := Op.move (Operand.tmp 108), type := 4, pos := "law.go:132", after := #[{ on := 3, ground := Ground.data }, { on := 1, ground := Ground.chain }], guard := none }) (v := .bool true) rfl (by kernel_rfl) (by kernel_rfl) (by kernel_rfl) (fun _ _ _ h => h) (Or.inl ⟨by rfl, by intro w hSw; go_simp⟩) (by assumption) ?_
        simp only [Act.put, List.setIfInBounds_toArray, List.set_cons_zero, List.set_cons_succ]
        refine wpAnyH_take (i := 5) (oi := { dst := some 110, op := Op.load 38 (Operand.tmp 17), type := 38, pos := "law.go:132", after := #[{ on := 4, ground := Ground.guard }], guard := some (4, true) }) (v := .agg (evc s.k s.a).toArray) rfl (by kernel_rfl) (by kernel_rfl) (by kernel_rfl) (fun _ _ _ h => h) (yieldsIf_load_mid (by rfl) _ _ rfl _ _ rfl _ _ (fun w hSw => hSw.2.2.1.range) under35 rfl size35) (by assumption) ?_
        simp only [Act.put, List.setIfInBounds_toArray, List.set_cons_zero, List.set_cons_succ]
        refine wpAnyH_take (i := 7) (oi := { dst := some 112, op := Op.load 42 (Operand.tmp 21), type := 42, pos := "law.go:132", after := #[{ on := 4, ground := Ground.guard }], guard := some (4, true) }) (v := .agg (evc s.k s.a).toArray) rfl (by kernel_rfl) (by kernel_rfl) (by kernel_rfl) (fun _ _ _ h => h) (yieldsIf_load_mid (by rfl) _ _ rfl _ _ rfl _ _ (fun w hSw => hSw.2.2.2.range) under42 rfl size42) (by assumption) ?_
        simp only [Act.put, List.setIfInBounds_toArray, List.set_cons_zero, List.set_cons_succ]
        refine wpAnyH_ready (rs := [6]) (by kernel_rfl) (by simp) (AllReadyH.cons (o := { dst := some 111, op := Op.call { callee := Callee.value (Operand.func 10), args := #[Operand.tmp 110], argTypes := #[38] }, type := 42, pos := "law.go:132", after := #[{ on := 5, ground := Ground.data }, { on := 4, ground := Ground.chain }, { on := 4, ground := Ground.guard }], guard := some (4, true) }) rfl (fun KQ hK => ?_) AllReadyH.nil)
        go_simp
        refine (HV.out _ s.k s.a).mono ?_
        rintro e w10 ⟨rfl, hb⟩
        have AF := hid (AE.out.on hb)
        clear hb
        go_wp2_with fail
        refine hK.out _ _ ⟨AF.out.get 3 rfl, AF.out.get 1 rfl, AF.out.get 2 rfl, AF.out.get 0 rfl⟩ (fun hHeld => ?_)
        clear hK KQ
        try simp only [Act.put, List.setIfInBounds_toArray, List.set_cons_zero, List.set_cons_succ]
        refine wpAnyH_take (i := 8) (oi := { dst := some 113, op := Op.binOp BinOp.eql 42 (Operand.tmp 111) (Operand.tmp 112) 42, type := 4, pos := "law.go:132", after := #[{ on := 6, ground := Ground.data }, { on := 7, ground := Ground.data }, { on := 4, ground := Ground.guard }], guard := some (4, true) }) (v := .bool true) rfl (by kernel_rfl) (by kernel_rfl) (by kernel_rfl) (fun _ _ _ h => h) (Or.inl ⟨by rfl, by intro w hSw; unfold evc; go_simp⟩) (by assumption) ?_
        simp only [Act.put, List.setIfInBounds_toArray, List.set_cons_zero, List.set_cons_succ]
        refine wpAnyH_take (i := 9) (oi := { dst := some 114, op := Op.pick (Operand.tmp 109) (Operand.tmp 113) (Operand.const (Value.bool false)), type := 4, pos := "law.go:132", after := #[{ on := 4, ground := Ground.data }, { on := 8, ground := Ground.data }], guard := none }) (v := .bool true) rfl (by kernel_rfl) (by kernel_rfl) (by kernel_rfl) (fun _ _ _ h => h) (Or.inl ⟨by rfl, by intro w hSw; go_simp⟩) (by assumption) ?_
        simp only [Act.put, List.setIfInBounds_toArray, List.set_cons_zero, List.set_cons_succ]
        refine wpAnyH_take (i := 10) (oi := { dst := some 115, op := Op.move (Operand.tmp 114), type := 4, pos := "law.go:132", after := #[{ on := 9, ground := Ground.data }, { on := 6, ground := Ground.chain }], guard := none }) (v := .bool true) rfl (by kernel_rfl) (by kernel_rfl) (by kernel_rfl) (fun _ _ _ h => h) (Or.inl ⟨by rfl, by intro w hSw; go_simp⟩) (by assumption) ?_
        simp only [Act.put, List.setIfInBounds_toArray, List.set_cons_zero, List.set_cons_succ]
        refine wpAnyH_take (i := 11) (oi := { dst := some 116, op := Op.move (Operand.tmp 18), type := 3, pos := "law.go:132", after := #[{ on := 10, ground := Ground.guard }], guard := some (10, true) }) (v := .int .i64 s.u) rfl (by kernel_rfl) (by kernel_rfl) (by kernel_rfl) (fun _ _ _ h => h) (Or.inl ⟨by rfl, by intro w hSw; go_simp⟩) (by assumption) ?_
        simp only [Act.put, List.setIfInBounds_toArray, List.set_cons_zero, List.set_cons_succ]
        refine wpAnyH_take (i := 12) (oi := { dst := some 117, op := Op.move (Operand.tmp 22), type := 3, pos := "law.go:132", after := #[{ on := 10, ground := Ground.guard }], guard := some (10, true) }) (v := .int .i64 s.u) rfl (by kernel_rfl) (by kernel_rfl) (by kernel_rfl) (fun _ _ _ h => h) (Or.inl ⟨by rfl, by intro w hSw; go_simp⟩) (by assumption) ?_
        simp only [Act.put, List.setIfInBounds_toArray, List.set_cons_zero, List.set_cons_succ]
        refine wpAnyH_take (i := 13) (oi := { dst := some 118, op := Op.binOp BinOp.eql 3 (Operand.tmp 116) (Operand.tmp 117) 3, type := 4, pos := "law.go:132", after := #[{ on := 11, ground := Ground.data }, { on := 12, ground := Ground.data }, { on := 10, ground := Ground.guard }], guard := some (10, true) }) (v := .bool true) rfl (by kernel_rfl) (by kernel_rfl) (by kernel_rfl) (fun _ _ _ h => h) (Or.inl ⟨by rfl, by intro w hSw; go_simp⟩) (by assumption) ?_
        simp only [Act.put, List.setIfInBounds_toArray, List.set_cons_zero, List.set_cons_succ]
        refine wpAnyH_take (i := 14) (oi := { dst := some 119, op := Op.pick (Operand.tmp 115) (Operand.tmp 118) (Operand.const (Value.bool false)), type := 4, pos := "law.go:132", after := #[{ on := 10, ground := Ground.data }, { on := 13, ground := Ground.data }], guard := none }) (v := .bool true) rfl (by kernel_rfl) (by kernel_rfl) (by kernel_rfl) (fun _ _ _ h => h) (Or.inl ⟨by rfl, by intro w hSw; go_simp⟩) (by assumption) ?_
        simp only [Act.put, List.setIfInBounds_toArray, List.set_cons_zero, List.set_cons_succ]
        refine wpAnyH_take (i := 15) (oi := { dst := some 120, op := Op.move (Operand.tmp 119), type := 4, pos := "law.go:132", after := #[{ on := 14, ground := Ground.data }, { on := 10, ground := Ground.chain }], guard := none }) (v := .bool true) rfl (by kernel_rfl) (by kernel_rfl) (by kernel_rfl) (fun _ _ _ h => h) (Or.inl ⟨by rfl, by intro w hSw; go_simp⟩) (by assumption) ?_
        simp only [Act.put, List.setIfInBounds_toArray, List.set_cons_zero, List.set_cons_succ]
        refine wpAnyH_take (i := 16) (oi := { dst := some 121, op := Op.move (Operand.tmp 19), type := 47, pos := "law.go:132", after := #[{ on := 15, ground := Ground.guard }], guard := some (15, true) }) (v := .int .i64 s.e) rfl (by kernel_rfl) (by kernel_rfl) (by kernel_rfl) (fun _ _ _ h => h) (Or.inl ⟨by rfl, by intro w hSw; go_simp⟩) (by assumption) ?_
        simp only [Act.put, List.setIfInBounds_toArray, List.set_cons_zero, List.set_cons_succ]
        refine wpAnyH_take (i := 18) (oi := { dst := some 123, op := Op.move (Operand.tmp 23), type := 3, pos := "law.go:132", after := #[{ on := 15, ground := Ground.guard }], guard := some (15, true) }) (v := .int .i64 s.e) rfl (by kernel_rfl) (by kernel_rfl) (by kernel_rfl) (fun _ _ _ h => h) (Or.inl ⟨by rfl, by intro w hSw; go_simp⟩) (by assumption) ?_
        simp only [Act.put, List.setIfInBounds_toArray, List.set_cons_zero, List.set_cons_succ]
        refine wpAnyH_ready (rs := [17]) (by kernel_rfl) (by simp) (AllReadyH.cons (o := { dst := some 122, op := Op.call { callee := Callee.value (Operand.func 15), args := #[Operand.tmp 121], argTypes := #[47] }, type := 3, pos := "law.go:132", after := #[{ on := 16, ground := Ground.data }, { on := 15, ground := Ground.chain }, { on := 15, ground := Ground.guard }], guard := some (15, true) }) rfl (fun KQ hK => ?_) AllReadyH.nil)
        go_simp
        refine (num_any _ _).mono ?_
        rintro e w11 ⟨rfl, hw⟩
        have AG := hid (hw ▸ AF.out : TB W w11 fa r2 s.m s.m _)
        clear hw
        go_wp2_with fail
        refine hK.out _ _ ⟨AG.out.get 3 rfl, AG.out.get 1 rfl, AG.out.get 2 rfl, AG.out.get 0 rfl⟩ (fun hHeld => ?_)
        clear hK KQ
        try simp only [Act.put, List.setIfInBounds_toArray, List.set_cons_zero, List.set_cons_succ]
        refine wpAnyH_take (i := 19) (oi := { dst := some 124, op := Op.binOp BinOp.eql 3 (Operand.tmp 122) (Operand.tmp 123) 3, type := 4, pos := "law.go:132", after := #[{ on := 17, ground := Ground.data }, { on := 18, ground := Ground.data }, { on := 15, ground := Ground.guard }], guard := some (15, true) }) (v := .bool true) rfl (by kernel_rfl) (by kernel_rfl) (by kernel_rfl) (fun _ _ _ h => h) (Or.inl ⟨by rfl, by intro w hSw; go_simp⟩) (by assumption) ?_
        simp only [Act.put, List.setIfInBounds_toArray, List.set_cons_zero, List.set_cons_succ]
        refine wpAnyH_take (i := 20) (oi := { dst := some 125, op := Op.pick (Operand.tmp 120) (Operand.tmp 124) (Operand.const (Value.bool false)), type := 4, pos := "law.go:132", after := #[{ on := 15, ground := Ground.data }, { on := 19, ground := Ground.data }], guard := none }) (v := .bool true) rfl (by kernel_rfl) (by kernel_rfl) (by kernel_rfl) (fun _ _ _ h => h) (Or.inl ⟨by rfl, by intro w hSw; go_simp⟩) (by assumption) ?_
        simp only [Act.put, List.setIfInBounds_toArray, List.set_cons_zero, List.set_cons_succ]
        refine wpAnyH_take (i := 21) (oi := { dst := some 126, op := Op.move (Operand.tmp 125), type := 4, pos := "law.go:132", after := #[{ on := 20, ground := Ground.data }, { on := 17, ground := Ground.chain }], guard := none }) (v := .bool true) rfl (by kernel_rfl) (by kernel_rfl) (by kernel_rfl) (fun _ _ _ h => h) (Or.inl ⟨by rfl, by intro w hSw; go_simp⟩) (by assumption) ?_
        simp only [Act.put, List.setIfInBounds_toArray, List.set_cons_zero, List.set_cons_succ]
        refine wpAnyH_take (i := 22) (oi := { dst := some 127, op := Op.move (Operand.tmp 7), type := 29, pos := "law.go:132", after := #[{ on := 21, ground := Ground.guard }], guard := some (21, true) }) (v := .pointer (some ⟨fa.gm, 0, none⟩)) rfl (by kernel_rfl) (by kernel_rfl) (by kernel_rfl) (fun _ _ _ h => h) (Or.inl ⟨by rfl, by intro w hSw; go_simp⟩) (by assumption) ?_
        simp only [Act.put, List.setIfInBounds_toArray, List.set_cons_zero, List.set_cons_succ]
        refine wpAnyH_take (i := 23) (oi := { dst := some 128, op := Op.move (Operand.tmp 8), type := 32, pos := "law.go:132", after := #[{ on := 21, ground := Ground.guard }], guard := some (21, true) }) (v := .pointer (some ⟨gr, 0, none⟩)) rfl (by kernel_rfl) (by kernel_rfl) (by kernel_rfl) (fun _ _ _ h => h) (Or.inl ⟨by rfl, by intro w hSw; go_simp⟩) (by assumption) ?_
        simp only [Act.put, List.setIfInBounds_toArray, List.set_cons_zero, List.set_cons_succ]
        refine wpAnyH_ready (rs := [24]) (by kernel_rfl) (by simp) (AllReadyH.cons (o := { dst := some 129, op := Op.call { callee := Callee.value (Operand.func 16), args := #[Operand.tmp 127, Operand.tmp 128], argTypes := #[29, 32] }, type := 4, pos := "law.go:132", after := #[{ on := 22, ground := Ground.data }, { on := 23, ground := Ground.data }, { on := 21, ground := Ground.chain }, { on := 21, ground := Ground.guard }], guard := some (21, true) }) rfl (fun KQ hK => ?_) AllReadyH.nil)
        go_simp
        refine ((show Calls Tryz.prog 16 #[.pointer (some ⟨fa.gm, 0, none⟩), .pointer (some ⟨gr, 0, none⟩)] w11 _ from HG2.out ▸ agree_any w11 fa r2 s.m AG.out.a AG.out.d)).mono ?_
        rintro e w12 ⟨rfl, hb⟩
        have AH := hid (AG.out.on hb)
        clear hb
        go_wp2_with fail
        refine hK.out _ _ ⟨AH.out.get 3 rfl, AH.out.get 1 rfl, AH.out.get 2 rfl, AH.out.get 0 rfl⟩ (fun hHeld => ?_)
        clear hK KQ
        try simp only [Act.put, List.setIfInBounds_toArray, List.set_cons_zero, List.set_cons_succ]
        refine wpAnyH_take (i := 25) (oi := { dst := some 130, op := Op.pick (Operand.tmp 126) (Operand.tmp 129) (Operand.const (Value.bool false)), type := 4, pos := "law.go:132", after := #[{ on := 21, ground := Ground.data }, { on := 24, ground := Ground.data }], guard := none }) (v := .bool true) rfl (by kernel_rfl) (by kernel_rfl) (by kernel_rfl) (fun _ _ _ h => h) (Or.inl ⟨by rfl, by intro w hSw; go_simp⟩) (by assumption) ?_
        simp only [Act.put, List.setIfInBounds_toArray, List.set_cons_zero, List.set_cons_succ]
        refine wpAnyH_ready (rs := [26]) (by kernel_rfl) (by simp) (AllReadyH.cons (o := { dst := some 6, op := Op.assign (Operand.tmp 130), type := 4, pos := "law.go:132", after := #[{ on := 25, ground := Ground.data }, { on := 24, ground := Ground.chain }, { on := 0, ground := Ground.phase }, { on := 1, ground := Ground.phase }, { on := 2, ground := Ground.phase }, { on := 3, ground := Ground.phase }, { on := 4, ground := Ground.phase }, { on := 5, ground := Ground.phase }, { on := 6, ground := Ground.phase }, { on := 7, ground := Ground.phase }, { on := 8, ground := Ground.phase }, { on := 9, ground := Ground.phase }, { on := 10, ground := Ground.phase }, { on := 11, ground := Ground.phase }, { on := 12, ground := Ground.phase }, { on := 13, ground := Ground.phase }, { on := 14, ground := Ground.phase }, { on := 15, ground := Ground.phase }, { on := 16, ground := Ground.phase }, { on := 17, ground := Ground.phase }, { on := 18, ground := Ground.phase }, { on := 19, ground := Ground.phase }, { on := 20, ground := Ground.phase }, { on := 21, ground := Ground.phase }, { on := 22, ground := Ground.phase }, { on := 23, ground := Ground.phase }, { on := 24, ground := Ground.phase }, { on := 25, ground := Ground.phase }], guard := none }) rfl (fun KQ hK => ?_) AllReadyH.nil)
        go_simp
        refine hK.out _ _ ⟨AH.out.get 3 rfl, AH.out.get 1 rfl, AH.out.get 2 rfl, AH.out.get 0 rfl⟩ (fun hHeld => ?_)
        clear hK KQ
        try simp only [Act.put, List.setIfInBounds_toArray, List.set_cons_zero, List.set_cons_succ]
        refine wpAnyH_done (by kernel_rfl) ?_ _
        go_wp2_with fail
        go_ret
        exact ⟨rfl, AH.out.below⟩
      · have hx' : x1 ≤ (j : Int) := by omega
        clear hj hjn hx
        go_upto_region 18 with (first | (revert HQ; intro HQ; refine wpList_load_f rfl _ rfl g9 f' rfl (HQ.out.1.get 1 rfl) ?_) | (go_at_call 13; refine (HRp.out _ fa r1 m' _ HQ.out.1).mono ?_; rintro e w1 ⟨rfl, hs1⟩; have A1 := hid (HQ.out.1.stepA hs1); have A2 := hid A1.out.twoA; simp only [zf, evc] at A2; clear hs1 A1 HQ HRp; unfold Ran.v evc) | (revert A2; intro A2; refine wpList_store_f rfl _ _ rfl w1.heap.size F.zero s.f rfl rfl (A2.out.get 1 rfl) ?_; intro w2 hc hb hs; have A3 := hid (A2.out.put 1 rfl hc hb); clear hc hb hs A2) | (revert A3; intro A3; refine wpList_store_st rfl 38 _ _ rfl (w1.heap.size + 1) (evc s.k s.a) rfl rfl (A3.out.get 0 rfl) size35 rfl rfl ?_; intro w3 hc hb hs; have A4 := hid (A3.out.put 0 rfl hc hb); clear hc hb hs A3; simp only [List.set_cons_zero, List.set_cons_succ] at A4; have c3' : w3.cell? ⟨g3, 3, none⟩ = some (.int .i64 q.l) := (A4.out.get 4 rfl).cell 3; clear c3; have HS3 := hid (HRq.out _ fa r1 _ _ A4.out); rw [HG1.out] at HS3; clear HRq) | (revert A4; intro A4; refine wpList_load_g rfl _ rfl g10 f' rfl (A4.out.get 2 rfl) ?_) | (go_at_call 14; refine HS3.out.mono ?_; rintro e w4 ⟨rfl, r2, hs1⟩; have HG2 := hid (hs1.g.trans HG1.out); have A5 := hid (A4.out.stepR hs1); have A6 := hid A5.out.twoR; simp only [zg, evc] at A6; clear hs1 A4 A5 HS3 c3'; unfold Ran.v evc) | (revert A6; intro A6; refine wpList_store_g rfl _ _ rfl w4.heap.size F.zero s.f rfl rfl (A6.out.get 1 rfl) ?_; intro w5 hc hb hs; have A7 := hid (A6.out.put 1 rfl hc hb); clear hc hb hs A6) | (revert A7; intro A7; refine wpList_store_st rfl 42 _ _ rfl (w4.heap.size + 1) (evc s.k s.a) rfl rfl (A7.out.get 0 rfl) size42 rfl rfl ?_; intro w6 hc hb hs; have A8 := hid (A7.out.put 0 rfl hc hb); clear hc hb hs A7))
        simp only [List.set_cons_zero, List.set_cons_succ] at A8
        generalize w4.heap.size + 1 = g15 at *
        generalize w4.heap.size = g14 at *
        generalize w1.heap.size + 1 = g13 at *
        generalize w1.heap.size = g12 at *
        have AD := hid (A8.out.on (Below.refl _ _).drew)
        clear A8
        refine wp_region_held_drew (S := fun x => Cel x g12 26 s.f.cs ∧ Cel x g14 34 s.f.cs ∧ Cel x g13 38 (evc s.k s.a) ∧ Cel x g15 42 (evc s.k s.a)) (by kernel_rfl) ⟨AD.out.get 3 rfl, AD.out.get 1 rfl, AD.out.get 2 rfl, AD.out.get 0 rfl⟩ (fun hHeld => ?_)
        refine wpAnyH_take (i := 0) (oi := { dst := some 105, op := Op.load 26 (Operand.tmp 16), type := 26, pos := "law.go:132", after := #[], guard := none }) (v := .agg s.f.cs.toArray) rfl (by kernel_rfl) (by kernel_rfl) (by kernel_rfl) (fun _ _ _ h => h) (yieldsIf_load_mid (by rfl) _ _ rfl _ _ rfl _ _ (fun w hSw => hSw.1.range) under27 rfl (by rw [size27, F.len])) (by assumption) ?_
        simp only [Act.put, List.setIfInBounds_toArray, List.set_cons_zero, List.set_cons_succ]
        refine wpAnyH_take (i := 2) (oi := { dst := some 107, op := Op.load 34 (Operand.tmp 20), type := 34, pos := "law.go:132", after := #[], guard := none }) (v := .agg s.f.cs.toArray) rfl (by kernel_rfl) (by kernel_rfl) (by kernel_rfl) (fun _ _ _ h => h) (yieldsIf_load_mid (by rfl) _ _ rfl _ _ rfl _ _ (fun w hSw => hSw.2.1.range) under25 rfl (by rw [size25, F.len])) (by assumption) ?_
        simp only [Act.put, List.setIfInBounds_toArray, List.set_cons_zero, List.set_cons_succ]
        refine wpAnyH_ready (rs := [1]) (by kernel_rfl) (by simp) (AllReadyH.cons (o := { dst := some 106, op := Op.call { callee := Callee.value (Operand.func 7), args := #[Operand.tmp 105], argTypes := #[26] }, type := 34, pos := "law.go:132", after := #[{ on := 0, ground := Ground.data }], guard := none }) rfl (fun KQ hK => ?_) AllReadyH.nil)
        go_simp
        refine (HF.out _ s.f).mono ?_
        rintro e w9 ⟨rfl, hb⟩
        have AE := hid (AD.out.on hb)
        clear hb
        go_wp2_with fail
        refine hK.out _ _ ⟨AE.out.get 3 rfl, AE.out.get 1 rfl, AE.out.get 2 rfl, AE.out.get 0 rfl⟩ (fun hHeld => ?_)
        clear hK KQ
        try simp only [Act.put, List.setIfInBounds_toArray, List.set_cons_zero, List.set_cons_succ]
        refine wpAnyH_take (i := 3) (oi := { dst := some 108, op := Op.binOp BinOp.eql 34 (Operand.tmp 106) (Operand.tmp 107) 34, type := 4, pos := "law.go:132", after := #[{ on := 1, ground := Ground.data }, { on := 2, ground := Ground.data }], guard := none }) (v := .bool true) rfl (by kernel_rfl) (by kernel_rfl) (by kernel_rfl) (fun _ _ _ h => h) (Or.inl ⟨by rfl, by intro w hSw; exact exec_eql_g _ _ rfl s.f s.f rfl rfl true (F.same_self _)⟩) (by assumption) ?_
        simp only [Act.put, List.setIfInBounds_toArray, List.set_cons_zero, List.set_cons_succ]
        refine wpAnyH_take (i := 4) (oi := { dst := some 109, op := Op.move (Operand.tmp 108), type := 4, pos := "law.go:132", after := #[{ on := 3, ground := Ground.data }, { on := 1, ground := Ground.chain }], guard := none }) (v := .bool true) rfl (by kernel_rfl) (by kernel_rfl) (by kernel_rfl) (fun _ _ _ h => h) (Or.inl ⟨by rfl, by intro w hSw; go_simp⟩) (by assumption) ?_
        simp only [Act.put, List.setIfInBounds_toArray, List.set_cons_zero, List.set_cons_succ]
        refine wpAnyH_take (i := 5) (oi := { dst := some 110, op := Op.load 38 (Operand.tmp 17), type := 38, pos := "law.go:132", after := #[{ on := 4, ground := Ground.guard }], guard := some (4, true) }) (v := .agg (evc s.k s.a).toArray) rfl (by kernel_rfl) (by kernel_rfl) (by kernel_rfl) (fun _ _ _ h => h) (yieldsIf_load_mid (by rfl) _ _ rfl _ _ rfl _ _ (fun w hSw => hSw.2.2.1.range) under35 rfl size35) (by assumption) ?_
        simp only [Act.put, List.setIfInBounds_toArray, List.set_cons_zero, List.set_cons_succ]
        refine wpAnyH_take (i := 7) (oi := { dst := some 112, op := Op.load 42 (Operand.tmp 21), type := 42, pos := "law.go:132", after := #[{ on := 4, ground := Ground.guard }], guard := some (4, true) }) (v := .agg (evc s.k s.a).toArray) rfl (by kernel_rfl) (by kernel_rfl) (by kernel_rfl) (fun _ _ _ h => h) (yieldsIf_load_mid (by rfl) _ _ rfl _ _ rfl _ _ (fun w hSw => hSw.2.2.2.range) under42 rfl size42) (by assumption) ?_
        simp only [Act.put, List.setIfInBounds_toArray, List.set_cons_zero, List.set_cons_succ]
        refine wpAnyH_ready (rs := [6]) (by kernel_rfl) (by simp) (AllReadyH.cons (o := { dst := some 111, op := Op.call { callee := Callee.value (Operand.func 10), args := #[Operand.tmp 110], argTypes := #[38] }, type := 42, pos := "law.go:132", after := #[{ on := 5, ground := Ground.data }, { on := 4, ground := Ground.chain }, { on := 4, ground := Ground.guard }], guard := some (4, true) }) rfl (fun KQ hK => ?_) AllReadyH.nil)
        go_simp
        refine (HV.out _ s.k s.a).mono ?_
        rintro e w10 ⟨rfl, hb⟩
        have AF := hid (AE.out.on hb)
        clear hb
        go_wp2_with fail
        refine hK.out _ _ ⟨AF.out.get 3 rfl, AF.out.get 1 rfl, AF.out.get 2 rfl, AF.out.get 0 rfl⟩ (fun hHeld => ?_)
        clear hK KQ
        try simp only [Act.put, List.setIfInBounds_toArray, List.set_cons_zero, List.set_cons_succ]
        refine wpAnyH_take (i := 8) (oi := { dst := some 113, op := Op.binOp BinOp.eql 42 (Operand.tmp 111) (Operand.tmp 112) 42, type := 4, pos := "law.go:132", after := #[{ on := 6, ground := Ground.data }, { on := 7, ground := Ground.data }, { on := 4, ground := Ground.guard }], guard := some (4, true) }) (v := .bool true) rfl (by kernel_rfl) (by kernel_rfl) (by kernel_rfl) (fun _ _ _ h => h) (Or.inl ⟨by rfl, by intro w hSw; unfold evc; go_simp⟩) (by assumption) ?_
        simp only [Act.put, List.setIfInBounds_toArray, List.set_cons_zero, List.set_cons_succ]
        refine wpAnyH_take (i := 9) (oi := { dst := some 114, op := Op.pick (Operand.tmp 109) (Operand.tmp 113) (Operand.const (Value.bool false)), type := 4, pos := "law.go:132", after := #[{ on := 4, ground := Ground.data }, { on := 8, ground := Ground.data }], guard := none }) (v := .bool true) rfl (by kernel_rfl) (by kernel_rfl) (by kernel_rfl) (fun _ _ _ h => h) (Or.inl ⟨by rfl, by intro w hSw; go_simp⟩) (by assumption) ?_
        simp only [Act.put, List.setIfInBounds_toArray, List.set_cons_zero, List.set_cons_succ]
        refine wpAnyH_take (i := 10) (oi := { dst := some 115, op := Op.move (Operand.tmp 114), type := 4, pos := "law.go:132", after := #[{ on := 9, ground := Ground.data }, { on := 6, ground := Ground.chain }], guard := none }) (v := .bool true) rfl (by kernel_rfl) (by kernel_rfl) (by kernel_rfl) (fun _ _ _ h => h) (Or.inl ⟨by rfl, by intro w hSw; go_simp⟩) (by assumption) ?_
        simp only [Act.put, List.setIfInBounds_toArray, List.set_cons_zero, List.set_cons_succ]
        refine wpAnyH_take (i := 11) (oi := { dst := some 116, op := Op.move (Operand.tmp 18), type := 3, pos := "law.go:132", after := #[{ on := 10, ground := Ground.guard }], guard := some (10, true) }) (v := .int .i64 s.u) rfl (by kernel_rfl) (by kernel_rfl) (by kernel_rfl) (fun _ _ _ h => h) (Or.inl ⟨by rfl, by intro w hSw; go_simp⟩) (by assumption) ?_
        simp only [Act.put, List.setIfInBounds_toArray, List.set_cons_zero, List.set_cons_succ]
        refine wpAnyH_take (i := 12) (oi := { dst := some 117, op := Op.move (Operand.tmp 22), type := 3, pos := "law.go:132", after := #[{ on := 10, ground := Ground.guard }], guard := some (10, true) }) (v := .int .i64 s.u) rfl (by kernel_rfl) (by kernel_rfl) (by kernel_rfl) (fun _ _ _ h => h) (Or.inl ⟨by rfl, by intro w hSw; go_simp⟩) (by assumption) ?_
        simp only [Act.put, List.setIfInBounds_toArray, List.set_cons_zero, List.set_cons_succ]
        refine wpAnyH_take (i := 13) (oi := { dst := some 118, op := Op.binOp BinOp.eql 3 (Operand.tmp 116) (Operand.tmp 117) 3, type := 4, pos := "law.go:132", after := #[{ on := 11, ground := Ground.data }, { on := 12, ground := Ground.data }, { on := 10, ground := Ground.guard }], guard := some (10, true) }) (v := .bool true) rfl (by kernel_rfl) (by kernel_rfl) (by kernel_rfl) (fun _ _ _ h => h) (Or.inl ⟨by rfl, by intro w hSw; go_simp⟩) (by assumption) ?_
        simp only [Act.put, List.setIfInBounds_toArray, List.set_cons_zero, List.set_cons_succ]
        refine wpAnyH_take (i := 14) (oi := { dst := some 119, op := Op.pick (Operand.tmp 115) (Operand.tmp 118) (Operand.const (Value.bool false)), type := 4, pos := "law.go:132", after := #[{ on := 10, ground := Ground.data }, { on := 13, ground := Ground.data }], guard := none }) (v := .bool true) rfl (by kernel_rfl) (by kernel_rfl) (by kernel_rfl) (fun _ _ _ h => h) (Or.inl ⟨by rfl, by intro w hSw; go_simp⟩) (by assumption) ?_
        simp only [Act.put, List.setIfInBounds_toArray, List.set_cons_zero, List.set_cons_succ]
        refine wpAnyH_take (i := 15) (oi := { dst := some 120, op := Op.move (Operand.tmp 119), type := 4, pos := "law.go:132", after := #[{ on := 14, ground := Ground.data }, { on := 10, ground := Ground.chain }], guard := none }) (v := .bool true) rfl (by kernel_rfl) (by kernel_rfl) (by kernel_rfl) (fun _ _ _ h => h) (Or.inl ⟨by rfl, by intro w hSw; go_simp⟩) (by assumption) ?_
        simp only [Act.put, List.setIfInBounds_toArray, List.set_cons_zero, List.set_cons_succ]
        refine wpAnyH_take (i := 16) (oi := { dst := some 121, op := Op.move (Operand.tmp 19), type := 47, pos := "law.go:132", after := #[{ on := 15, ground := Ground.guard }], guard := some (15, true) }) (v := .int .i64 s.e) rfl (by kernel_rfl) (by kernel_rfl) (by kernel_rfl) (fun _ _ _ h => h) (Or.inl ⟨by rfl, by intro w hSw; go_simp⟩) (by assumption) ?_
        simp only [Act.put, List.setIfInBounds_toArray, List.set_cons_zero, List.set_cons_succ]
        refine wpAnyH_take (i := 18) (oi := { dst := some 123, op := Op.move (Operand.tmp 23), type := 3, pos := "law.go:132", after := #[{ on := 15, ground := Ground.guard }], guard := some (15, true) }) (v := .int .i64 s.e) rfl (by kernel_rfl) (by kernel_rfl) (by kernel_rfl) (fun _ _ _ h => h) (Or.inl ⟨by rfl, by intro w hSw; go_simp⟩) (by assumption) ?_
        simp only [Act.put, List.setIfInBounds_toArray, List.set_cons_zero, List.set_cons_succ]
        refine wpAnyH_ready (rs := [17]) (by kernel_rfl) (by simp) (AllReadyH.cons (o := { dst := some 122, op := Op.call { callee := Callee.value (Operand.func 15), args := #[Operand.tmp 121], argTypes := #[47] }, type := 3, pos := "law.go:132", after := #[{ on := 16, ground := Ground.data }, { on := 15, ground := Ground.chain }, { on := 15, ground := Ground.guard }], guard := some (15, true) }) rfl (fun KQ hK => ?_) AllReadyH.nil)
        go_simp
        refine (num_any _ _).mono ?_
        rintro e w11 ⟨rfl, hw⟩
        have AG := hid (hw ▸ AF.out : TB W w11 fa r2 s.m s.m _)
        clear hw
        go_wp2_with fail
        refine hK.out _ _ ⟨AG.out.get 3 rfl, AG.out.get 1 rfl, AG.out.get 2 rfl, AG.out.get 0 rfl⟩ (fun hHeld => ?_)
        clear hK KQ
        try simp only [Act.put, List.setIfInBounds_toArray, List.set_cons_zero, List.set_cons_succ]
        refine wpAnyH_take (i := 19) (oi := { dst := some 124, op := Op.binOp BinOp.eql 3 (Operand.tmp 122) (Operand.tmp 123) 3, type := 4, pos := "law.go:132", after := #[{ on := 17, ground := Ground.data }, { on := 18, ground := Ground.data }, { on := 15, ground := Ground.guard }], guard := some (15, true) }) (v := .bool true) rfl (by kernel_rfl) (by kernel_rfl) (by kernel_rfl) (fun _ _ _ h => h) (Or.inl ⟨by rfl, by intro w hSw; go_simp⟩) (by assumption) ?_
        simp only [Act.put, List.setIfInBounds_toArray, List.set_cons_zero, List.set_cons_succ]
        refine wpAnyH_take (i := 20) (oi := { dst := some 125, op := Op.pick (Operand.tmp 120) (Operand.tmp 124) (Operand.const (Value.bool false)), type := 4, pos := "law.go:132", after := #[{ on := 15, ground := Ground.data }, { on := 19, ground := Ground.data }], guard := none }) (v := .bool true) rfl (by kernel_rfl) (by kernel_rfl) (by kernel_rfl) (fun _ _ _ h => h) (Or.inl ⟨by rfl, by intro w hSw; go_simp⟩) (by assumption) ?_
        simp only [Act.put, List.setIfInBounds_toArray, List.set_cons_zero, List.set_cons_succ]
        refine wpAnyH_take (i := 21) (oi := { dst := some 126, op := Op.move (Operand.tmp 125), type := 4, pos := "law.go:132", after := #[{ on := 20, ground := Ground.data }, { on := 17, ground := Ground.chain }], guard := none }) (v := .bool true) rfl (by kernel_rfl) (by kernel_rfl) (by kernel_rfl) (fun _ _ _ h => h) (Or.inl ⟨by rfl, by intro w hSw; go_simp⟩) (by assumption) ?_
        simp only [Act.put, List.setIfInBounds_toArray, List.set_cons_zero, List.set_cons_succ]
        refine wpAnyH_take (i := 22) (oi := { dst := some 127, op := Op.move (Operand.tmp 7), type := 29, pos := "law.go:132", after := #[{ on := 21, ground := Ground.guard }], guard := some (21, true) }) (v := .pointer (some ⟨fa.gm, 0, none⟩)) rfl (by kernel_rfl) (by kernel_rfl) (by kernel_rfl) (fun _ _ _ h => h) (Or.inl ⟨by rfl, by intro w hSw; go_simp⟩) (by assumption) ?_
        simp only [Act.put, List.setIfInBounds_toArray, List.set_cons_zero, List.set_cons_succ]
        refine wpAnyH_take (i := 23) (oi := { dst := some 128, op := Op.move (Operand.tmp 8), type := 32, pos := "law.go:132", after := #[{ on := 21, ground := Ground.guard }], guard := some (21, true) }) (v := .pointer (some ⟨gr, 0, none⟩)) rfl (by kernel_rfl) (by kernel_rfl) (by kernel_rfl) (fun _ _ _ h => h) (Or.inl ⟨by rfl, by intro w hSw; go_simp⟩) (by assumption) ?_
        simp only [Act.put, List.setIfInBounds_toArray, List.set_cons_zero, List.set_cons_succ]
        refine wpAnyH_ready (rs := [24]) (by kernel_rfl) (by simp) (AllReadyH.cons (o := { dst := some 129, op := Op.call { callee := Callee.value (Operand.func 16), args := #[Operand.tmp 127, Operand.tmp 128], argTypes := #[29, 32] }, type := 4, pos := "law.go:132", after := #[{ on := 22, ground := Ground.data }, { on := 23, ground := Ground.data }, { on := 21, ground := Ground.chain }, { on := 21, ground := Ground.guard }], guard := some (21, true) }) rfl (fun KQ hK => ?_) AllReadyH.nil)
        go_simp
        refine ((show Calls Tryz.prog 16 #[.pointer (some ⟨fa.gm, 0, none⟩), .pointer (some ⟨gr, 0, none⟩)] w11 _ from HG2.out ▸ agree_any w11 fa r2 s.m AG.out.a AG.out.d)).mono ?_
        rintro e w12 ⟨rfl, hb⟩
        have AH := hid (AG.out.on hb)
        clear hb
        go_wp2_with fail
        refine hK.out _ _ ⟨AH.out.get 3 rfl, AH.out.get 1 rfl, AH.out.get 2 rfl, AH.out.get 0 rfl⟩ (fun hHeld => ?_)
        clear hK KQ
        try simp only [Act.put, List.setIfInBounds_toArray, List.set_cons_zero, List.set_cons_succ]
        refine wpAnyH_take (i := 25) (oi := { dst := some 130, op := Op.pick (Operand.tmp 126) (Operand.tmp 129) (Operand.const (Value.bool false)), type := 4, pos := "law.go:132", after := #[{ on := 21, ground := Ground.data }, { on := 24, ground := Ground.data }], guard := none }) (v := .bool true) rfl (by kernel_rfl) (by kernel_rfl) (by kernel_rfl) (fun _ _ _ h => h) (Or.inl ⟨by rfl, by intro w hSw; go_simp⟩) (by assumption) ?_
        simp only [Act.put, List.setIfInBounds_toArray, List.set_cons_zero, List.set_cons_succ]
        refine wpAnyH_ready (rs := [26]) (by kernel_rfl) (by simp) (AllReadyH.cons (o := { dst := some 6, op := Op.assign (Operand.tmp 130), type := 4, pos := "law.go:132", after := #[{ on := 25, ground := Ground.data }, { on := 24, ground := Ground.chain }, { on := 0, ground := Ground.phase }, { on := 1, ground := Ground.phase }, { on := 2, ground := Ground.phase }, { on := 3, ground := Ground.phase }, { on := 4, ground := Ground.phase }, { on := 5, ground := Ground.phase }, { on := 6, ground := Ground.phase }, { on := 7, ground := Ground.phase }, { on := 8, ground := Ground.phase }, { on := 9, ground := Ground.phase }, { on := 10, ground := Ground.phase }, { on := 11, ground := Ground.phase }, { on := 12, ground := Ground.phase }, { on := 13, ground := Ground.phase }, { on := 14, ground := Ground.phase }, { on := 15, ground := Ground.phase }, { on := 16, ground := Ground.phase }, { on := 17, ground := Ground.phase }, { on := 18, ground := Ground.phase }, { on := 19, ground := Ground.phase }, { on := 20, ground := Ground.phase }, { on := 21, ground := Ground.phase }, { on := 22, ground := Ground.phase }, { on := 23, ground := Ground.phase }, { on := 24, ground := Ground.phase }, { on := 25, ground := Ground.phase }], guard := none }) rfl (fun KQ hK => ?_) AllReadyH.nil)
        go_simp
        refine hK.out _ _ ⟨AH.out.get 3 rfl, AH.out.get 1 rfl, AH.out.get 2 rfl, AH.out.get 0 rfl⟩ (fun hHeld => ?_)
        clear hK KQ
        try simp only [Act.put, List.setIfInBounds_toArray, List.set_cons_zero, List.set_cons_succ]
        refine wpAnyH_done (by kernel_rfl) ?_ _
        go_wp2_with fail
        go_ret
        exact ⟨rfl, AH.out.below⟩
end Go.Proofs.YteldpapacdbbiaaGreatDoor
