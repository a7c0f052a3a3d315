/- CpuFaults 4: its walk. -/
import Derived.Test.YteldpapacdbbiaaDoorCg
import Derived.Test.YteldpapacdbbiaaDoorCe
namespace Go.Proofs.YteldpapacdbbiaaDoor
open Go.RowKit
set_option maxHeartbeats 8000000
set_option maxRecDepth 100000
attribute [-simp] Tryd.isAgg26 Tryd.sizeOf26 Tryd.isAgg24 Tryd.isAgg28 Tryd.sizeOf28
/-- What lay there ahead of a new variable. -/
structure FB (W x : World) (g1 g7 g10 : Nat) (fa fb : Fp) : Prop where
  w : W.heap.size ≤ x.heap.size
  a : g1 < x.heap.size
  b : g7 < x.heap.size
  c : g7 + 1 < x.heap.size
  d : g10 < x.heap.size
  ma : ∀ k ∈ fa.all, k < x.heap.size
  mb : ∀ k ∈ fb.all, k < x.heap.size
theorem FB.put {W z x x' : World} {g1 g7 g10 : Nat} {q : Mq} {fa fb : Fp} {m : MS} {o : Out} {cs : List Value} (h : FB W z g1 g7 g10 fa fb) (hf : FT W x g1 g7 q fa fb m o) (hc : Cel x g10 57 cs) (hb : ButL [z.heap.size] x x') : FT W x' g1 g7 q fa fb m o ∧ Cel x' g10 57 cs :=
  ⟨⟨hf.a.frame hb (fun k hk hm => by have := h.ma k hk; simp at hm; omega), hf.b.frame hb (fun k hk hm => by have := h.mb k hk; simp at hm; omega), hf.cq.but hb (by have := h.a; simp; omega), hf.c0.but hb (by have := h.b; simp; omega), hf.c1.but hb (by have := h.c; simp; omega), hf.below.trans (hb.below (by simpa using h.w) hf.below.size)⟩, hc.but hb (by have := h.d; simp; omega)⟩
theorem stp_no {m : MS} {l : Int} {f : F} (h : ¬ m.trE l f.pc 2 = 0) : stp m l f = ⟨f, 3, f.pc, m.wkS l f.pc⟩ := by unfold stp; rw [if_neg h]
theorem stp_bad {m : MS} {l : Int} {f : F} (h : m.trE l f.pc 2 = 0) (h2 : ¬ I.decE (m.fw l f.pc) = 0) : stp m l f = ⟨f, 2, m.fw l f.pc, m.fm l f.pc⟩ := by unfold stp; rw [if_pos h, if_neg h2]
theorem stp_do {m : MS} {l : Int} {f : F} (h : m.trE l f.pc 2 = 0) (h2 : I.decE (m.fw l f.pc) = 0) : stp m l f = doI (m.fm l f.pc) l f (I.dec (m.fw l f.pc)) := by unfold stp; rw [if_pos h, if_pos h2]
theorem doI_else {m : MS} {l : Int} {f : F} {i : Ins} (h : i.op ≤ 14 ∨ (19 ≤ i.op ∧ i.op ≤ 23)) : (doI m l f i).k = 0 ∧ (doI m l f i).a = 0 := by
  unfold doI
  rcases h with h | h
  · rw [if_pos h]; exact ⟨rfl, rfl⟩
  · rw [if_neg (by omega), if_neg (by omega)]
    split
    · exact ⟨rfl, rfl⟩
    · rw [if_pos h.2]; exact ⟨rfl, rfl⟩
theorem doI_svc {m : MS} {l : Int} {f : F} {i : Ins} (h : i.op = 24) : doI m l f i = ⟨f.nx, 1, im i, m⟩ := by
  unfold doI
  rw [if_neg (by omega), if_neg (by omega), if_neg (by omega), if_neg (by omega)]
theorem doI_mem {m : MS} {l : Int} {f : F} {i : Ins} (h1 : 15 ≤ i.op) (h2 : i.op ≤ 18) : (m.trE l (ad f i) (acc i) = 0 → (doI m l f i).k = 0 ∧ (doI m l f i).a = 0 ∧ (doI m l f i).f.pc = (f.pc + 4) % 4294967296) ∧ (¬ m.trE l (ad f i) (acc i) = 0 → (doI m l f i).f = f ∧ (doI m l f i).k = 4 ∧ (doI m l f i).a = ad f i ∧ ∀ s p x, (doI m l f i).m.word s p x = m.word s p x) := by
  unfold doI
  rw [if_neg (by omega), if_pos h2]
  refine ⟨fun h => ?_, fun h => ?_⟩
  · rw [if_pos h]; exact ⟨rfl, rfl, rfl⟩
  · rw [if_neg h]; exact ⟨rfl, rfl, rfl, fun s p x => rcM_word h s p x⟩
theorem faults_any (W : World) (hT : Tb W) (q : Mq) (bk off : Nat) (L : Nat → Ly) (hq : q.Ok W bk off L) :
    Calls Tryd.prog 4 #[q.v] W fun e W' => e = .returned (.bool true) ∧ Below W.heap.size W W' := by
  have HC : Hid (MB W (W.alloc (.cells q.cs.toArray 28)) W.heap.size q) := hid ⟨Cel.new W 28 _, below_one _ _⟩
  have HXs : Hid ((W.alloc (.cells q.cs.toArray 28)).heap.size = W.heap.size + 1) := hid (by rw [World.size_alloc])
  have HMd := hid (made_any _ q bk off L (hq.on (below_one W (.cells q.cs.toArray 28))))
  have HT := hid hT
  have HU := hid hq.U
  have HF := hid hq.f
  clear hT hq
  generalize q.m L = m at *
  unfold ptr at HMd
  go_enter Tryd.func4, Tryd.ntmps4
  unfold Mq.v at *
  go_upto_region 1 with fail
  generalize hX : W.alloc _ = X at *
  clear hX
  go_upto_region 2 with (first | (refine wpList_load_q rfl _ rfl W.heap.size q rfl HC.out.c ?_) | (go_at_call 6; refine HMd.out.mono ?_; rintro e w1 ⟨fa, rfl, hm1⟩; have HM1 := hid hm1; clear hm1))
  have HAd := hid (adds_any w1 (HT.out.on (below_on HC.out.below HM1.out.below)))
  go_upto_region 4 with (go_at_call 7; refine HAd.out.mono ?_; rintro e w2 ⟨rfl, hb2⟩; have HB2 := hid hb2; have HCl := hid (clone_any w2 fa m (HM1.out.mem.on hb2)); clear hb2; unfold ptr at HCl)
  clear HAd HMd
  go_upto_region 5 with (go_at_call 8; refine HCl.out.mono ?_; rintro e w3 ⟨fb, rfl, hm3⟩; have HM3 := hid hm3; clear hm3)
  have HMa : Hid (Mem w3 fa m) := hid ((HM1.out.mem.on HB2.out).on HM3.out.below)
  have HAB : Hid (∀ k ∈ fb.all, k ∉ fa.all) := hid (fun k hk h => by have := HM1.out.mem.lt k h; have := HB2.out.size; have := HM3.out.new k hk; omega)
  have HLa : Hid (∀ k ∈ fa.all, W.heap.size + 1 ≤ k) := hid (fun k hk => by have := HM1.out.new k hk; have := HXs.out; omega)
  have HCq : Hid (Cel w3 W.heap.size 28 q.cs) := hid (((HC.out.c.on HM1.out.below).on HB2.out).on HM3.out.below)
  have HBw : Hid (Below W.heap.size W w3) := hid (below_on (below_on (below_on HC.out.below HM1.out.below) HB2.out) HM3.out.below)
  have HMb := hid HM3.out.mem
  clear HM1 HB2 HM3 HCl HC HXs
  have HCo := hid (comes_any w3 fa m HMa.out HU.out q.l q.f.pc 2 HF.out.p0 HF.out.p1)
  have c3 : w3.cell? ⟨W.heap.size, 3, none⟩ = some (.int .i64 q.l) := HCq.out.cell 3
  have c19 : w3.cell? ⟨W.heap.size, 19, none⟩ = some (.int .u32 q.f.pc) := (Mq.rng HCq.out 15 _ q.f.at15)
  simp only [plc] at HCo
  unfold ptr at HCo
  go_upto_region 6 with (first | (refine wpList_fa4 rfl _ rfl W.heap.size rfl ?_) | (go_at_call 14; refine HCo.out.mono ?_; rintro e w4 ⟨rfl, hb4⟩; have HB4 := hid hb4; clear hb4 c3 c19))
  have HC5 : Hid (Cel (w4.alloc (.cells #[.bool (m.trS q.l q.f.pc 2), .int .i64 (m.trP q.l q.f.pc 2), .int .i64 (m.trO q.l q.f.pc 2)] 48)) w4.heap.size 48 [.bool (m.trS q.l q.f.pc 2), .int .i64 (m.trP q.l q.f.pc 2), .int .i64 (m.trO q.l q.f.pc 2)]) := hid (Cel.new w4 48 _)
  have HB5 := hid (below_on HB4.out (below_one w4 (.cells #[.bool (m.trS q.l q.f.pc 2), .int .i64 (m.trP q.l q.f.pc 2), .int .i64 (m.trO q.l q.f.pc 2)] 48)))
  generalize hX5 : World.alloc _ _ = X5 at *
  clear hX5 HCo
  have HMa5 := hid (HMa.out.on HB5.out)
  have HMb5 := hid (HMb.out.on HB5.out)
  have HCq5 := hid (HCq.out.on HB5.out)
  have HBw5 := hid (below_on HBw.out HB5.out)
  have HL5 : Hid (∀ k ∈ fa.all, k < w4.heap.size) := hid (fun k hk => by have := HMa.out.lt k hk; have := HB4.out.size; omega)
  clear HMa HMb HCq HBw HB5 HB4
  generalize w4.heap.size = g5 at *
  have HSt := hid (step_any X5 (HT.out.on HBw5.out) fa m HMa5.out HU.out q.l q.f HF.out (fun k hk => by have := HLa.out k (Fp.w_all hk); have := HT.out.z; omega))
  have c3 : X5.cell? ⟨W.heap.size, 3, none⟩ = some (.int .i64 q.l) := HCq5.out.cell 3
  unfold ptr at HSt
  go_upto_region 7 with (first | (refine wpList_fa4 rfl _ rfl W.heap.size rfl ?_) | (refine wpList_load_qf rfl _ rfl W.heap.size q rfl HCq5.out ?_) | (go_at_call 11; refine HSt.out.mono ?_; rintro e w6 ⟨rfl, hr6⟩; have HR6 := hid hr6; have HT6 := hid (Two.new w6); simp only [zf, evc] at HT6; clear hr6 c3; unfold Out.v) | (refine wpList_store_f rfl _ _ rfl w6.heap.size F.zero (stp m q.l q.f).f rfl rfl HT6.out.c0 ?_; intro u6 hcu hbu hsu; have HU6 := hid (And.intro hcu hbu); have CU6 := hid (HT6.out.c1.but hbu (by simp)); clear hcu hbu hsu) | (refine wpList_store_st rfl 35 _ _ rfl (w6.heap.size + 1) (evc (stp m q.l q.f).k (stp m q.l q.f).a) rfl rfl CU6.out size35 rfl rfl ?_; intro v6 hcv hbv hsv; have HF6 := hid (HT6.out.fill (Nat.le_refl _) HU6.out.1 HU6.out.2 hcv hbv); clear hcv hbv hsv))
  try simp only [Act.put]
  have H : Hid (FT W v6 W.heap.size w6.heap.size q fa fb m (stp m q.l q.f)) := hid ⟨HR6.out.mem.on HF6.out.below, (HMb5.out.frame HR6.out.but (fun k hk hw => HAB.out k hk (Fp.w_all hw))).on HF6.out.below, (HCq5.out.but HR6.out.but (fun hw => by have := HLa.out _ (Fp.w_all hw); omega)).on HF6.out.below, HF6.out.c0, HF6.out.c1, (HBw5.out.trans (HR6.out.but.below (fun k hk => by have := HLa.out _ (Fp.w_all hk); omega) HBw5.out.size)).trans (HF6.out.below.mono (by have := HR6.out.but.size; have := HBw5.out.size; omega))⟩
  have HC6 := hid ((HC5.out.but HR6.out.but (fun hw => by have := HL5.out _ (Fp.w_all hw); omega)).on HF6.out.below)
  have HTv := hid (HT.out.on H.out.below)
  clear HSt HT6 HF6 HU6 CU6 HR6 HMa5 HMb5 HCq5 HBw5 HC5 HAB HLa HL5 HT
  generalize W.heap.size = g1 at H ⊢
  generalize w6.heap.size = g7 at *
  have c19 : v6.cell? ⟨g1, 19, none⟩ = some (.int .u32 q.f.pc) := (Mq.rng H.out.cq 15 _ q.f.at15)
  by_cases te : m.trE q.l q.f.pc 2 = 0
  · have hb : (m.trE q.l q.f.pc 2 == 0) = true := by rw [te]; rfl
    rw [hb]
    have HPk : Hid (Calls Tryd.prog 16 #[ptr fb.gm, fr (m.trS q.l q.f.pc 2) (m.trP q.l q.f.pc 2), .int .i64 (m.trO q.l q.f.pc 2)] v6 fun x w' => x = .returned (.int .u32 (m.fw q.l q.f.pc)) ∧ Below v6.heap.size v6 w') := hid (peek_any v6 fb m H.out.b _ _ _)
    have hw : 0 ≤ m.fw q.l q.f.pc ∧ m.fw q.l q.f.pc < 4294967296 := HU.out.word _ _ _
    have HDe := hid (fun x (hx : Tb x) => I.decode_any x hx.f hx.t hx.z (m.fw q.l q.f.pc) hw.1 hw.2)
    have HBad := hid (fun h2 => @stp_bad m q.l q.f te h2)
    have HDo := hid (fun h2 => @stp_do m q.l q.f te h2)
    have HDk := hid (@dec_ok (m.fw q.l q.f.pc))
    unfold ptr fr at HPk
    clear hw
    generalize m.trS q.l q.f.pc 2 = ts at *
    generalize m.trP q.l q.f.pc 2 = tp at *
    generalize m.trO q.l q.f.pc 2 = tof at *
    generalize hfw : m.fw q.l q.f.pc = fw at *
    have r0 := HC6.out.cell 0
    have r1 := HC6.out.cell 1
    have r2 := HC6.out.cell 2
    simp only [List.getElem?_cons_zero, List.getElem?_cons_succ] at r0 r1 r2
    go_upto_region 10 with (go_at_call 16; refine HPk.out.mono ?_; rintro e w7 ⟨rfl, hb7⟩; have HB7 := hid hb7; clear hb7 r0 r1 r2 c19)
    have H7 := hid (H.out.on HB7.out)
    have HDe7 := hid (HDe.out w7 (HTv.out.on HB7.out))
    clear HPk H HC6 HTv HDe HB7
    generalize I.decE fw = de at *
    generalize hdi : I.dec fw = di at *
    clear hdi
    obtain ⟨op, cond, a, b, c, imm⟩ := di
    simp only [I.Ins.v] at HDe7
    go_upto_region 11 with (go_at_call 17; refine HDe7.out.mono ?_; rintro e w8 ⟨rfl, hb8⟩; have HB8 := hid hb8; clear hb8)
    have HC10 : Hid (Cel (w8.alloc (.cells #[.int .i64 op, .int .i64 cond, .int .i64 a, .int .i64 b, .int .i64 c, .int .i32 imm] 57)) w8.heap.size 57 (I.Ins.cs ⟨op, cond, a, b, c, imm⟩)) := hid (Cel.new w8 57 _)
    have H8 := hid ((H7.out.on HB8.out).on (below_one w8 (.cells #[.int .i64 op, .int .i64 cond, .int .i64 a, .int .i64 b, .int .i64 c, .int .i32 imm] 57)))
    generalize hX8 : World.alloc _ _ = X8 at *
    clear hX8 H7 HB8 HDe7
    generalize w8.heap.size = g10 at *
    by_cases de0 : de = 0
    · subst de0
      have HO := HDo.out rfl
      obtain ⟨hik, ho1, ho2⟩ := HDk.out rfl
      have HIk := hid hik
      clear HBad HDo HDk hik
      obtain ⟨q0, q1, q2, q3, q4, q5⟩ := cel6 HC10.out
      simp only at q0 q1 q2 q3 q4 q5
      rw [HO] at H8
      clear HO
      by_cases e24 : op = 24
      · rw [doI_svc e24] at H8
        subst e24
        have e0 : X8.cell? ⟨g7 + 1, 0, none⟩ = some (.int .i64 1) := H8.out.c1.cell 0
        have e1 : X8.cell? ⟨g7 + 1, 1, none⟩ = some (.int .u32 (imm % 4294967296)) := H8.out.c1.cell 1
        have e2 := (H8.out.c0.cell 15).trans (F.at15 _)
        have e2' : X8.cell? ⟨g7, 15, none⟩ = some (.int .u32 ((q.f.pc + 4) % 4294967296)) := e2
        have c19 : X8.cell? ⟨g1, 19, none⟩ = some (.int .u32 q.f.pc) := (Mq.rng H8.out.cq 15 _ q.f.at15)
        have HB := hid H8.out.below
        have HR7 : Hid (X8.rangeAt g7 0 (rs q.f.r)) := hid (F.rng (f := q.f.nx) H8.out.c0)
        clear e2
        go_wp2_with (first | (go_at_call 10; refine (num_any _ _).mono ?_; rintro e wn ⟨rfl, rfl⟩) | (refine wpList_fa4g (by rfl) _ rfl g1 rfl ?_) | (refine wpList_load_rg (by rfl) _ rfl g7 0 q.f.r rfl HR7.out ?_) | (refine wpList_load_rg (by rfl) _ rfl g1 4 q.f.r rfl (Mq.rngR H8.out.cq) ?_) | (refine wpList_eql_rg (by rfl) _ _ rfl q.f.r q.f.r rfl rfl true ((sameR_iff _ _).2 (fun _ _ => rfl)) ?_))
        go_ret
        exact ⟨rfl, HB.out⟩
      · by_cases em : 15 ≤ op ∧ op ≤ 18
        · have hm := @doI_mem (m.fm q.l q.f.pc) q.l q.f ⟨op, cond, a, b, c, imm⟩ em.1 em.2
          rw [(m.fm_tr q.l q.f.pc q.l (ad q.f ⟨op, cond, a, b, c, imm⟩) (acc ⟨op, cond, a, b, c, imm⟩)).1] at hm
          have HY := hid hm.1
          have HN : Hid (¬ m.trE q.l (ad q.f ⟨op, cond, a, b, c, imm⟩) (acc ⟨op, cond, a, b, c, imm⟩) = 0 → (doI (m.fm q.l q.f.pc) q.l q.f ⟨op, cond, a, b, c, imm⟩).f = q.f ∧ (doI (m.fm q.l q.f.pc) q.l q.f ⟨op, cond, a, b, c, imm⟩).k = 4 ∧ (doI (m.fm q.l q.f.pc) q.l q.f ⟨op, cond, a, b, c, imm⟩).a = ad q.f ⟨op, cond, a, b, c, imm⟩ ∧ ∀ s p x, (doI (m.fm q.l q.f.pc) q.l q.f ⟨op, cond, a, b, c, imm⟩).m.word s p x = m.word s p x) := hid (fun h => by
            obtain ⟨h1, h2, h3, h4⟩ := hm.2 h
            exact ⟨h1, h2, h3, fun s p x => (h4 s p x).trans (m.fm_word _ _ _ _ _)⟩)
          have HAd := hid (fun W => laddress_any W q.f ⟨op, cond, a, b, c, imm⟩ HIk.out)
          have HCo := hid (fun x (hx : Mem x fb m) => comes_any x fb m hx HU.out q.l (ad q.f ⟨op, cond, a, b, c, imm⟩) (acc ⟨op, cond, a, b, c, imm⟩) (ad_range _ _).1 (ad_range _ _).2)
          clear hm e24 ho1 ho2
          generalize doI (m.fm q.l q.f.pc) q.l q.f ⟨op, cond, a, b, c, imm⟩ = o at *
          have hop : op = 15 ∨ op = 16 ∨ op = 17 ∨ op = 18 := by omega
          clear em
          simp only [I.Ins.v, F.v, plc] at HAd HCo
          unfold ptr at HCo
          rcases hop with rfl | rfl | rfl | rfl
          · rw [show acc ⟨15, cond, a, b, c, imm⟩ = 0 from rfl] at *
            generalize hva : ad q.f ⟨15, cond, a, b, c, imm⟩ = va at *
            generalize m.trS q.l va 0 = ts at *
            generalize m.trP q.l va 0 = tp at *
            generalize m.trO q.l va 0 = tof at *
            generalize m.trE q.l va 0 = te at *
            go_upto_region 23 with (go_at_call 10; refine (num_any _ _).mono ?_; rintro e wn ⟨rfl, rfl⟩)
            have HD := hid (And.intro (H8.out.on (Below.refl _ _).drew) (HC10.out.on (Below.refl _ _).drew))
            clear q0 q1 q2 q3 q4 q5
            subst hva
            refine wp_region_held_drew (S := fun x => FT W x g1 g7 q fa fb m o ∧ Cel x g10 57 (I.Ins.cs ⟨15, cond, a, b, c, imm⟩)) (by kernel_rfl) HD.out (fun hHeld => ?_)
            refine wpAnyH_take (i := 0) (oi := { dst := some 131, op := Op.move (Operand.tmp 4), type := 29, pos := "outright.go:161", after := #[], guard := none }) (v := .pointer (some ⟨fb.gm, 0, none⟩)) rfl (by kernel_rfl) (by kernel_rfl) (by kernel_rfl) (fun _ _ _ h => h) (Or.inl ⟨by rfl, by intro w hSw; go_simp⟩) (by assumption) ?_
            simp only [Act.put, List.setIfInBounds_toArray, List.set_cons_zero, List.set_cons_succ]
            refine wpAnyH_take (i := 1) (oi := { dst := some 132, op := Op.fieldAddr 28 (Operand.tmp 1) 3, type := 0, pos := "outright.go:161", after := #[], guard := none }) (v := .pointer (some ⟨g1, 3, none⟩)) rfl (by kernel_rfl) (by kernel_rfl) (by kernel_rfl) (fun _ _ _ h => h) (Or.inl ⟨by rfl, by intro w hSw; go_simp⟩) (by assumption) ?_
            simp only [Act.put, List.setIfInBounds_toArray, List.set_cons_zero, List.set_cons_succ]
            refine wpAnyH_take (i := 2) (oi := { dst := some 133, op := Op.load 3 (Operand.tmp 132), type := 3, pos := "outright.go:161", after := #[{ on := 1, ground := Ground.data }], guard := none }) (v := .int .i64 q.l) rfl (by kernel_rfl) (by kernel_rfl) (by kernel_rfl) (fun _ _ _ h => h) (Or.inl ⟨by rfl, by intro w hSw; have hq : w.cell? ⟨g1, 3, none⟩ = some (.int .i64 q.l) := hSw.1.cq.cell 3; go_simp⟩) (by assumption) ?_
            simp only [Act.put, List.setIfInBounds_toArray, List.set_cons_zero, List.set_cons_succ]
            refine wpAnyH_take (i := 3) (oi := { dst := some 134, op := Op.fieldAddr 28 (Operand.tmp 1) 4, type := 0, pos := "outright.go:161", after := #[], guard := none }) (v := .pointer (some ⟨g1, 4, none⟩)) rfl (by kernel_rfl) (by kernel_rfl) (by kernel_rfl) (fun _ _ _ h => h) (Or.inl ⟨by rfl, by intro w hSw; exact exec_fa4 _ rfl g1 rfl⟩) (by assumption) ?_
            simp only [Act.put, List.setIfInBounds_toArray, List.set_cons_zero, List.set_cons_succ]
            refine wpAnyH_take (i := 4) (oi := { dst := some 135, op := Op.load 26 (Operand.tmp 134), type := 26, pos := "outright.go:161", after := #[{ on := 3, ground := Ground.data }], guard := none }) (v := .agg q.f.cs.toArray) rfl (by kernel_rfl) (by kernel_rfl) (by kernel_rfl) (fun _ _ _ h => h) (yieldsIf_load_mid (by rfl) _ _ rfl _ _ rfl _ _ (fun w hSw => Mq.rng hSw.1.cq) under27 rfl (by rw [size27, F.len])) (by assumption) ?_
            simp only [Act.put, List.setIfInBounds_toArray, List.set_cons_zero, List.set_cons_succ]
            refine wpAnyH_take (i := 5) (oi := { dst := some 136, op := Op.load 57 (Operand.tmp 10), type := 57, pos := "outright.go:161", after := #[], guard := none }) (v := .agg #[.int .i64 15, .int .i64 cond, .int .i64 a, .int .i64 b, .int .i64 c, .int .i32 imm]) rfl (by kernel_rfl) (by kernel_rfl) (by kernel_rfl) (fun _ _ _ h => h) (Or.inl ⟨by rfl, by intro w hSw; have hq := cel6 hSw.2; obtain ⟨q0, q1, q2, q3, q4, q5⟩ := hq; go_simp⟩) (by assumption) ?_
            simp only [Act.put, List.setIfInBounds_toArray, List.set_cons_zero, List.set_cons_succ]
            refine wpAnyH_take (i := 7) (oi := { dst := some 138, op := Op.move (Operand.tmp 12), type := 51, pos := "outright.go:161", after := #[], guard := none }) (v := .int .i64 0) rfl (by kernel_rfl) (by kernel_rfl) (by kernel_rfl) (fun _ _ _ h => h) (Or.inl ⟨by rfl, by intro w hSw; go_simp⟩) (by assumption) ?_
            simp only [Act.put, List.setIfInBounds_toArray, List.set_cons_zero, List.set_cons_succ]
            refine wpAnyH_ready (rs := [6, 12]) (by kernel_rfl) (by simp) (AllReadyH.cons (o := { dst := some 137, op := Op.call { callee := Callee.value (Operand.func 18), args := #[Operand.tmp 135, Operand.tmp 136], argTypes := #[26, 57] }, type := 23, pos := "outright.go:161", after := #[{ on := 4, ground := Ground.data }, { on := 5, ground := Ground.data }], guard := none }) rfl (fun KQ hK => ?_) (AllReadyH.cons (o := { dst := some 13, op := Op.alloc 48, type := 0, pos := "outright.go:161", after := #[], guard := none }) rfl (fun KQ hK => ?_) AllReadyH.nil))
            · go_simp
              refine (HAd.out _).mono ?_
              rintro e wa1 ⟨rfl, hbx⟩
              have HA1 := hid (And.intro (HD.out.1.on hbx) (HD.out.2.on hbx))
              clear hbx
              go_wp2_with fail
              refine hK.out _ _ HA1.out (fun hHeld => ?_)
              clear hK KQ
              try simp only [Act.put, List.setIfInBounds_toArray, List.set_cons_zero, List.set_cons_succ]
              refine wpAnyH_ready (rs := [8, 12]) (by kernel_rfl) (by simp) (AllReadyH.cons (o := { dst := some 139, op := Op.call { callee := Callee.value (Operand.func 14), args := #[Operand.tmp 131, Operand.tmp 133, Operand.tmp 137, Operand.tmp 138], argTypes := #[29, 3, 23, 51] }, type := 49, pos := "outright.go:161", after := #[{ on := 0, ground := Ground.data }, { on := 2, ground := Ground.data }, { on := 6, ground := Ground.data }, { on := 7, ground := Ground.data }, { on := 6, ground := Ground.chain }], guard := none }) rfl (fun KQ hK => ?_) (AllReadyH.cons (o := { dst := some 13, op := Op.alloc 48, type := 0, pos := "outright.go:161", after := #[], guard := none }) rfl (fun KQ hK => ?_) AllReadyH.nil))
              · go_simp
                refine (HCo.out _ HA1.out.1.b).mono ?_
                rintro e wc2 ⟨rfl, hbx⟩
                have HC2 := hid (And.intro (HA1.out.1.on hbx) (HA1.out.2.on hbx))
                clear hbx
                go_wp2_with fail
                refine hK.out _ _ HC2.out (fun hHeld => ?_)
                clear hK KQ
                try simp only [Act.put, List.setIfInBounds_toArray, List.set_cons_zero, List.set_cons_succ]
                refine wpAnyH_take (i := 9) (oi := { dst := some 130, op := Op.move (Operand.tmp 139), type := 49, pos := "outright.go:161", after := #[{ on := 8, ground := Ground.data }], guard := none }) (v := .tuple #[.agg #[.bool ts, .int .i64 tp, .int .i64 tof], .bool (te == 0)]) rfl (by kernel_rfl) (by kernel_rfl) (by kernel_rfl) (fun _ _ _ h => h) (Or.inl ⟨by rfl, by intro w hSw; go_simp⟩) (by assumption) ?_
                simp only [Act.put, List.setIfInBounds_toArray, List.set_cons_zero, List.set_cons_succ]
                refine wpAnyH_take (i := 10) (oi := { dst := some 140, op := Op.extract (Operand.tmp 130) 0, type := 48, pos := "outright.go:161", after := #[{ on := 9, ground := Ground.data }], guard := none }) (v := .agg #[.bool ts, .int .i64 tp, .int .i64 tof]) rfl (by kernel_rfl) (by kernel_rfl) (by kernel_rfl) (fun _ _ _ h => h) (Or.inl ⟨by rfl, by intro w hSw; go_simp⟩) (by assumption) ?_
                simp only [Act.put, List.setIfInBounds_toArray, List.set_cons_zero, List.set_cons_succ]
                refine wpAnyH_take (i := 11) (oi := { dst := some 141, op := Op.extract (Operand.tmp 130) 1, type := 4, pos := "outright.go:161", after := #[{ on := 9, ground := Ground.data }, { on := 13, ground := Ground.gcOnly Departure.lateStores }], guard := none }) (v := .bool (te == 0)) rfl (by kernel_rfl) (by kernel_rfl) (by kernel_rfl) (fun _ _ _ h => h) (Or.inl ⟨by rfl, by intro w hSw; go_simp⟩) (by assumption) ?_
                simp only [Act.put, List.setIfInBounds_toArray, List.set_cons_zero, List.set_cons_succ]
                refine wpAnyH_ready (rs := [12]) (by kernel_rfl) (by simp) (AllReadyH.cons (o := { dst := some 13, op := Op.alloc 48, type := 0, pos := "outright.go:161", after := #[], guard := none }) rfl (fun KQ hK => ?_) AllReadyH.nil)
                go_simp
                have HL3 := hid (And.intro (HC2.out.1.on (below_one wc2 (.cells #[.bool false, .int .i64 0, .int .i64 0] 48))) (HC2.out.2.on (below_one wc2 (.cells #[.bool false, .int .i64 0, .int .i64 0] 48))))
                have HZ3 := hid (Cel.new wc2 48 (plc false 0 0))
                have HG3 : Hid (FB W wc2 g1 g7 g10 fa fb) := hid ⟨HC2.out.1.below.size, HC2.out.1.cq.lt, HC2.out.1.c0.lt, HC2.out.1.c1.lt, HC2.out.2.lt, HC2.out.1.a.lt, HC2.out.1.b.lt⟩
                refine hK.out _ _ HL3.out (fun hHeld => ?_)
                clear hK KQ
                try simp only [Act.put, List.setIfInBounds_toArray, List.set_cons_zero, List.set_cons_succ]
                refine wpAnyH_ready (rs := [13]) (by kernel_rfl) (by simp) (AllReadyH.cons (o := { dst := none, op := Op.store 48 (Operand.tmp 13) (Operand.tmp 140), type := 0, pos := "outright.go:161", after := #[{ on := 12, ground := Ground.data }, { on := 10, ground := Ground.data }, { on := 8, ground := Ground.chain }, { on := 0, ground := Ground.phase }, { on := 1, ground := Ground.phase }, { on := 2, ground := Ground.phase }, { on := 3, ground := Ground.phase }, { on := 4, ground := Ground.phase }, { on := 5, ground := Ground.phase }, { on := 6, ground := Ground.phase }, { on := 7, ground := Ground.phase }, { on := 8, ground := Ground.phase }, { on := 9, ground := Ground.phase }, { on := 10, ground := Ground.phase }, { on := 11, ground := Ground.textOnly Departure.lateStores }, { on := 12, ground := Ground.phase }], guard := none }) rfl (fun KQ hK => ?_) AllReadyH.nil)
                rw [if_pos (by rfl)]
                refine wp_store_st 48 _ _ rfl (wc2.heap.size) (plc ts tp tof) rfl rfl HZ3.out size48 rfl rfl ?_
                intro ws4 hcx hbx hsx
                have HS4 := hid (HG3.out.put HL3.out.1 HL3.out.2 hbx)
                clear hcx hbx hsx
                refine hK.out _ _ HS4.out (fun hHeld => ?_)
                clear hK KQ
                try simp only [Act.put]
                refine wpAnyH_ready (rs := [14]) (by kernel_rfl) (by simp) (AllReadyH.cons (o := { dst := some 14, op := Op.assign (Operand.tmp 141), type := 4, pos := "outright.go:161", after := #[{ on := 11, ground := Ground.data }, { on := 13, ground := Ground.chain }, { on := 0, ground := Ground.phase }, { on := 1, ground := Ground.phase }, { on := 2, ground := Ground.phase }, { on := 3, ground := Ground.phase }, { on := 4, ground := Ground.phase }, { on := 5, ground := Ground.phase }, { on := 6, ground := Ground.phase }, { on := 7, ground := Ground.phase }, { on := 8, ground := Ground.phase }, { on := 9, ground := Ground.phase }, { on := 10, ground := Ground.phase }, { on := 11, ground := Ground.phase }, { on := 12, ground := Ground.phase }, { on := 13, ground := Ground.phase }], guard := none }) rfl (fun KQ hK => ?_) AllReadyH.nil)
                go_simp
                refine hK.out _ _ HS4.out (fun hHeld => ?_)
                clear hK KQ
                try simp only [Act.put, List.setIfInBounds_toArray, List.set_cons_zero, List.set_cons_succ]
                refine wpAnyH_done (by kernel_rfl) ?_ _
                exact (‹∀ (a : Act) (w : World), Code.wp Tryd.prog _ _ a w → _› _ _ (faults_t W _ g1 g7 g10 q fa fb m o ⟨15, cond, a, b, c, imm⟩ HIk.out HS4.out.1 HS4.out.2 te HY.out HN.out _ _ _ _ _ _ _ _ _ _ _ _ _ _ _ _ _ _ _ _ _ _ _ _ _ _ _ _ _ _ _ _ _ _ _ _ _ _ _ _ _ _ _ _ _ _ _ _ _ _ _ _ _ _ _ _ _ _ _ _ _ _ _ _ _ _ _ _ _ _ _ _ _ _ _ _ _ _ _ _ _ _ _ _ _ _ _ _ _ _ _ _ _ _ _ _ _ _ _ _ _ _ _ _ _ _ _ _ _ _ _ _ _ _ _ _ _ _ _ _ _ _ _ _ _ _ _ _ _ _ _ _ _ _ _ _ _ _ _ _ _ _ _ _ _ _ _ _ _ _ _ _ _ _ _ _ _ _ _ _ _ _ _ _ _ _ _))
              · go_simp
                have HL5 := hid (And.intro (HA1.out.1.on (below_one wa1 (.cells #[.bool false, .int .i64 0, .int .i64 0] 48))) (HA1.out.2.on (below_one wa1 (.cells #[.bool false, .int .i64 0, .int .i64 0] 48))))
                have HZ5 := hid (Cel.new wa1 48 (plc false 0 0))
                have HG5 : Hid (FB W wa1 g1 g7 g10 fa fb) := hid ⟨HA1.out.1.below.size, HA1.out.1.cq.lt, HA1.out.1.c0.lt, HA1.out.1.c1.lt, HA1.out.2.lt, HA1.out.1.a.lt, HA1.out.1.b.lt⟩
                refine hK.out _ _ HL5.out (fun hHeld => ?_)
                clear hK KQ
                try simp only [Act.put, List.setIfInBounds_toArray, List.set_cons_zero, List.set_cons_succ]
                refine wpAnyH_ready (rs := [8]) (by kernel_rfl) (by simp) (AllReadyH.cons (o := { dst := some 139, op := Op.call { callee := Callee.value (Operand.func 14), args := #[Operand.tmp 131, Operand.tmp 133, Operand.tmp 137, Operand.tmp 138], argTypes := #[29, 3, 23, 51] }, type := 49, pos := "outright.go:161", after := #[{ on := 0, ground := Ground.data }, { on := 2, ground := Ground.data }, { on := 6, ground := Ground.data }, { on := 7, ground := Ground.data }, { on := 6, ground := Ground.chain }], guard := none }) rfl (fun KQ hK => ?_) AllReadyH.nil)
                go_simp
                refine (HCo.out _ HL5.out.1.b).mono ?_
                rintro e wc6 ⟨rfl, hbx⟩
                have HC6 := hid (And.intro (HL5.out.1.on hbx) (HL5.out.2.on hbx))
                have HZ6 := hid (HZ5.out.on hbx)
                clear hbx
                go_wp2_with fail
                refine hK.out _ _ HC6.out (fun hHeld => ?_)
                clear hK KQ
                try simp only [Act.put, List.setIfInBounds_toArray, List.set_cons_zero, List.set_cons_succ]
                refine wpAnyH_take (i := 9) (oi := { dst := some 130, op := Op.move (Operand.tmp 139), type := 49, pos := "outright.go:161", after := #[{ on := 8, ground := Ground.data }], guard := none }) (v := .tuple #[.agg #[.bool ts, .int .i64 tp, .int .i64 tof], .bool (te == 0)]) rfl (by kernel_rfl) (by kernel_rfl) (by kernel_rfl) (fun _ _ _ h => h) (Or.inl ⟨by rfl, by intro w hSw; go_simp⟩) (by assumption) ?_
                simp only [Act.put, List.setIfInBounds_toArray, List.set_cons_zero, List.set_cons_succ]
                refine wpAnyH_take (i := 10) (oi := { dst := some 140, op := Op.extract (Operand.tmp 130) 0, type := 48, pos := "outright.go:161", after := #[{ on := 9, ground := Ground.data }], guard := none }) (v := .agg #[.bool ts, .int .i64 tp, .int .i64 tof]) rfl (by kernel_rfl) (by kernel_rfl) (by kernel_rfl) (fun _ _ _ h => h) (Or.inl ⟨by rfl, by intro w hSw; go_simp⟩) (by assumption) ?_
                simp only [Act.put, List.setIfInBounds_toArray, List.set_cons_zero, List.set_cons_succ]
                refine wpAnyH_take (i := 11) (oi := { dst := some 141, op := Op.extract (Operand.tmp 130) 1, type := 4, pos := "outright.go:161", after := #[{ on := 9, ground := Ground.data }, { on := 13, ground := Ground.gcOnly Departure.lateStores }], guard := none }) (v := .bool (te == 0)) rfl (by kernel_rfl) (by kernel_rfl) (by kernel_rfl) (fun _ _ _ h => h) (Or.inl ⟨by rfl, by intro w hSw; go_simp⟩) (by assumption) ?_
                simp only [Act.put, List.setIfInBounds_toArray, List.set_cons_zero, List.set_cons_succ]
                refine wpAnyH_ready (rs := [13]) (by kernel_rfl) (by simp) (AllReadyH.cons (o := { dst := none, op := Op.store 48 (Operand.tmp 13) (Operand.tmp 140), type := 0, pos := "outright.go:161", after := #[{ on := 12, ground := Ground.data }, { on := 10, ground := Ground.data }, { on := 8, ground := Ground.chain }, { on := 0, ground := Ground.phase }, { on := 1, ground := Ground.phase }, { on := 2, ground := Ground.phase }, { on := 3, ground := Ground.phase }, { on := 4, ground := Ground.phase }, { on := 5, ground := Ground.phase }, { on := 6, ground := Ground.phase }, { on := 7, ground := Ground.phase }, { on := 8, ground := Ground.phase }, { on := 9, ground := Ground.phase }, { on := 10, ground := Ground.phase }, { on := 11, ground := Ground.textOnly Departure.lateStores }, { on := 12, ground := Ground.phase }], guard := none }) rfl (fun KQ hK => ?_) AllReadyH.nil)
                rw [if_pos (by rfl)]
                refine wp_store_st 48 _ _ rfl (wa1.heap.size) (plc ts tp tof) rfl rfl HZ6.out size48 rfl rfl ?_
                intro ws7 hcx hbx hsx
                have HS7 := hid (HG5.out.put HC6.out.1 HC6.out.2 hbx)
                clear hcx hbx hsx
                refine hK.out _ _ HS7.out (fun hHeld => ?_)
                clear hK KQ
                try simp only [Act.put]
                refine wpAnyH_ready (rs := [14]) (by kernel_rfl) (by simp) (AllReadyH.cons (o := { dst := some 14, op := Op.assign (Operand.tmp 141), type := 4, pos := "outright.go:161", after := #[{ on := 11, ground := Ground.data }, { on := 13, ground := Ground.chain }, { on := 0, ground := Ground.phase }, { on := 1, ground := Ground.phase }, { on := 2, ground := Ground.phase }, { on := 3, ground := Ground.phase }, { on := 4, ground := Ground.phase }, { on := 5, ground := Ground.phase }, { on := 6, ground := Ground.phase }, { on := 7, ground := Ground.phase }, { on := 8, ground := Ground.phase }, { on := 9, ground := Ground.phase }, { on := 10, ground := Ground.phase }, { on := 11, ground := Ground.phase }, { on := 12, ground := Ground.phase }, { on := 13, ground := Ground.phase }], guard := none }) rfl (fun KQ hK => ?_) AllReadyH.nil)
                go_simp
                refine hK.out _ _ HS7.out (fun hHeld => ?_)
                clear hK KQ
                try simp only [Act.put, List.setIfInBounds_toArray, List.set_cons_zero, List.set_cons_succ]
                refine wpAnyH_done (by kernel_rfl) ?_ _
                exact (‹∀ (a : Act) (w : World), Code.wp Tryd.prog _ _ a w → _› _ _ (faults_t W _ g1 g7 g10 q fa fb m o ⟨15, cond, a, b, c, imm⟩ HIk.out HS7.out.1 HS7.out.2 te HY.out HN.out _ _ _ _ _ _ _ _ _ _ _ _ _ _ _ _ _ _ _ _ _ _ _ _ _ _ _ _ _ _ _ _ _ _ _ _ _ _ _ _ _ _ _ _ _ _ _ _ _ _ _ _ _ _ _ _ _ _ _ _ _ _ _ _ _ _ _ _ _ _ _ _ _ _ _ _ _ _ _ _ _ _ _ _ _ _ _ _ _ _ _ _ _ _ _ _ _ _ _ _ _ _ _ _ _ _ _ _ _ _ _ _ _ _ _ _ _ _ _ _ _ _ _ _ _ _ _ _ _ _ _ _ _ _ _ _ _ _ _ _ _ _ _ _ _ _ _ _ _ _ _ _ _ _ _ _ _ _ _ _ _ _ _ _ _ _ _))
            · go_simp
              have HL8 := hid (And.intro (HD.out.1.on (below_one X8.drew (.cells #[.bool false, .int .i64 0, .int .i64 0] 48))) (HD.out.2.on (below_one X8.drew (.cells #[.bool false, .int .i64 0, .int .i64 0] 48))))
              have HZ8 := hid (Cel.new X8.drew 48 (plc false 0 0))
              have HG8 : Hid (FB W X8.drew g1 g7 g10 fa fb) := hid ⟨HD.out.1.below.size, HD.out.1.cq.lt, HD.out.1.c0.lt, HD.out.1.c1.lt, HD.out.2.lt, HD.out.1.a.lt, HD.out.1.b.lt⟩
              refine hK.out _ _ HL8.out (fun hHeld => ?_)
              clear hK KQ
              try simp only [Act.put, List.setIfInBounds_toArray, List.set_cons_zero, List.set_cons_succ]
              refine wpAnyH_ready (rs := [6]) (by kernel_rfl) (by simp) (AllReadyH.cons (o := { dst := some 137, op := Op.call { callee := Callee.value (Operand.func 18), args := #[Operand.tmp 135, Operand.tmp 136], argTypes := #[26, 57] }, type := 23, pos := "outright.go:161", after := #[{ on := 4, ground := Ground.data }, { on := 5, ground := Ground.data }], guard := none }) rfl (fun KQ hK => ?_) AllReadyH.nil)
              go_simp
              refine (HAd.out _).mono ?_
              rintro e wa9 ⟨rfl, hbx⟩
              have HA9 := hid (And.intro (HL8.out.1.on hbx) (HL8.out.2.on hbx))
              have HZ9 := hid (HZ8.out.on hbx)
              clear hbx
              go_wp2_with fail
              refine hK.out _ _ HA9.out (fun hHeld => ?_)
              clear hK KQ
              try simp only [Act.put, List.setIfInBounds_toArray, List.set_cons_zero, List.set_cons_succ]
              refine wpAnyH_ready (rs := [8]) (by kernel_rfl) (by simp) (AllReadyH.cons (o := { dst := some 139, op := Op.call { callee := Callee.value (Operand.func 14), args := #[Operand.tmp 131, Operand.tmp 133, Operand.tmp 137, Operand.tmp 138], argTypes := #[29, 3, 23, 51] }, type := 49, pos := "outright.go:161", after := #[{ on := 0, ground := Ground.data }, { on := 2, ground := Ground.data }, { on := 6, ground := Ground.data }, { on := 7, ground := Ground.data }, { on := 6, ground := Ground.chain }], guard := none }) rfl (fun KQ hK => ?_) AllReadyH.nil)
              go_simp
              refine (HCo.out _ HA9.out.1.b).mono ?_
              rintro e wc10 ⟨rfl, hbx⟩
              have HC10 := hid (And.intro (HA9.out.1.on hbx) (HA9.out.2.on hbx))
              have HZ10 := hid (HZ9.out.on hbx)
              clear hbx
              go_wp2_with fail
              refine hK.out _ _ HC10.out (fun hHeld => ?_)
              clear hK KQ
              try simp only [Act.put, List.setIfInBounds_toArray, List.set_cons_zero, List.set_cons_succ]
              refine wpAnyH_take (i := 9) (oi := { dst := some 130, op := Op.move (Operand.tmp 139), type := 49, pos := "outright.go:161", after := #[{ on := 8, ground := Ground.data }], guard := none }) (v := .tuple #[.agg #[.bool ts, .int .i64 tp, .int .i64 tof], .bool (te == 0)]) rfl (by kernel_rfl) (by kernel_rfl) (by kernel_rfl) (fun _ _ _ h => h) (Or.inl ⟨by rfl, by intro w hSw; go_simp⟩) (by assumption) ?_
              simp only [Act.put, List.setIfInBounds_toArray, List.set_cons_zero, List.set_cons_succ]
              refine wpAnyH_take (i := 10) (oi := { dst := some 140, op := Op.extract (Operand.tmp 130) 0, type := 48, pos := "outright.go:161", after := #[{ on := 9, ground := Ground.data }], guard := none }) (v := .agg #[.bool ts, .int .i64 tp, .int .i64 tof]) rfl (by kernel_rfl) (by kernel_rfl) (by kernel_rfl) (fun _ _ _ h => h) (Or.inl ⟨by rfl, by intro w hSw; go_simp⟩) (by assumption) ?_
              simp only [Act.put, List.setIfInBounds_toArray, List.set_cons_zero, List.set_cons_succ]
              refine wpAnyH_take (i := 11) (oi := { dst := some 141, op := Op.extract (Operand.tmp 130) 1, type := 4, pos := "outright.go:161", after := #[{ on := 9, ground := Ground.data }, { on := 13, ground := Ground.gcOnly Departure.lateStores }], guard := none }) (v := .bool (te == 0)) rfl (by kernel_rfl) (by kernel_rfl) (by kernel_rfl) (fun _ _ _ h => h) (Or.inl ⟨by rfl, by intro w hSw; go_simp⟩) (by assumption) ?_
              simp only [Act.put, List.setIfInBounds_toArray, List.set_cons_zero, List.set_cons_succ]
              refine wpAnyH_ready (rs := [13]) (by kernel_rfl) (by simp) (AllReadyH.cons (o := { dst := none, op := Op.store 48 (Operand.tmp 13) (Operand.tmp 140), type := 0, pos := "outright.go:161", after := #[{ on := 12, ground := Ground.data }, { on := 10, ground := Ground.data }, { on := 8, ground := Ground.chain }, { on := 0, ground := Ground.phase }, { on := 1, ground := Ground.phase }, { on := 2, ground := Ground.phase }, { on := 3, ground := Ground.phase }, { on := 4, ground := Ground.phase }, { on := 5, ground := Ground.phase }, { on := 6, ground := Ground.phase }, { on := 7, ground := Ground.phase }, { on := 8, ground := Ground.phase }, { on := 9, ground := Ground.phase }, { on := 10, ground := Ground.phase }, { on := 11, ground := Ground.textOnly Departure.lateStores }, { on := 12, ground := Ground.phase }], guard := none }) rfl (fun KQ hK => ?_) AllReadyH.nil)
              rw [if_pos (by rfl)]
              refine wp_store_st 48 _ _ rfl (X8.drew.heap.size) (plc ts tp tof) rfl rfl HZ10.out size48 rfl rfl ?_
              intro ws11 hcx hbx hsx
              have HS11 := hid (HG8.out.put HC10.out.1 HC10.out.2 hbx)
              clear hcx hbx hsx
              refine hK.out _ _ HS11.out (fun hHeld => ?_)
              clear hK KQ
              try simp only [Act.put]
              refine wpAnyH_ready (rs := [14]) (by kernel_rfl) (by simp) (AllReadyH.cons (o := { dst := some 14, op := Op.assign (Operand.tmp 141), type := 4, pos := "outright.go:161", after := #[{ on := 11, ground := Ground.data }, { on := 13, ground := Ground.chain }, { on := 0, ground := Ground.phase }, { on := 1, ground := Ground.phase }, { on := 2, ground := Ground.phase }, { on := 3, ground := Ground.phase }, { on := 4, ground := Ground.phase }, { on := 5, ground := Ground.phase }, { on := 6, ground := Ground.phase }, { on := 7, ground := Ground.phase }, { on := 8, ground := Ground.phase }, { on := 9, ground := Ground.phase }, { on := 10, ground := Ground.phase }, { on := 11, ground := Ground.phase }, { on := 12, ground := Ground.phase }, { on := 13, ground := Ground.phase }], guard := none }) rfl (fun KQ hK => ?_) AllReadyH.nil)
              go_simp
              refine hK.out _ _ HS11.out (fun hHeld => ?_)
              clear hK KQ
              try simp only [Act.put, List.setIfInBounds_toArray, List.set_cons_zero, List.set_cons_succ]
              refine wpAnyH_done (by kernel_rfl) ?_ _
              exact (‹∀ (a : Act) (w : World), Code.wp Tryd.prog _ _ a w → _› _ _ (faults_t W _ g1 g7 g10 q fa fb m o ⟨15, cond, a, b, c, imm⟩ HIk.out HS11.out.1 HS11.out.2 te HY.out HN.out _ _ _ _ _ _ _ _ _ _ _ _ _ _ _ _ _ _ _ _ _ _ _ _ _ _ _ _ _ _ _ _ _ _ _ _ _ _ _ _ _ _ _ _ _ _ _ _ _ _ _ _ _ _ _ _ _ _ _ _ _ _ _ _ _ _ _ _ _ _ _ _ _ _ _ _ _ _ _ _ _ _ _ _ _ _ _ _ _ _ _ _ _ _ _ _ _ _ _ _ _ _ _ _ _ _ _ _ _ _ _ _ _ _ _ _ _ _ _ _ _ _ _ _ _ _ _ _ _ _ _ _ _ _ _ _ _ _ _ _ _ _ _ _ _ _ _ _ _ _ _ _ _ _ _ _ _ _ _ _ _ _ _ _ _ _ _))
          · rw [show acc ⟨16, cond, a, b, c, imm⟩ = 1 from rfl] at *
            generalize hva : ad q.f ⟨16, cond, a, b, c, imm⟩ = va at *
            generalize m.trS q.l va 1 = ts at *
            generalize m.trP q.l va 1 = tp at *
            generalize m.trO q.l va 1 = tof at *
            generalize m.trE q.l va 1 = te at *
            go_upto_region 23 with (go_at_call 10; refine (num_any _ _).mono ?_; rintro e wn ⟨rfl, rfl⟩)
            have HD := hid (And.intro (H8.out.on (Below.refl _ _).drew) (HC10.out.on (Below.refl _ _).drew))
            clear q0 q1 q2 q3 q4 q5
            subst hva
            refine wp_region_held_drew (S := fun x => FT W x g1 g7 q fa fb m o ∧ Cel x g10 57 (I.Ins.cs ⟨16, cond, a, b, c, imm⟩)) (by kernel_rfl) HD.out (fun hHeld => ?_)
            refine wpAnyH_take (i := 0) (oi := { dst := some 131, op := Op.move (Operand.tmp 4), type := 29, pos := "outright.go:161", after := #[], guard := none }) (v := .pointer (some ⟨fb.gm, 0, none⟩)) rfl (by kernel_rfl) (by kernel_rfl) (by kernel_rfl) (fun _ _ _ h => h) (Or.inl ⟨by rfl, by intro w hSw; go_simp⟩) (by assumption) ?_
            simp only [Act.put, List.setIfInBounds_toArray, List.set_cons_zero, List.set_cons_succ]
            refine wpAnyH_take (i := 1) (oi := { dst := some 132, op := Op.fieldAddr 28 (Operand.tmp 1) 3, type := 0, pos := "outright.go:161", after := #[], guard := none }) (v := .pointer (some ⟨g1, 3, none⟩)) rfl (by kernel_rfl) (by kernel_rfl) (by kernel_rfl) (fun _ _ _ h => h) (Or.inl ⟨by rfl, by intro w hSw; go_simp⟩) (by assumption) ?_
            simp only [Act.put, List.setIfInBounds_toArray, List.set_cons_zero, List.set_cons_succ]
            refine wpAnyH_take (i := 2) (oi := { dst := some 133, op := Op.load 3 (Operand.tmp 132), type := 3, pos := "outright.go:161", after := #[{ on := 1, ground := Ground.data }], guard := none }) (v := .int .i64 q.l) rfl (by kernel_rfl) (by kernel_rfl) (by kernel_rfl) (fun _ _ _ h => h) (Or.inl ⟨by rfl, by intro w hSw; have hq : w.cell? ⟨g1, 3, none⟩ = some (.int .i64 q.l) := hSw.1.cq.cell 3; go_simp⟩) (by assumption) ?_
            simp only [Act.put, List.setIfInBounds_toArray, List.set_cons_zero, List.set_cons_succ]
            refine wpAnyH_take (i := 3) (oi := { dst := some 134, op := Op.fieldAddr 28 (Operand.tmp 1) 4, type := 0, pos := "outright.go:161", after := #[], guard := none }) (v := .pointer (some ⟨g1, 4, none⟩)) rfl (by kernel_rfl) (by kernel_rfl) (by kernel_rfl) (fun _ _ _ h => h) (Or.inl ⟨by rfl, by intro w hSw; exact exec_fa4 _ rfl g1 rfl⟩) (by assumption) ?_
            simp only [Act.put, List.setIfInBounds_toArray, List.set_cons_zero, List.set_cons_succ]
            refine wpAnyH_take (i := 4) (oi := { dst := some 135, op := Op.load 26 (Operand.tmp 134), type := 26, pos := "outright.go:161", after := #[{ on := 3, ground := Ground.data }], guard := none }) (v := .agg q.f.cs.toArray) rfl (by kernel_rfl) (by kernel_rfl) (by kernel_rfl) (fun _ _ _ h => h) (yieldsIf_load_mid (by rfl) _ _ rfl _ _ rfl _ _ (fun w hSw => Mq.rng hSw.1.cq) under27 rfl (by rw [size27, F.len])) (by assumption) ?_
            simp only [Act.put, List.setIfInBounds_toArray, List.set_cons_zero, List.set_cons_succ]
            refine wpAnyH_take (i := 5) (oi := { dst := some 136, op := Op.load 57 (Operand.tmp 10), type := 57, pos := "outright.go:161", after := #[], guard := none }) (v := .agg #[.int .i64 16, .int .i64 cond, .int .i64 a, .int .i64 b, .int .i64 c, .int .i32 imm]) rfl (by kernel_rfl) (by kernel_rfl) (by kernel_rfl) (fun _ _ _ h => h) (Or.inl ⟨by rfl, by intro w hSw; have hq := cel6 hSw.2; obtain ⟨q0, q1, q2, q3, q4, q5⟩ := hq; go_simp⟩) (by assumption) ?_
            simp only [Act.put, List.setIfInBounds_toArray, List.set_cons_zero, List.set_cons_succ]
            refine wpAnyH_take (i := 7) (oi := { dst := some 138, op := Op.move (Operand.tmp 12), type := 51, pos := "outright.go:161", after := #[], guard := none }) (v := .int .i64 1) rfl (by kernel_rfl) (by kernel_rfl) (by kernel_rfl) (fun _ _ _ h => h) (Or.inl ⟨by rfl, by intro w hSw; go_simp⟩) (by assumption) ?_
            simp only [Act.put, List.setIfInBounds_toArray, List.set_cons_zero, List.set_cons_succ]
            refine wpAnyH_ready (rs := [6, 12]) (by kernel_rfl) (by simp) (AllReadyH.cons (o := { dst := some 137, op := Op.call { callee := Callee.value (Operand.func 18), args := #[Operand.tmp 135, Operand.tmp 136], argTypes := #[26, 57] }, type := 23, pos := "outright.go:161", after := #[{ on := 4, ground := Ground.data }, { on := 5, ground := Ground.data }], guard := none }) rfl (fun KQ hK => ?_) (AllReadyH.cons (o := { dst := some 13, op := Op.alloc 48, type := 0, pos := "outright.go:161", after := #[], guard := none }) rfl (fun KQ hK => ?_) AllReadyH.nil))
            · go_simp
              refine (HAd.out _).mono ?_
              rintro e wa1 ⟨rfl, hbx⟩
              have HA1 := hid (And.intro (HD.out.1.on hbx) (HD.out.2.on hbx))
              clear hbx
              go_wp2_with fail
              refine hK.out _ _ HA1.out (fun hHeld => ?_)
              clear hK KQ
              try simp only [Act.put, List.setIfInBounds_toArray, List.set_cons_zero, List.set_cons_succ]
              refine wpAnyH_ready (rs := [8, 12]) (by kernel_rfl) (by simp) (AllReadyH.cons (o := { dst := some 139, op := Op.call { callee := Callee.value (Operand.func 14), args := #[Operand.tmp 131, Operand.tmp 133, Operand.tmp 137, Operand.tmp 138], argTypes := #[29, 3, 23, 51] }, type := 49, pos := "outright.go:161", after := #[{ on := 0, ground := Ground.data }, { on := 2, ground := Ground.data }, { on := 6, ground := Ground.data }, { on := 7, ground := Ground.data }, { on := 6, ground := Ground.chain }], guard := none }) rfl (fun KQ hK => ?_) (AllReadyH.cons (o := { dst := some 13, op := Op.alloc 48, type := 0, pos := "outright.go:161", after := #[], guard := none }) rfl (fun KQ hK => ?_) AllReadyH.nil))
              · go_simp
                refine (HCo.out _ HA1.out.1.b).mono ?_
                rintro e wc2 ⟨rfl, hbx⟩
                have HC2 := hid (And.intro (HA1.out.1.on hbx) (HA1.out.2.on hbx))
                clear hbx
                go_wp2_with fail
                refine hK.out _ _ HC2.out (fun hHeld => ?_)
                clear hK KQ
                try simp only [Act.put, List.setIfInBounds_toArray, List.set_cons_zero, List.set_cons_succ]
                refine wpAnyH_take (i := 9) (oi := { dst := some 130, op := Op.move (Operand.tmp 139), type := 49, pos := "outright.go:161", after := #[{ on := 8, ground := Ground.data }], guard := none }) (v := .tuple #[.agg #[.bool ts, .int .i64 tp, .int .i64 tof], .bool (te == 0)]) rfl (by kernel_rfl) (by kernel_rfl) (by kernel_rfl) (fun _ _ _ h => h) (Or.inl ⟨by rfl, by intro w hSw; go_simp⟩) (by assumption) ?_
                simp only [Act.put, List.setIfInBounds_toArray, List.set_cons_zero, List.set_cons_succ]
                refine wpAnyH_take (i := 10) (oi := { dst := some 140, op := Op.extract (Operand.tmp 130) 0, type := 48, pos := "outright.go:161", after := #[{ on := 9, ground := Ground.data }], guard := none }) (v := .agg #[.bool ts, .int .i64 tp, .int .i64 tof]) rfl (by kernel_rfl) (by kernel_rfl) (by kernel_rfl) (fun _ _ _ h => h) (Or.inl ⟨by rfl, by intro w hSw; go_simp⟩) (by assumption) ?_
                simp only [Act.put, List.setIfInBounds_toArray, List.set_cons_zero, List.set_cons_succ]
                refine wpAnyH_take (i := 11) (oi := { dst := some 141, op := Op.extract (Operand.tmp 130) 1, type := 4, pos := "outright.go:161", after := #[{ on := 9, ground := Ground.data }, { on := 13, ground := Ground.gcOnly Departure.lateStores }], guard := none }) (v := .bool (te == 0)) rfl (by kernel_rfl) (by kernel_rfl) (by kernel_rfl) (fun _ _ _ h => h) (Or.inl ⟨by rfl, by intro w hSw; go_simp⟩) (by assumption) ?_
                simp only [Act.put, List.setIfInBounds_toArray, List.set_cons_zero, List.set_cons_succ]
                refine wpAnyH_ready (rs := [12]) (by kernel_rfl) (by simp) (AllReadyH.cons (o := { dst := some 13, op := Op.alloc 48, type := 0, pos := "outright.go:161", after := #[], guard := none }) rfl (fun KQ hK => ?_) AllReadyH.nil)
                go_simp
                have HL3 := hid (And.intro (HC2.out.1.on (below_one wc2 (.cells #[.bool false, .int .i64 0, .int .i64 0] 48))) (HC2.out.2.on (below_one wc2 (.cells #[.bool false, .int .i64 0, .int .i64 0] 48))))
                have HZ3 := hid (Cel.new wc2 48 (plc false 0 0))
                have HG3 : Hid (FB W wc2 g1 g7 g10 fa fb) := hid ⟨HC2.out.1.below.size, HC2.out.1.cq.lt, HC2.out.1.c0.lt, HC2.out.1.c1.lt, HC2.out.2.lt, HC2.out.1.a.lt, HC2.out.1.b.lt⟩
                refine hK.out _ _ HL3.out (fun hHeld => ?_)
                clear hK KQ
                try simp only [Act.put, List.setIfInBounds_toArray, List.set_cons_zero, List.set_cons_succ]
                refine wpAnyH_ready (rs := [13]) (by kernel_rfl) (by simp) (AllReadyH.cons (o := { dst := none, op := Op.store 48 (Operand.tmp 13) (Operand.tmp 140), type := 0, pos := "outright.go:161", after := #[{ on := 12, ground := Ground.data }, { on := 10, ground := Ground.data }, { on := 8, ground := Ground.chain }, { on := 0, ground := Ground.phase }, { on := 1, ground := Ground.phase }, { on := 2, ground := Ground.phase }, { on := 3, ground := Ground.phase }, { on := 4, ground := Ground.phase }, { on := 5, ground := Ground.phase }, { on := 6, ground := Ground.phase }, { on := 7, ground := Ground.phase }, { on := 8, ground := Ground.phase }, { on := 9, ground := Ground.phase }, { on := 10, ground := Ground.phase }, { on := 11, ground := Ground.textOnly Departure.lateStores }, { on := 12, ground := Ground.phase }], guard := none }) rfl (fun KQ hK => ?_) AllReadyH.nil)
                rw [if_pos (by rfl)]
                refine wp_store_st 48 _ _ rfl (wc2.heap.size) (plc ts tp tof) rfl rfl HZ3.out size48 rfl rfl ?_
                intro ws4 hcx hbx hsx
                have HS4 := hid (HG3.out.put HL3.out.1 HL3.out.2 hbx)
                clear hcx hbx hsx
                refine hK.out _ _ HS4.out (fun hHeld => ?_)
                clear hK KQ
                try simp only [Act.put]
                refine wpAnyH_ready (rs := [14]) (by kernel_rfl) (by simp) (AllReadyH.cons (o := { dst := some 14, op := Op.assign (Operand.tmp 141), type := 4, pos := "outright.go:161", after := #[{ on := 11, ground := Ground.data }, { on := 13, ground := Ground.chain }, { on := 0, ground := Ground.phase }, { on := 1, ground := Ground.phase }, { on := 2, ground := Ground.phase }, { on := 3, ground := Ground.phase }, { on := 4, ground := Ground.phase }, { on := 5, ground := Ground.phase }, { on := 6, ground := Ground.phase }, { on := 7, ground := Ground.phase }, { on := 8, ground := Ground.phase }, { on := 9, ground := Ground.phase }, { on := 10, ground := Ground.phase }, { on := 11, ground := Ground.phase }, { on := 12, ground := Ground.phase }, { on := 13, ground := Ground.phase }], guard := none }) rfl (fun KQ hK => ?_) AllReadyH.nil)
                go_simp
                refine hK.out _ _ HS4.out (fun hHeld => ?_)
                clear hK KQ
                try simp only [Act.put, List.setIfInBounds_toArray, List.set_cons_zero, List.set_cons_succ]
                refine wpAnyH_done (by kernel_rfl) ?_ _
                exact (‹∀ (a : Act) (w : World), Code.wp Tryd.prog _ _ a w → _› _ _ (faults_t W _ g1 g7 g10 q fa fb m o ⟨16, cond, a, b, c, imm⟩ HIk.out HS4.out.1 HS4.out.2 te HY.out HN.out _ _ _ _ _ _ _ _ _ _ _ _ _ _ _ _ _ _ _ _ _ _ _ _ _ _ _ _ _ _ _ _ _ _ _ _ _ _ _ _ _ _ _ _ _ _ _ _ _ _ _ _ _ _ _ _ _ _ _ _ _ _ _ _ _ _ _ _ _ _ _ _ _ _ _ _ _ _ _ _ _ _ _ _ _ _ _ _ _ _ _ _ _ _ _ _ _ _ _ _ _ _ _ _ _ _ _ _ _ _ _ _ _ _ _ _ _ _ _ _ _ _ _ _ _ _ _ _ _ _ _ _ _ _ _ _ _ _ _ _ _ _ _ _ _ _ _ _ _ _ _ _ _ _ _ _ _ _ _ _ _ _ _ _ _ _ _))
              · go_simp
                have HL5 := hid (And.intro (HA1.out.1.on (below_one wa1 (.cells #[.bool false, .int .i64 0, .int .i64 0] 48))) (HA1.out.2.on (below_one wa1 (.cells #[.bool false, .int .i64 0, .int .i64 0] 48))))
                have HZ5 := hid (Cel.new wa1 48 (plc false 0 0))
                have HG5 : Hid (FB W wa1 g1 g7 g10 fa fb) := hid ⟨HA1.out.1.below.size, HA1.out.1.cq.lt, HA1.out.1.c0.lt, HA1.out.1.c1.lt, HA1.out.2.lt, HA1.out.1.a.lt, HA1.out.1.b.lt⟩
                refine hK.out _ _ HL5.out (fun hHeld => ?_)
                clear hK KQ
                try simp only [Act.put, List.setIfInBounds_toArray, List.set_cons_zero, List.set_cons_succ]
                refine wpAnyH_ready (rs := [8]) (by kernel_rfl) (by simp) (AllReadyH.cons (o := { dst := some 139, op := Op.call { callee := Callee.value (Operand.func 14), args := #[Operand.tmp 131, Operand.tmp 133, Operand.tmp 137, Operand.tmp 138], argTypes := #[29, 3, 23, 51] }, type := 49, pos := "outright.go:161", after := #[{ on := 0, ground := Ground.data }, { on := 2, ground := Ground.data }, { on := 6, ground := Ground.data }, { on := 7, ground := Ground.data }, { on := 6, ground := Ground.chain }], guard := none }) rfl (fun KQ hK => ?_) AllReadyH.nil)
                go_simp
                refine (HCo.out _ HL5.out.1.b).mono ?_
                rintro e wc6 ⟨rfl, hbx⟩
                have HC6 := hid (And.intro (HL5.out.1.on hbx) (HL5.out.2.on hbx))
                have HZ6 := hid (HZ5.out.on hbx)
                clear hbx
                go_wp2_with fail
                refine hK.out _ _ HC6.out (fun hHeld => ?_)
                clear hK KQ
                try simp only [Act.put, List.setIfInBounds_toArray, List.set_cons_zero, List.set_cons_succ]
                refine wpAnyH_take (i := 9) (oi := { dst := some 130, op := Op.move (Operand.tmp 139), type := 49, pos := "outright.go:161", after := #[{ on := 8, ground := Ground.data }], guard := none }) (v := .tuple #[.agg #[.bool ts, .int .i64 tp, .int .i64 tof], .bool (te == 0)]) rfl (by kernel_rfl) (by kernel_rfl) (by kernel_rfl) (fun _ _ _ h => h) (Or.inl ⟨by rfl, by intro w hSw; go_simp⟩) (by assumption) ?_
                simp only [Act.put, List.setIfInBounds_toArray, List.set_cons_zero, List.set_cons_succ]
                refine wpAnyH_take (i := 10) (oi := { dst := some 140, op := Op.extract (Operand.tmp 130) 0, type := 48, pos := "outright.go:161", after := #[{ on := 9, ground := Ground.data }], guard := none }) (v := .agg #[.bool ts, .int .i64 tp, .int .i64 tof]) rfl (by kernel_rfl) (by kernel_rfl) (by kernel_rfl) (fun _ _ _ h => h) (Or.inl ⟨by rfl, by intro w hSw; go_simp⟩) (by assumption) ?_
                simp only [Act.put, List.setIfInBounds_toArray, List.set_cons_zero, List.set_cons_succ]
                refine wpAnyH_take (i := 11) (oi := { dst := some 141, op := Op.extract (Operand.tmp 130) 1, type := 4, pos := "outright.go:161", after := #[{ on := 9, ground := Ground.data }, { on := 13, ground := Ground.gcOnly Departure.lateStores }], guard := none }) (v := .bool (te == 0)) rfl (by kernel_rfl) (by kernel_rfl) (by kernel_rfl) (fun _ _ _ h => h) (Or.inl ⟨by rfl, by intro w hSw; go_simp⟩) (by assumption) ?_
                simp only [Act.put, List.setIfInBounds_toArray, List.set_cons_zero, List.set_cons_succ]
                refine wpAnyH_ready (rs := [13]) (by kernel_rfl) (by simp) (AllReadyH.cons (o := { dst := none, op := Op.store 48 (Operand.tmp 13) (Operand.tmp 140), type := 0, pos := "outright.go:161", after := #[{ on := 12, ground := Ground.data }, { on := 10, ground := Ground.data }, { on := 8, ground := Ground.chain }, { on := 0, ground := Ground.phase }, { on := 1, ground := Ground.phase }, { on := 2, ground := Ground.phase }, { on := 3, ground := Ground.phase }, { on := 4, ground := Ground.phase }, { on := 5, ground := Ground.phase }, { on := 6, ground := Ground.phase }, { on := 7, ground := Ground.phase }, { on := 8, ground := Ground.phase }, { on := 9, ground := Ground.phase }, { on := 10, ground := Ground.phase }, { on := 11, ground := Ground.textOnly Departure.lateStores }, { on := 12, ground := Ground.phase }], guard := none }) rfl (fun KQ hK => ?_) AllReadyH.nil)
                rw [if_pos (by rfl)]
                refine wp_store_st 48 _ _ rfl (wa1.heap.size) (plc ts tp tof) rfl rfl HZ6.out size48 rfl rfl ?_
                intro ws7 hcx hbx hsx
                have HS7 := hid (HG5.out.put HC6.out.1 HC6.out.2 hbx)
                clear hcx hbx hsx
                refine hK.out _ _ HS7.out (fun hHeld => ?_)
                clear hK KQ
                try simp only [Act.put]
                refine wpAnyH_ready (rs := [14]) (by kernel_rfl) (by simp) (AllReadyH.cons (o := { dst := some 14, op := Op.assign (Operand.tmp 141), type := 4, pos := "outright.go:161", after := #[{ on := 11, ground := Ground.data }, { on := 13, ground := Ground.chain }, { on := 0, ground := Ground.phase }, { on := 1, ground := Ground.phase }, { on := 2, ground := Ground.phase }, { on := 3, ground := Ground.phase }, { on := 4, ground := Ground.phase }, { on := 5, ground := Ground.phase }, { on := 6, ground := Ground.phase }, { on := 7, ground := Ground.phase }, { on := 8, ground := Ground.phase }, { on := 9, ground := Ground.phase }, { on := 10, ground := Ground.phase }, { on := 11, ground := Ground.phase }, { on := 12, ground := Ground.phase }, { on := 13, ground := Ground.phase }], guard := none }) rfl (fun KQ hK => ?_) AllReadyH.nil)
                go_simp
                refine hK.out _ _ HS7.out (fun hHeld => ?_)
                clear hK KQ
                try simp only [Act.put, List.setIfInBounds_toArray, List.set_cons_zero, List.set_cons_succ]
                refine wpAnyH_done (by kernel_rfl) ?_ _
                exact (‹∀ (a : Act) (w : World), Code.wp Tryd.prog _ _ a w → _› _ _ (faults_t W _ g1 g7 g10 q fa fb m o ⟨16, cond, a, b, c, imm⟩ HIk.out HS7.out.1 HS7.out.2 te HY.out HN.out _ _ _ _ _ _ _ _ _ _ _ _ _ _ _ _ _ _ _ _ _ _ _ _ _ _ _ _ _ _ _ _ _ _ _ _ _ _ _ _ _ _ _ _ _ _ _ _ _ _ _ _ _ _ _ _ _ _ _ _ _ _ _ _ _ _ _ _ _ _ _ _ _ _ _ _ _ _ _ _ _ _ _ _ _ _ _ _ _ _ _ _ _ _ _ _ _ _ _ _ _ _ _ _ _ _ _ _ _ _ _ _ _ _ _ _ _ _ _ _ _ _ _ _ _ _ _ _ _ _ _ _ _ _ _ _ _ _ _ _ _ _ _ _ _ _ _ _ _ _ _ _ _ _ _ _ _ _ _ _ _ _ _ _ _ _ _))
            · go_simp
              have HL8 := hid (And.intro (HD.out.1.on (below_one X8.drew (.cells #[.bool false, .int .i64 0, .int .i64 0] 48))) (HD.out.2.on (below_one X8.drew (.cells #[.bool false, .int .i64 0, .int .i64 0] 48))))
              have HZ8 := hid (Cel.new X8.drew 48 (plc false 0 0))
              have HG8 : Hid (FB W X8.drew g1 g7 g10 fa fb) := hid ⟨HD.out.1.below.size, HD.out.1.cq.lt, HD.out.1.c0.lt, HD.out.1.c1.lt, HD.out.2.lt, HD.out.1.a.lt, HD.out.1.b.lt⟩
              refine hK.out _ _ HL8.out (fun hHeld => ?_)
              clear hK KQ
              try simp only [Act.put, List.setIfInBounds_toArray, List.set_cons_zero, List.set_cons_succ]
              refine wpAnyH_ready (rs := [6]) (by kernel_rfl) (by simp) (AllReadyH.cons (o := { dst := some 137, op := Op.call { callee := Callee.value (Operand.func 18), args := #[Operand.tmp 135, Operand.tmp 136], argTypes := #[26, 57] }, type := 23, pos := "outright.go:161", after := #[{ on := 4, ground := Ground.data }, { on := 5, ground := Ground.data }], guard := none }) rfl (fun KQ hK => ?_) AllReadyH.nil)
              go_simp
              refine (HAd.out _).mono ?_
              rintro e wa9 ⟨rfl, hbx⟩
              have HA9 := hid (And.intro (HL8.out.1.on hbx) (HL8.out.2.on hbx))
              have HZ9 := hid (HZ8.out.on hbx)
              clear hbx
              go_wp2_with fail
              refine hK.out _ _ HA9.out (fun hHeld => ?_)
              clear hK KQ
              try simp only [Act.put, List.setIfInBounds_toArray, List.set_cons_zero, List.set_cons_succ]
              refine wpAnyH_ready (rs := [8]) (by kernel_rfl) (by simp) (AllReadyH.cons (o := { dst := some 139, op := Op.call { callee := Callee.value (Operand.func 14), args := #[Operand.tmp 131, Operand.tmp 133, Operand.tmp 137, Operand.tmp 138], argTypes := #[29, 3, 23, 51] }, type := 49, pos := "outright.go:161", after := #[{ on := 0, ground := Ground.data }, { on := 2, ground := Ground.data }, { on := 6, ground := Ground.data }, { on := 7, ground := Ground.data }, { on := 6, ground := Ground.chain }], guard := none }) rfl (fun KQ hK => ?_) AllReadyH.nil)
              go_simp
              refine (HCo.out _ HA9.out.1.b).mono ?_
              rintro e wc10 ⟨rfl, hbx⟩
              have HC10 := hid (And.intro (HA9.out.1.on hbx) (HA9.out.2.on hbx))
              have HZ10 := hid (HZ9.out.on hbx)
              clear hbx
              go_wp2_with fail
              refine hK.out _ _ HC10.out (fun hHeld => ?_)
              clear hK KQ
              try simp only [Act.put, List.setIfInBounds_toArray, List.set_cons_zero, List.set_cons_succ]
              refine wpAnyH_take (i := 9) (oi := { dst := some 130, op := Op.move (Operand.tmp 139), type := 49, pos := "outright.go:161", after := #[{ on := 8, ground := Ground.data }], guard := none }) (v := .tuple #[.agg #[.bool ts, .int .i64 tp, .int .i64 tof], .bool (te == 0)]) rfl (by kernel_rfl) (by kernel_rfl) (by kernel_rfl) (fun _ _ _ h => h) (Or.inl ⟨by rfl, by intro w hSw; go_simp⟩) (by assumption) ?_
              simp only [Act.put, List.setIfInBounds_toArray, List.set_cons_zero, List.set_cons_succ]
              refine wpAnyH_take (i := 10) (oi := { dst := some 140, op := Op.extract (Operand.tmp 130) 0, type := 48, pos := "outright.go:161", after := #[{ on := 9, ground := Ground.data }], guard := none }) (v := .agg #[.bool ts, .int .i64 tp, .int .i64 tof]) rfl (by kernel_rfl) (by kernel_rfl) (by kernel_rfl) (fun _ _ _ h => h) (Or.inl ⟨by rfl, by intro w hSw; go_simp⟩) (by assumption) ?_
              simp only [Act.put, List.setIfInBounds_toArray, List.set_cons_zero, List.set_cons_succ]
              refine wpAnyH_take (i := 11) (oi := { dst := some 141, op := Op.extract (Operand.tmp 130) 1, type := 4, pos := "outright.go:161", after := #[{ on := 9, ground := Ground.data }, { on := 13, ground := Ground.gcOnly Departure.lateStores }], guard := none }) (v := .bool (te == 0)) rfl (by kernel_rfl) (by kernel_rfl) (by kernel_rfl) (fun _ _ _ h => h) (Or.inl ⟨by rfl, by intro w hSw; go_simp⟩) (by assumption) ?_
              simp only [Act.put, List.setIfInBounds_toArray, List.set_cons_zero, List.set_cons_succ]
              refine wpAnyH_ready (rs := [13]) (by kernel_rfl) (by simp) (AllReadyH.cons (o := { dst := none, op := Op.store 48 (Operand.tmp 13) (Operand.tmp 140), type := 0, pos := "outright.go:161", after := #[{ on := 12, ground := Ground.data }, { on := 10, ground := Ground.data }, { on := 8, ground := Ground.chain }, { on := 0, ground := Ground.phase }, { on := 1, ground := Ground.phase }, { on := 2, ground := Ground.phase }, { on := 3, ground := Ground.phase }, { on := 4, ground := Ground.phase }, { on := 5, ground := Ground.phase }, { on := 6, ground := Ground.phase }, { on := 7, ground := Ground.phase }, { on := 8, ground := Ground.phase }, { on := 9, ground := Ground.phase }, { on := 10, ground := Ground.phase }, { on := 11, ground := Ground.textOnly Departure.lateStores }, { on := 12, ground := Ground.phase }], guard := none }) rfl (fun KQ hK => ?_) AllReadyH.nil)
              rw [if_pos (by rfl)]
              refine wp_store_st 48 _ _ rfl (X8.drew.heap.size) (plc ts tp tof) rfl rfl HZ10.out size48 rfl rfl ?_
              intro ws11 hcx hbx hsx
              have HS11 := hid (HG8.out.put HC10.out.1 HC10.out.2 hbx)
              clear hcx hbx hsx
              refine hK.out _ _ HS11.out (fun hHeld => ?_)
              clear hK KQ
              try simp only [Act.put]
              refine wpAnyH_ready (rs := [14]) (by kernel_rfl) (by simp) (AllReadyH.cons (o := { dst := some 14, op := Op.assign (Operand.tmp 141), type := 4, pos := "outright.go:161", after := #[{ on := 11, ground := Ground.data }, { on := 13, ground := Ground.chain }, { on := 0, ground := Ground.phase }, { on := 1, ground := Ground.phase }, { on := 2, ground := Ground.phase }, { on := 3, ground := Ground.phase }, { on := 4, ground := Ground.phase }, { on := 5, ground := Ground.phase }, { on := 6, ground := Ground.phase }, { on := 7, ground := Ground.phase }, { on := 8, ground := Ground.phase }, { on := 9, ground := Ground.phase }, { on := 10, ground := Ground.phase }, { on := 11, ground := Ground.phase }, { on := 12, ground := Ground.phase }, { on := 13, ground := Ground.phase }], guard := none }) rfl (fun KQ hK => ?_) AllReadyH.nil)
              go_simp
              refine hK.out _ _ HS11.out (fun hHeld => ?_)
              clear hK KQ
              try simp only [Act.put, List.setIfInBounds_toArray, List.set_cons_zero, List.set_cons_succ]
              refine wpAnyH_done (by kernel_rfl) ?_ _
              exact (‹∀ (a : Act) (w : World), Code.wp Tryd.prog _ _ a w → _› _ _ (faults_t W _ g1 g7 g10 q fa fb m o ⟨16, cond, a, b, c, imm⟩ HIk.out HS11.out.1 HS11.out.2 te HY.out HN.out _ _ _ _ _ _ _ _ _ _ _ _ _ _ _ _ _ _ _ _ _ _ _ _ _ _ _ _ _ _ _ _ _ _ _ _ _ _ _ _ _ _ _ _ _ _ _ _ _ _ _ _ _ _ _ _ _ _ _ _ _ _ _ _ _ _ _ _ _ _ _ _ _ _ _ _ _ _ _ _ _ _ _ _ _ _ _ _ _ _ _ _ _ _ _ _ _ _ _ _ _ _ _ _ _ _ _ _ _ _ _ _ _ _ _ _ _ _ _ _ _ _ _ _ _ _ _ _ _ _ _ _ _ _ _ _ _ _ _ _ _ _ _ _ _ _ _ _ _ _ _ _ _ _ _ _ _ _ _ _ _ _ _ _ _ _ _))
          · rw [show acc ⟨17, cond, a, b, c, imm⟩ = 0 from rfl] at *
            generalize hva : ad q.f ⟨17, cond, a, b, c, imm⟩ = va at *
            generalize m.trS q.l va 0 = ts at *
            generalize m.trP q.l va 0 = tp at *
            generalize m.trO q.l va 0 = tof at *
            generalize m.trE q.l va 0 = te at *
            go_upto_region 23 with (go_at_call 10; refine (num_any _ _).mono ?_; rintro e wn ⟨rfl, rfl⟩)
            have HD := hid (And.intro (H8.out.on (Below.refl _ _).drew) (HC10.out.on (Below.refl _ _).drew))
            clear q0 q1 q2 q3 q4 q5
            subst hva
            refine wp_region_held_drew (S := fun x => FT W x g1 g7 q fa fb m o ∧ Cel x g10 57 (I.Ins.cs ⟨17, cond, a, b, c, imm⟩)) (by kernel_rfl) HD.out (fun hHeld => ?_)
            refine wpAnyH_take (i := 0) (oi := { dst := some 131, op := Op.move (Operand.tmp 4), type := 29, pos := "outright.go:161", after := #[], guard := none }) (v := .pointer (some ⟨fb.gm, 0, none⟩)) rfl (by kernel_rfl) (by kernel_rfl) (by kernel_rfl) (fun _ _ _ h => h) (Or.inl ⟨by rfl, by intro w hSw; go_simp⟩) (by assumption) ?_
            simp only [Act.put, List.setIfInBounds_toArray, List.set_cons_zero, List.set_cons_succ]
            refine wpAnyH_take (i := 1) (oi := { dst := some 132, op := Op.fieldAddr 28 (Operand.tmp 1) 3, type := 0, pos := "outright.go:161", after := #[], guard := none }) (v := .pointer (some ⟨g1, 3, none⟩)) rfl (by kernel_rfl) (by kernel_rfl) (by kernel_rfl) (fun _ _ _ h => h) (Or.inl ⟨by rfl, by intro w hSw; go_simp⟩) (by assumption) ?_
            simp only [Act.put, List.setIfInBounds_toArray, List.set_cons_zero, List.set_cons_succ]
            refine wpAnyH_take (i := 2) (oi := { dst := some 133, op := Op.load 3 (Operand.tmp 132), type := 3, pos := "outright.go:161", after := #[{ on := 1, ground := Ground.data }], guard := none }) (v := .int .i64 q.l) rfl (by kernel_rfl) (by kernel_rfl) (by kernel_rfl) (fun _ _ _ h => h) (Or.inl ⟨by rfl, by intro w hSw; have hq : w.cell? ⟨g1, 3, none⟩ = some (.int .i64 q.l) := hSw.1.cq.cell 3; go_simp⟩) (by assumption) ?_
            simp only [Act.put, List.setIfInBounds_toArray, List.set_cons_zero, List.set_cons_succ]
            refine wpAnyH_take (i := 3) (oi := { dst := some 134, op := Op.fieldAddr 28 (Operand.tmp 1) 4, type := 0, pos := "outright.go:161", after := #[], guard := none }) (v := .pointer (some ⟨g1, 4, none⟩)) rfl (by kernel_rfl) (by kernel_rfl) (by kernel_rfl) (fun _ _ _ h => h) (Or.inl ⟨by rfl, by intro w hSw; exact exec_fa4 _ rfl g1 rfl⟩) (by assumption) ?_
            simp only [Act.put, List.setIfInBounds_toArray, List.set_cons_zero, List.set_cons_succ]
            refine wpAnyH_take (i := 4) (oi := { dst := some 135, op := Op.load 26 (Operand.tmp 134), type := 26, pos := "outright.go:161", after := #[{ on := 3, ground := Ground.data }], guard := none }) (v := .agg q.f.cs.toArray) rfl (by kernel_rfl) (by kernel_rfl) (by kernel_rfl) (fun _ _ _ h => h) (yieldsIf_load_mid (by rfl) _ _ rfl _ _ rfl _ _ (fun w hSw => Mq.rng hSw.1.cq) under27 rfl (by rw [size27, F.len])) (by assumption) ?_
            simp only [Act.put, List.setIfInBounds_toArray, List.set_cons_zero, List.set_cons_succ]
            refine wpAnyH_take (i := 5) (oi := { dst := some 136, op := Op.load 57 (Operand.tmp 10), type := 57, pos := "outright.go:161", after := #[], guard := none }) (v := .agg #[.int .i64 17, .int .i64 cond, .int .i64 a, .int .i64 b, .int .i64 c, .int .i32 imm]) rfl (by kernel_rfl) (by kernel_rfl) (by kernel_rfl) (fun _ _ _ h => h) (Or.inl ⟨by rfl, by intro w hSw; have hq := cel6 hSw.2; obtain ⟨q0, q1, q2, q3, q4, q5⟩ := hq; go_simp⟩) (by assumption) ?_
            simp only [Act.put, List.setIfInBounds_toArray, List.set_cons_zero, List.set_cons_succ]
            refine wpAnyH_take (i := 7) (oi := { dst := some 138, op := Op.move (Operand.tmp 12), type := 51, pos := "outright.go:161", after := #[], guard := none }) (v := .int .i64 0) rfl (by kernel_rfl) (by kernel_rfl) (by kernel_rfl) (fun _ _ _ h => h) (Or.inl ⟨by rfl, by intro w hSw; go_simp⟩) (by assumption) ?_
            simp only [Act.put, List.setIfInBounds_toArray, List.set_cons_zero, List.set_cons_succ]
            refine wpAnyH_ready (rs := [6, 12]) (by kernel_rfl) (by simp) (AllReadyH.cons (o := { dst := some 137, op := Op.call { callee := Callee.value (Operand.func 18), args := #[Operand.tmp 135, Operand.tmp 136], argTypes := #[26, 57] }, type := 23, pos := "outright.go:161", after := #[{ on := 4, ground := Ground.data }, { on := 5, ground := Ground.data }], guard := none }) rfl (fun KQ hK => ?_) (AllReadyH.cons (o := { dst := some 13, op := Op.alloc 48, type := 0, pos := "outright.go:161", after := #[], guard := none }) rfl (fun KQ hK => ?_) AllReadyH.nil))
            · go_simp
              refine (HAd.out _).mono ?_
              rintro e wa1 ⟨rfl, hbx⟩
              have HA1 := hid (And.intro (HD.out.1.on hbx) (HD.out.2.on hbx))
              clear hbx
              go_wp2_with fail
              refine hK.out _ _ HA1.out (fun hHeld => ?_)
              clear hK KQ
              try simp only [Act.put, List.setIfInBounds_toArray, List.set_cons_zero, List.set_cons_succ]
              refine wpAnyH_ready (rs := [8, 12]) (by kernel_rfl) (by simp) (AllReadyH.cons (o := { dst := some 139, op := Op.call { callee := Callee.value (Operand.func 14), args := #[Operand.tmp 131, Operand.tmp 133, Operand.tmp 137, Operand.tmp 138], argTypes := #[29, 3, 23, 51] }, type := 49, pos := "outright.go:161", after := #[{ on := 0, ground := Ground.data }, { on := 2, ground := Ground.data }, { on := 6, ground := Ground.data }, { on := 7, ground := Ground.data }, { on := 6, ground := Ground.chain }], guard := none }) rfl (fun KQ hK => ?_) (AllReadyH.cons (o := { dst := some 13, op := Op.alloc 48, type := 0, pos := "outright.go:161", after := #[], guard := none }) rfl (fun KQ hK => ?_) AllReadyH.nil))
              · go_simp
                refine (HCo.out _ HA1.out.1.b).mono ?_
                rintro e wc2 ⟨rfl, hbx⟩
                have HC2 := hid (And.intro (HA1.out.1.on hbx) (HA1.out.2.on hbx))
                clear hbx
                go_wp2_with fail
                refine hK.out _ _ HC2.out (fun hHeld => ?_)
                clear hK KQ
                try simp only [Act.put, List.setIfInBounds_toArray, List.set_cons_zero, List.set_cons_succ]
                refine wpAnyH_take (i := 9) (oi := { dst := some 130, op := Op.move (Operand.tmp 139), type := 49, pos := "outright.go:161", after := #[{ on := 8, ground := Ground.data }], guard := none }) (v := .tuple #[.agg #[.bool ts, .int .i64 tp, .int .i64 tof], .bool (te == 0)]) rfl (by kernel_rfl) (by kernel_rfl) (by kernel_rfl) (fun _ _ _ h => h) (Or.inl ⟨by rfl, by intro w hSw; go_simp⟩) (by assumption) ?_
                simp only [Act.put, List.setIfInBounds_toArray, List.set_cons_zero, List.set_cons_succ]
                refine wpAnyH_take (i := 10) (oi := { dst := some 140, op := Op.extract (Operand.tmp 130) 0, type := 48, pos := "outright.go:161", after := #[{ on := 9, ground := Ground.data }], guard := none }) (v := .agg #[.bool ts, .int .i64 tp, .int .i64 tof]) rfl (by kernel_rfl) (by kernel_rfl) (by kernel_rfl) (fun _ _ _ h => h) (Or.inl ⟨by rfl, by intro w hSw; go_simp⟩) (by assumption) ?_
                simp only [Act.put, List.setIfInBounds_toArray, List.set_cons_zero, List.set_cons_succ]
                refine wpAnyH_take (i := 11) (oi := { dst := some 141, op := Op.extract (Operand.tmp 130) 1, type := 4, pos := "outright.go:161", after := #[{ on := 9, ground := Ground.data }, { on := 13, ground := Ground.gcOnly Departure.lateStores }], guard := none }) (v := .bool (te == 0)) rfl (by kernel_rfl) (by kernel_rfl) (by kernel_rfl) (fun _ _ _ h => h) (Or.inl ⟨by rfl, by intro w hSw; go_simp⟩) (by assumption) ?_
                simp only [Act.put, List.setIfInBounds_toArray, List.set_cons_zero, List.set_cons_succ]
                refine wpAnyH_ready (rs := [12]) (by kernel_rfl) (by simp) (AllReadyH.cons (o := { dst := some 13, op := Op.alloc 48, type := 0, pos := "outright.go:161", after := #[], guard := none }) rfl (fun KQ hK => ?_) AllReadyH.nil)
                go_simp
                have HL3 := hid (And.intro (HC2.out.1.on (below_one wc2 (.cells #[.bool false, .int .i64 0, .int .i64 0] 48))) (HC2.out.2.on (below_one wc2 (.cells #[.bool false, .int .i64 0, .int .i64 0] 48))))
                have HZ3 := hid (Cel.new wc2 48 (plc false 0 0))
                have HG3 : Hid (FB W wc2 g1 g7 g10 fa fb) := hid ⟨HC2.out.1.below.size, HC2.out.1.cq.lt, HC2.out.1.c0.lt, HC2.out.1.c1.lt, HC2.out.2.lt, HC2.out.1.a.lt, HC2.out.1.b.lt⟩
                refine hK.out _ _ HL3.out (fun hHeld => ?_)
                clear hK KQ
                try simp only [Act.put, List.setIfInBounds_toArray, List.set_cons_zero, List.set_cons_succ]
                refine wpAnyH_ready (rs := [13]) (by kernel_rfl) (by simp) (AllReadyH.cons (o := { dst := none, op := Op.store 48 (Operand.tmp 13) (Operand.tmp 140), type := 0, pos := "outright.go:161", after := #[{ on := 12, ground := Ground.data }, { on := 10, ground := Ground.data }, { on := 8, ground := Ground.chain }, { on := 0, ground := Ground.phase }, { on := 1, ground := Ground.phase }, { on := 2, ground := Ground.phase }, { on := 3, ground := Ground.phase }, { on := 4, ground := Ground.phase }, { on := 5, ground := Ground.phase }, { on := 6, ground := Ground.phase }, { on := 7, ground := Ground.phase }, { on := 8, ground := Ground.phase }, { on := 9, ground := Ground.phase }, { on := 10, ground := Ground.phase }, { on := 11, ground := Ground.textOnly Departure.lateStores }, { on := 12, ground := Ground.phase }], guard := none }) rfl (fun KQ hK => ?_) AllReadyH.nil)
                rw [if_pos (by rfl)]
                refine wp_store_st 48 _ _ rfl (wc2.heap.size) (plc ts tp tof) rfl rfl HZ3.out size48 rfl rfl ?_
                intro ws4 hcx hbx hsx
                have HS4 := hid (HG3.out.put HL3.out.1 HL3.out.2 hbx)
                clear hcx hbx hsx
                refine hK.out _ _ HS4.out (fun hHeld => ?_)
                clear hK KQ
                try simp only [Act.put]
                refine wpAnyH_ready (rs := [14]) (by kernel_rfl) (by simp) (AllReadyH.cons (o := { dst := some 14, op := Op.assign (Operand.tmp 141), type := 4, pos := "outright.go:161", after := #[{ on := 11, ground := Ground.data }, { on := 13, ground := Ground.chain }, { on := 0, ground := Ground.phase }, { on := 1, ground := Ground.phase }, { on := 2, ground := Ground.phase }, { on := 3, ground := Ground.phase }, { on := 4, ground := Ground.phase }, { on := 5, ground := Ground.phase }, { on := 6, ground := Ground.phase }, { on := 7, ground := Ground.phase }, { on := 8, ground := Ground.phase }, { on := 9, ground := Ground.phase }, { on := 10, ground := Ground.phase }, { on := 11, ground := Ground.phase }, { on := 12, ground := Ground.phase }, { on := 13, ground := Ground.phase }], guard := none }) rfl (fun KQ hK => ?_) AllReadyH.nil)
                go_simp
                refine hK.out _ _ HS4.out (fun hHeld => ?_)
                clear hK KQ
                try simp only [Act.put, List.setIfInBounds_toArray, List.set_cons_zero, List.set_cons_succ]
                refine wpAnyH_done (by kernel_rfl) ?_ _
                exact (‹∀ (a : Act) (w : World), Code.wp Tryd.prog _ _ a w → _› _ _ (faults_t W _ g1 g7 g10 q fa fb m o ⟨17, cond, a, b, c, imm⟩ HIk.out HS4.out.1 HS4.out.2 te HY.out HN.out _ _ _ _ _ _ _ _ _ _ _ _ _ _ _ _ _ _ _ _ _ _ _ _ _ _ _ _ _ _ _ _ _ _ _ _ _ _ _ _ _ _ _ _ _ _ _ _ _ _ _ _ _ _ _ _ _ _ _ _ _ _ _ _ _ _ _ _ _ _ _ _ _ _ _ _ _ _ _ _ _ _ _ _ _ _ _ _ _ _ _ _ _ _ _ _ _ _ _ _ _ _ _ _ _ _ _ _ _ _ _ _ _ _ _ _ _ _ _ _ _ _ _ _ _ _ _ _ _ _ _ _ _ _ _ _ _ _ _ _ _ _ _ _ _ _ _ _ _ _ _ _ _ _ _ _ _ _ _ _ _ _ _ _ _ _ _))
              · go_simp
                have HL5 := hid (And.intro (HA1.out.1.on (below_one wa1 (.cells #[.bool false, .int .i64 0, .int .i64 0] 48))) (HA1.out.2.on (below_one wa1 (.cells #[.bool false, .int .i64 0, .int .i64 0] 48))))
                have HZ5 := hid (Cel.new wa1 48 (plc false 0 0))
                have HG5 : Hid (FB W wa1 g1 g7 g10 fa fb) := hid ⟨HA1.out.1.below.size, HA1.out.1.cq.lt, HA1.out.1.c0.lt, HA1.out.1.c1.lt, HA1.out.2.lt, HA1.out.1.a.lt, HA1.out.1.b.lt⟩
                refine hK.out _ _ HL5.out (fun hHeld => ?_)
                clear hK KQ
                try simp only [Act.put, List.setIfInBounds_toArray, List.set_cons_zero, List.set_cons_succ]
                refine wpAnyH_ready (rs := [8]) (by kernel_rfl) (by simp) (AllReadyH.cons (o := { dst := some 139, op := Op.call { callee := Callee.value (Operand.func 14), args := #[Operand.tmp 131, Operand.tmp 133, Operand.tmp 137, Operand.tmp 138], argTypes := #[29, 3, 23, 51] }, type := 49, pos := "outright.go:161", after := #[{ on := 0, ground := Ground.data }, { on := 2, ground := Ground.data }, { on := 6, ground := Ground.data }, { on := 7, ground := Ground.data }, { on := 6, ground := Ground.chain }], guard := none }) rfl (fun KQ hK => ?_) AllReadyH.nil)
                go_simp
                refine (HCo.out _ HL5.out.1.b).mono ?_
                rintro e wc6 ⟨rfl, hbx⟩
                have HC6 := hid (And.intro (HL5.out.1.on hbx) (HL5.out.2.on hbx))
                have HZ6 := hid (HZ5.out.on hbx)
                clear hbx
                go_wp2_with fail
                refine hK.out _ _ HC6.out (fun hHeld => ?_)
                clear hK KQ
                try simp only [Act.put, List.setIfInBounds_toArray, List.set_cons_zero, List.set_cons_succ]
                refine wpAnyH_take (i := 9) (oi := { dst := some 130, op := Op.move (Operand.tmp 139), type := 49, pos := "outright.go:161", after := #[{ on := 8, ground := Ground.data }], guard := none }) (v := .tuple #[.agg #[.bool ts, .int .i64 tp, .int .i64 tof], .bool (te == 0)]) rfl (by kernel_rfl) (by kernel_rfl) (by kernel_rfl) (fun _ _ _ h => h) (Or.inl ⟨by rfl, by intro w hSw; go_simp⟩) (by assumption) ?_
                simp only [Act.put, List.setIfInBounds_toArray, List.set_cons_zero, List.set_cons_succ]
                refine wpAnyH_take (i := 10) (oi := { dst := some 140, op := Op.extract (Operand.tmp 130) 0, type := 48, pos := "outright.go:161", after := #[{ on := 9, ground := Ground.data }], guard := none }) (v := .agg #[.bool ts, .int .i64 tp, .int .i64 tof]) rfl (by kernel_rfl) (by kernel_rfl) (by kernel_rfl) (fun _ _ _ h => h) (Or.inl ⟨by rfl, by intro w hSw; go_simp⟩) (by assumption) ?_
                simp only [Act.put, List.setIfInBounds_toArray, List.set_cons_zero, List.set_cons_succ]
                refine wpAnyH_take (i := 11) (oi := { dst := some 141, op := Op.extract (Operand.tmp 130) 1, type := 4, pos := "outright.go:161", after := #[{ on := 9, ground := Ground.data }, { on := 13, ground := Ground.gcOnly Departure.lateStores }], guard := none }) (v := .bool (te == 0)) rfl (by kernel_rfl) (by kernel_rfl) (by kernel_rfl) (fun _ _ _ h => h) (Or.inl ⟨by rfl, by intro w hSw; go_simp⟩) (by assumption) ?_
                simp only [Act.put, List.setIfInBounds_toArray, List.set_cons_zero, List.set_cons_succ]
                refine wpAnyH_ready (rs := [13]) (by kernel_rfl) (by simp) (AllReadyH.cons (o := { dst := none, op := Op.store 48 (Operand.tmp 13) (Operand.tmp 140), type := 0, pos := "outright.go:161", after := #[{ on := 12, ground := Ground.data }, { on := 10, ground := Ground.data }, { on := 8, ground := Ground.chain }, { on := 0, ground := Ground.phase }, { on := 1, ground := Ground.phase }, { on := 2, ground := Ground.phase }, { on := 3, ground := Ground.phase }, { on := 4, ground := Ground.phase }, { on := 5, ground := Ground.phase }, { on := 6, ground := Ground.phase }, { on := 7, ground := Ground.phase }, { on := 8, ground := Ground.phase }, { on := 9, ground := Ground.phase }, { on := 10, ground := Ground.phase }, { on := 11, ground := Ground.textOnly Departure.lateStores }, { on := 12, ground := Ground.phase }], guard := none }) rfl (fun KQ hK => ?_) AllReadyH.nil)
                rw [if_pos (by rfl)]
                refine wp_store_st 48 _ _ rfl (wa1.heap.size) (plc ts tp tof) rfl rfl HZ6.out size48 rfl rfl ?_
                intro ws7 hcx hbx hsx
                have HS7 := hid (HG5.out.put HC6.out.1 HC6.out.2 hbx)
                clear hcx hbx hsx
                refine hK.out _ _ HS7.out (fun hHeld => ?_)
                clear hK KQ
                try simp only [Act.put]
                refine wpAnyH_ready (rs := [14]) (by kernel_rfl) (by simp) (AllReadyH.cons (o := { dst := some 14, op := Op.assign (Operand.tmp 141), type := 4, pos := "outright.go:161", after := #[{ on := 11, ground := Ground.data }, { on := 13, ground := Ground.chain }, { on := 0, ground := Ground.phase }, { on := 1, ground := Ground.phase }, { on := 2, ground := Ground.phase }, { on := 3, ground := Ground.phase }, { on := 4, ground := Ground.phase }, { on := 5, ground := Ground.phase }, { on := 6, ground := Ground.phase }, { on := 7, ground := Ground.phase }, { on := 8, ground := Ground.phase }, { on := 9, ground := Ground.phase }, { on := 10, ground := Ground.phase }, { on := 11, ground := Ground.phase }, { on := 12, ground := Ground.phase }, { on := 13, ground := Ground.phase }], guard := none }) rfl (fun KQ hK => ?_) AllReadyH.nil)
                go_simp
                refine hK.out _ _ HS7.out (fun hHeld => ?_)
                clear hK KQ
                try simp only [Act.put, List.setIfInBounds_toArray, List.set_cons_zero, List.set_cons_succ]
                refine wpAnyH_done (by kernel_rfl) ?_ _
                exact (‹∀ (a : Act) (w : World), Code.wp Tryd.prog _ _ a w → _› _ _ (faults_t W _ g1 g7 g10 q fa fb m o ⟨17, cond, a, b, c, imm⟩ HIk.out HS7.out.1 HS7.out.2 te HY.out HN.out _ _ _ _ _ _ _ _ _ _ _ _ _ _ _ _ _ _ _ _ _ _ _ _ _ _ _ _ _ _ _ _ _ _ _ _ _ _ _ _ _ _ _ _ _ _ _ _ _ _ _ _ _ _ _ _ _ _ _ _ _ _ _ _ _ _ _ _ _ _ _ _ _ _ _ _ _ _ _ _ _ _ _ _ _ _ _ _ _ _ _ _ _ _ _ _ _ _ _ _ _ _ _ _ _ _ _ _ _ _ _ _ _ _ _ _ _ _ _ _ _ _ _ _ _ _ _ _ _ _ _ _ _ _ _ _ _ _ _ _ _ _ _ _ _ _ _ _ _ _ _ _ _ _ _ _ _ _ _ _ _ _ _ _ _ _ _))
            · go_simp
              have HL8 := hid (And.intro (HD.out.1.on (below_one X8.drew (.cells #[.bool false, .int .i64 0, .int .i64 0] 48))) (HD.out.2.on (below_one X8.drew (.cells #[.bool false, .int .i64 0, .int .i64 0] 48))))
              have HZ8 := hid (Cel.new X8.drew 48 (plc false 0 0))
              have HG8 : Hid (FB W X8.drew g1 g7 g10 fa fb) := hid ⟨HD.out.1.below.size, HD.out.1.cq.lt, HD.out.1.c0.lt, HD.out.1.c1.lt, HD.out.2.lt, HD.out.1.a.lt, HD.out.1.b.lt⟩
              refine hK.out _ _ HL8.out (fun hHeld => ?_)
              clear hK KQ
              try simp only [Act.put, List.setIfInBounds_toArray, List.set_cons_zero, List.set_cons_succ]
              refine wpAnyH_ready (rs := [6]) (by kernel_rfl) (by simp) (AllReadyH.cons (o := { dst := some 137, op := Op.call { callee := Callee.value (Operand.func 18), args := #[Operand.tmp 135, Operand.tmp 136], argTypes := #[26, 57] }, type := 23, pos := "outright.go:161", after := #[{ on := 4, ground := Ground.data }, { on := 5, ground := Ground.data }], guard := none }) rfl (fun KQ hK => ?_) AllReadyH.nil)
              go_simp
              refine (HAd.out _).mono ?_
              rintro e wa9 ⟨rfl, hbx⟩
              have HA9 := hid (And.intro (HL8.out.1.on hbx) (HL8.out.2.on hbx))
              have HZ9 := hid (HZ8.out.on hbx)
              clear hbx
              go_wp2_with fail
              refine hK.out _ _ HA9.out (fun hHeld => ?_)
              clear hK KQ
              try simp only [Act.put, List.setIfInBounds_toArray, List.set_cons_zero, List.set_cons_succ]
              refine wpAnyH_ready (rs := [8]) (by kernel_rfl) (by simp) (AllReadyH.cons (o := { dst := some 139, op := Op.call { callee := Callee.value (Operand.func 14), args := #[Operand.tmp 131, Operand.tmp 133, Operand.tmp 137, Operand.tmp 138], argTypes := #[29, 3, 23, 51] }, type := 49, pos := "outright.go:161", after := #[{ on := 0, ground := Ground.data }, { on := 2, ground := Ground.data }, { on := 6, ground := Ground.data }, { on := 7, ground := Ground.data }, { on := 6, ground := Ground.chain }], guard := none }) rfl (fun KQ hK => ?_) AllReadyH.nil)
              go_simp
              refine (HCo.out _ HA9.out.1.b).mono ?_
              rintro e wc10 ⟨rfl, hbx⟩
              have HC10 := hid (And.intro (HA9.out.1.on hbx) (HA9.out.2.on hbx))
              have HZ10 := hid (HZ9.out.on hbx)
              clear hbx
              go_wp2_with fail
              refine hK.out _ _ HC10.out (fun hHeld => ?_)
              clear hK KQ
              try simp only [Act.put, List.setIfInBounds_toArray, List.set_cons_zero, List.set_cons_succ]
              refine wpAnyH_take (i := 9) (oi := { dst := some 130, op := Op.move (Operand.tmp 139), type := 49, pos := "outright.go:161", after := #[{ on := 8, ground := Ground.data }], guard := none }) (v := .tuple #[.agg #[.bool ts, .int .i64 tp, .int .i64 tof], .bool (te == 0)]) rfl (by kernel_rfl) (by kernel_rfl) (by kernel_rfl) (fun _ _ _ h => h) (Or.inl ⟨by rfl, by intro w hSw; go_simp⟩) (by assumption) ?_
              simp only [Act.put, List.setIfInBounds_toArray, List.set_cons_zero, List.set_cons_succ]
              refine wpAnyH_take (i := 10) (oi := { dst := some 140, op := Op.extract (Operand.tmp 130) 0, type := 48, pos := "outright.go:161", after := #[{ on := 9, ground := Ground.data }], guard := none }) (v := .agg #[.bool ts, .int .i64 tp, .int .i64 tof]) rfl (by kernel_rfl) (by kernel_rfl) (by kernel_rfl) (fun _ _ _ h => h) (Or.inl ⟨by rfl, by intro w hSw; go_simp⟩) (by assumption) ?_
              simp only [Act.put, List.setIfInBounds_toArray, List.set_cons_zero, List.set_cons_succ]
              refine wpAnyH_take (i := 11) (oi := { dst := some 141, op := Op.extract (Operand.tmp 130) 1, type := 4, pos := "outright.go:161", after := #[{ on := 9, ground := Ground.data }, { on := 13, ground := Ground.gcOnly Departure.lateStores }], guard := none }) (v := .bool (te == 0)) rfl (by kernel_rfl) (by kernel_rfl) (by kernel_rfl) (fun _ _ _ h => h) (Or.inl ⟨by rfl, by intro w hSw; go_simp⟩) (by assumption) ?_
              simp only [Act.put, List.setIfInBounds_toArray, List.set_cons_zero, List.set_cons_succ]
              refine wpAnyH_ready (rs := [13]) (by kernel_rfl) (by simp) (AllReadyH.cons (o := { dst := none, op := Op.store 48 (Operand.tmp 13) (Operand.tmp 140), type := 0, pos := "outright.go:161", after := #[{ on := 12, ground := Ground.data }, { on := 10, ground := Ground.data }, { on := 8, ground := Ground.chain }, { on := 0, ground := Ground.phase }, { on := 1, ground := Ground.phase }, { on := 2, ground := Ground.phase }, { on := 3, ground := Ground.phase }, { on := 4, ground := Ground.phase }, { on := 5, ground := Ground.phase }, { on := 6, ground := Ground.phase }, { on := 7, ground := Ground.phase }, { on := 8, ground := Ground.phase }, { on := 9, ground := Ground.phase }, { on := 10, ground := Ground.phase }, { on := 11, ground := Ground.textOnly Departure.lateStores }, { on := 12, ground := Ground.phase }], guard := none }) rfl (fun KQ hK => ?_) AllReadyH.nil)
              rw [if_pos (by rfl)]
              refine wp_store_st 48 _ _ rfl (X8.drew.heap.size) (plc ts tp tof) rfl rfl HZ10.out size48 rfl rfl ?_
              intro ws11 hcx hbx hsx
              have HS11 := hid (HG8.out.put HC10.out.1 HC10.out.2 hbx)
              clear hcx hbx hsx
              refine hK.out _ _ HS11.out (fun hHeld => ?_)
              clear hK KQ
              try simp only [Act.put]
              refine wpAnyH_ready (rs := [14]) (by kernel_rfl) (by simp) (AllReadyH.cons (o := { dst := some 14, op := Op.assign (Operand.tmp 141), type := 4, pos := "outright.go:161", after := #[{ on := 11, ground := Ground.data }, { on := 13, ground := Ground.chain }, { on := 0, ground := Ground.phase }, { on := 1, ground := Ground.phase }, { on := 2, ground := Ground.phase }, { on := 3, ground := Ground.phase }, { on := 4, ground := Ground.phase }, { on := 5, ground := Ground.phase }, { on := 6, ground := Ground.phase }, { on := 7, ground := Ground.phase }, { on := 8, ground := Ground.phase }, { on := 9, ground := Ground.phase }, { on := 10, ground := Ground.phase }, { on := 11, ground := Ground.phase }, { on := 12, ground := Ground.phase }, { on := 13, ground := Ground.phase }], guard := none }) rfl (fun KQ hK => ?_) AllReadyH.nil)
              go_simp
              refine hK.out _ _ HS11.out (fun hHeld => ?_)
              clear hK KQ
              try simp only [Act.put, List.setIfInBounds_toArray, List.set_cons_zero, List.set_cons_succ]
              refine wpAnyH_done (by kernel_rfl) ?_ _
              exact (‹∀ (a : Act) (w : World), Code.wp Tryd.prog _ _ a w → _› _ _ (faults_t W _ g1 g7 g10 q fa fb m o ⟨17, cond, a, b, c, imm⟩ HIk.out HS11.out.1 HS11.out.2 te HY.out HN.out _ _ _ _ _ _ _ _ _ _ _ _ _ _ _ _ _ _ _ _ _ _ _ _ _ _ _ _ _ _ _ _ _ _ _ _ _ _ _ _ _ _ _ _ _ _ _ _ _ _ _ _ _ _ _ _ _ _ _ _ _ _ _ _ _ _ _ _ _ _ _ _ _ _ _ _ _ _ _ _ _ _ _ _ _ _ _ _ _ _ _ _ _ _ _ _ _ _ _ _ _ _ _ _ _ _ _ _ _ _ _ _ _ _ _ _ _ _ _ _ _ _ _ _ _ _ _ _ _ _ _ _ _ _ _ _ _ _ _ _ _ _ _ _ _ _ _ _ _ _ _ _ _ _ _ _ _ _ _ _ _ _ _ _ _ _ _))
          · rw [show acc ⟨18, cond, a, b, c, imm⟩ = 1 from rfl] at *
            generalize hva : ad q.f ⟨18, cond, a, b, c, imm⟩ = va at *
            generalize m.trS q.l va 1 = ts at *
            generalize m.trP q.l va 1 = tp at *
            generalize m.trO q.l va 1 = tof at *
            generalize m.trE q.l va 1 = te at *
            go_upto_region 23 with (go_at_call 10; refine (num_any _ _).mono ?_; rintro e wn ⟨rfl, rfl⟩)
            have HD := hid (And.intro (H8.out.on (Below.refl _ _).drew) (HC10.out.on (Below.refl _ _).drew))
            clear q0 q1 q2 q3 q4 q5
            subst hva
            refine wp_region_held_drew (S := fun x => FT W x g1 g7 q fa fb m o ∧ Cel x g10 57 (I.Ins.cs ⟨18, cond, a, b, c, imm⟩)) (by kernel_rfl) HD.out (fun hHeld => ?_)
            refine wpAnyH_take (i := 0) (oi := { dst := some 131, op := Op.move (Operand.tmp 4), type := 29, pos := "outright.go:161", after := #[], guard := none }) (v := .pointer (some ⟨fb.gm, 0, none⟩)) rfl (by kernel_rfl) (by kernel_rfl) (by kernel_rfl) (fun _ _ _ h => h) (Or.inl ⟨by rfl, by intro w hSw; go_simp⟩) (by assumption) ?_
            simp only [Act.put, List.setIfInBounds_toArray, List.set_cons_zero, List.set_cons_succ]
            refine wpAnyH_take (i := 1) (oi := { dst := some 132, op := Op.fieldAddr 28 (Operand.tmp 1) 3, type := 0, pos := "outright.go:161", after := #[], guard := none }) (v := .pointer (some ⟨g1, 3, none⟩)) rfl (by kernel_rfl) (by kernel_rfl) (by kernel_rfl) (fun _ _ _ h => h) (Or.inl ⟨by rfl, by intro w hSw; go_simp⟩) (by assumption) ?_
            simp only [Act.put, List.setIfInBounds_toArray, List.set_cons_zero, List.set_cons_succ]
            refine wpAnyH_take (i := 2) (oi := { dst := some 133, op := Op.load 3 (Operand.tmp 132), type := 3, pos := "outright.go:161", after := #[{ on := 1, ground := Ground.data }], guard := none }) (v := .int .i64 q.l) rfl (by kernel_rfl) (by kernel_rfl) (by kernel_rfl) (fun _ _ _ h => h) (Or.inl ⟨by rfl, by intro w hSw; have hq : w.cell? ⟨g1, 3, none⟩ = some (.int .i64 q.l) := hSw.1.cq.cell 3; go_simp⟩) (by assumption) ?_
            simp only [Act.put, List.setIfInBounds_toArray, List.set_cons_zero, List.set_cons_succ]
            refine wpAnyH_take (i := 3) (oi := { dst := some 134, op := Op.fieldAddr 28 (Operand.tmp 1) 4, type := 0, pos := "outright.go:161", after := #[], guard := none }) (v := .pointer (some ⟨g1, 4, none⟩)) rfl (by kernel_rfl) (by kernel_rfl) (by kernel_rfl) (fun _ _ _ h => h) (Or.inl ⟨by rfl, by intro w hSw; exact exec_fa4 _ rfl g1 rfl⟩) (by assumption) ?_
            simp only [Act.put, List.setIfInBounds_toArray, List.set_cons_zero, List.set_cons_succ]
            refine wpAnyH_take (i := 4) (oi := { dst := some 135, op := Op.load 26 (Operand.tmp 134), type := 26, pos := "outright.go:161", after := #[{ on := 3, ground := Ground.data }], guard := none }) (v := .agg q.f.cs.toArray) rfl (by kernel_rfl) (by kernel_rfl) (by kernel_rfl) (fun _ _ _ h => h) (yieldsIf_load_mid (by rfl) _ _ rfl _ _ rfl _ _ (fun w hSw => Mq.rng hSw.1.cq) under27 rfl (by rw [size27, F.len])) (by assumption) ?_
            simp only [Act.put, List.setIfInBounds_toArray, List.set_cons_zero, List.set_cons_succ]
            refine wpAnyH_take (i := 5) (oi := { dst := some 136, op := Op.load 57 (Operand.tmp 10), type := 57, pos := "outright.go:161", after := #[], guard := none }) (v := .agg #[.int .i64 18, .int .i64 cond, .int .i64 a, .int .i64 b, .int .i64 c, .int .i32 imm]) rfl (by kernel_rfl) (by kernel_rfl) (by kernel_rfl) (fun _ _ _ h => h) (Or.inl ⟨by rfl, by intro w hSw; have hq := cel6 hSw.2; obtain ⟨q0, q1, q2, q3, q4, q5⟩ := hq; go_simp⟩) (by assumption) ?_
            simp only [Act.put, List.setIfInBounds_toArray, List.set_cons_zero, List.set_cons_succ]
            refine wpAnyH_take (i := 7) (oi := { dst := some 138, op := Op.move (Operand.tmp 12), type := 51, pos := "outright.go:161", after := #[], guard := none }) (v := .int .i64 1) rfl (by kernel_rfl) (by kernel_rfl) (by kernel_rfl) (fun _ _ _ h => h) (Or.inl ⟨by rfl, by intro w hSw; go_simp⟩) (by assumption) ?_
            simp only [Act.put, List.setIfInBounds_toArray, List.set_cons_zero, List.set_cons_succ]
            refine wpAnyH_ready (rs := [6, 12]) (by kernel_rfl) (by simp) (AllReadyH.cons (o := { dst := some 137, op := Op.call { callee := Callee.value (Operand.func 18), args := #[Operand.tmp 135, Operand.tmp 136], argTypes := #[26, 57] }, type := 23, pos := "outright.go:161", after := #[{ on := 4, ground := Ground.data }, { on := 5, ground := Ground.data }], guard := none }) rfl (fun KQ hK => ?_) (AllReadyH.cons (o := { dst := some 13, op := Op.alloc 48, type := 0, pos := "outright.go:161", after := #[], guard := none }) rfl (fun KQ hK => ?_) AllReadyH.nil))
            · go_simp
              refine (HAd.out _).mono ?_
              rintro e wa1 ⟨rfl, hbx⟩
              have HA1 := hid (And.intro (HD.out.1.on hbx) (HD.out.2.on hbx))
              clear hbx
              go_wp2_with fail
              refine hK.out _ _ HA1.out (fun hHeld => ?_)
              clear hK KQ
              try simp only [Act.put, List.setIfInBounds_toArray, List.set_cons_zero, List.set_cons_succ]
              refine wpAnyH_ready (rs := [8, 12]) (by kernel_rfl) (by simp) (AllReadyH.cons (o := { dst := some 139, op := Op.call { callee := Callee.value (Operand.func 14), args := #[Operand.tmp 131, Operand.tmp 133, Operand.tmp 137, Operand.tmp 138], argTypes := #[29, 3, 23, 51] }, type := 49, pos := "outright.go:161", after := #[{ on := 0, ground := Ground.data }, { on := 2, ground := Ground.data }, { on := 6, ground := Ground.data }, { on := 7, ground := Ground.data }, { on := 6, ground := Ground.chain }], guard := none }) rfl (fun KQ hK => ?_) (AllReadyH.cons (o := { dst := some 13, op := Op.alloc 48, type := 0, pos := "outright.go:161", after := #[], guard := none }) rfl (fun KQ hK => ?_) AllReadyH.nil))
              · go_simp
                refine (HCo.out _ HA1.out.1.b).mono ?_
                rintro e wc2 ⟨rfl, hbx⟩
                have HC2 := hid (And.intro (HA1.out.1.on hbx) (HA1.out.2.on hbx))
                clear hbx
                go_wp2_with fail
                refine hK.out _ _ HC2.out (fun hHeld => ?_)
                clear hK KQ
                try simp only [Act.put, List.setIfInBounds_toArray, List.set_cons_zero, List.set_cons_succ]
                refine wpAnyH_take (i := 9) (oi := { dst := some 130, op := Op.move (Operand.tmp 139), type := 49, pos := "outright.go:161", after := #[{ on := 8, ground := Ground.data }], guard := none }) (v := .tuple #[.agg #[.bool ts, .int .i64 tp, .int .i64 tof], .bool (te == 0)]) rfl (by kernel_rfl) (by kernel_rfl) (by kernel_rfl) (fun _ _ _ h => h) (Or.inl ⟨by rfl, by intro w hSw; go_simp⟩) (by assumption) ?_
                simp only [Act.put, List.setIfInBounds_toArray, List.set_cons_zero, List.set_cons_succ]
                refine wpAnyH_take (i := 10) (oi := { dst := some 140, op := Op.extract (Operand.tmp 130) 0, type := 48, pos := "outright.go:161", after := #[{ on := 9, ground := Ground.data }], guard := none }) (v := .agg #[.bool ts, .int .i64 tp, .int .i64 tof]) rfl (by kernel_rfl) (by kernel_rfl) (by kernel_rfl) (fun _ _ _ h => h) (Or.inl ⟨by rfl, by intro w hSw; go_simp⟩) (by assumption) ?_
                simp only [Act.put, List.setIfInBounds_toArray, List.set_cons_zero, List.set_cons_succ]
                refine wpAnyH_take (i := 11) (oi := { dst := some 141, op := Op.extract (Operand.tmp 130) 1, type := 4, pos := "outright.go:161", after := #[{ on := 9, ground := Ground.data }, { on := 13, ground := Ground.gcOnly Departure.lateStores }], guard := none }) (v := .bool (te == 0)) rfl (by kernel_rfl) (by kernel_rfl) (by kernel_rfl) (fun _ _ _ h => h) (Or.inl ⟨by rfl, by intro w hSw; go_simp⟩) (by assumption) ?_
                simp only [Act.put, List.setIfInBounds_toArray, List.set_cons_zero, List.set_cons_succ]
                refine wpAnyH_ready (rs := [12]) (by kernel_rfl) (by simp) (AllReadyH.cons (o := { dst := some 13, op := Op.alloc 48, type := 0, pos := "outright.go:161", after := #[], guard := none }) rfl (fun KQ hK => ?_) AllReadyH.nil)
                go_simp
                have HL3 := hid (And.intro (HC2.out.1.on (below_one wc2 (.cells #[.bool false, .int .i64 0, .int .i64 0] 48))) (HC2.out.2.on (below_one wc2 (.cells #[.bool false, .int .i64 0, .int .i64 0] 48))))
                have HZ3 := hid (Cel.new wc2 48 (plc false 0 0))
                have HG3 : Hid (FB W wc2 g1 g7 g10 fa fb) := hid ⟨HC2.out.1.below.size, HC2.out.1.cq.lt, HC2.out.1.c0.lt, HC2.out.1.c1.lt, HC2.out.2.lt, HC2.out.1.a.lt, HC2.out.1.b.lt⟩
                refine hK.out _ _ HL3.out (fun hHeld => ?_)
                clear hK KQ
                try simp only [Act.put, List.setIfInBounds_toArray, List.set_cons_zero, List.set_cons_succ]
                refine wpAnyH_ready (rs := [13]) (by kernel_rfl) (by simp) (AllReadyH.cons (o := { dst := none, op := Op.store 48 (Operand.tmp 13) (Operand.tmp 140), type := 0, pos := "outright.go:161", after := #[{ on := 12, ground := Ground.data }, { on := 10, ground := Ground.data }, { on := 8, ground := Ground.chain }, { on := 0, ground := Ground.phase }, { on := 1, ground := Ground.phase }, { on := 2, ground := Ground.phase }, { on := 3, ground := Ground.phase }, { on := 4, ground := Ground.phase }, { on := 5, ground := Ground.phase }, { on := 6, ground := Ground.phase }, { on := 7, ground := Ground.phase }, { on := 8, ground := Ground.phase }, { on := 9, ground := Ground.phase }, { on := 10, ground := Ground.phase }, { on := 11, ground := Ground.textOnly Departure.lateStores }, { on := 12, ground := Ground.phase }], guard := none }) rfl (fun KQ hK => ?_) AllReadyH.nil)
                rw [if_pos (by rfl)]
                refine wp_store_st 48 _ _ rfl (wc2.heap.size) (plc ts tp tof) rfl rfl HZ3.out size48 rfl rfl ?_
                intro ws4 hcx hbx hsx
                have HS4 := hid (HG3.out.put HL3.out.1 HL3.out.2 hbx)
                clear hcx hbx hsx
                refine hK.out _ _ HS4.out (fun hHeld => ?_)
                clear hK KQ
                try simp only [Act.put]
                refine wpAnyH_ready (rs := [14]) (by kernel_rfl) (by simp) (AllReadyH.cons (o := { dst := some 14, op := Op.assign (Operand.tmp 141), type := 4, pos := "outright.go:161", after := #[{ on := 11, ground := Ground.data }, { on := 13, ground := Ground.chain }, { on := 0, ground := Ground.phase }, { on := 1, ground := Ground.phase }, { on := 2, ground := Ground.phase }, { on := 3, ground := Ground.phase }, { on := 4, ground := Ground.phase }, { on := 5, ground := Ground.phase }, { on := 6, ground := Ground.phase }, { on := 7, ground := Ground.phase }, { on := 8, ground := Ground.phase }, { on := 9, ground := Ground.phase }, { on := 10, ground := Ground.phase }, { on := 11, ground := Ground.phase }, { on := 12, ground := Ground.phase }, { on := 13, ground := Ground.phase }], guard := none }) rfl (fun KQ hK => ?_) AllReadyH.nil)
                go_simp
                refine hK.out _ _ HS4.out (fun hHeld => ?_)
                clear hK KQ
                try simp only [Act.put, List.setIfInBounds_toArray, List.set_cons_zero, List.set_cons_succ]
                refine wpAnyH_done (by kernel_rfl) ?_ _
                exact (‹∀ (a : Act) (w : World), Code.wp Tryd.prog _ _ a w → _› _ _ (faults_t W _ g1 g7 g10 q fa fb m o ⟨18, cond, a, b, c, imm⟩ HIk.out HS4.out.1 HS4.out.2 te HY.out HN.out _ _ _ _ _ _ _ _ _ _ _ _ _ _ _ _ _ _ _ _ _ _ _ _ _ _ _ _ _ _ _ _ _ _ _ _ _ _ _ _ _ _ _ _ _ _ _ _ _ _ _ _ _ _ _ _ _ _ _ _ _ _ _ _ _ _ _ _ _ _ _ _ _ _ _ _ _ _ _ _ _ _ _ _ _ _ _ _ _ _ _ _ _ _ _ _ _ _ _ _ _ _ _ _ _ _ _ _ _ _ _ _ _ _ _ _ _ _ _ _ _ _ _ _ _ _ _ _ _ _ _ _ _ _ _ _ _ _ _ _ _ _ _ _ _ _ _ _ _ _ _ _ _ _ _ _ _ _ _ _ _ _ _ _ _ _ _))
              · go_simp
                have HL5 := hid (And.intro (HA1.out.1.on (below_one wa1 (.cells #[.bool false, .int .i64 0, .int .i64 0] 48))) (HA1.out.2.on (below_one wa1 (.cells #[.bool false, .int .i64 0, .int .i64 0] 48))))
                have HZ5 := hid (Cel.new wa1 48 (plc false 0 0))
                have HG5 : Hid (FB W wa1 g1 g7 g10 fa fb) := hid ⟨HA1.out.1.below.size, HA1.out.1.cq.lt, HA1.out.1.c0.lt, HA1.out.1.c1.lt, HA1.out.2.lt, HA1.out.1.a.lt, HA1.out.1.b.lt⟩
                refine hK.out _ _ HL5.out (fun hHeld => ?_)
                clear hK KQ
                try simp only [Act.put, List.setIfInBounds_toArray, List.set_cons_zero, List.set_cons_succ]
                refine wpAnyH_ready (rs := [8]) (by kernel_rfl) (by simp) (AllReadyH.cons (o := { dst := some 139, op := Op.call { callee := Callee.value (Operand.func 14), args := #[Operand.tmp 131, Operand.tmp 133, Operand.tmp 137, Operand.tmp 138], argTypes := #[29, 3, 23, 51] }, type := 49, pos := "outright.go:161", after := #[{ on := 0, ground := Ground.data }, { on := 2, ground := Ground.data }, { on := 6, ground := Ground.data }, { on := 7, ground := Ground.data }, { on := 6, ground := Ground.chain }], guard := none }) rfl (fun KQ hK => ?_) AllReadyH.nil)
                go_simp
                refine (HCo.out _ HL5.out.1.b).mono ?_
                rintro e wc6 ⟨rfl, hbx⟩
                have HC6 := hid (And.intro (HL5.out.1.on hbx) (HL5.out.2.on hbx))
                have HZ6 := hid (HZ5.out.on hbx)
                clear hbx
                go_wp2_with fail
                refine hK.out _ _ HC6.out (fun hHeld => ?_)
                clear hK KQ
                try simp only [Act.put, List.setIfInBounds_toArray, List.set_cons_zero, List.set_cons_succ]
                refine wpAnyH_take (i := 9) (oi := { dst := some 130, op := Op.move (Operand.tmp 139), type := 49, pos := "outright.go:161", after := #[{ on := 8, ground := Ground.data }], guard := none }) (v := .tuple #[.agg #[.bool ts, .int .i64 tp, .int .i64 tof], .bool (te == 0)]) rfl (by kernel_rfl) (by kernel_rfl) (by kernel_rfl) (fun _ _ _ h => h) (Or.inl ⟨by rfl, by intro w hSw; go_simp⟩) (by assumption) ?_
                simp only [Act.put, List.setIfInBounds_toArray, List.set_cons_zero, List.set_cons_succ]
                refine wpAnyH_take (i := 10) (oi := { dst := some 140, op := Op.extract (Operand.tmp 130) 0, type := 48, pos := "outright.go:161", after := #[{ on := 9, ground := Ground.data }], guard := none }) (v := .agg #[.bool ts, .int .i64 tp, .int .i64 tof]) rfl (by kernel_rfl) (by kernel_rfl) (by kernel_rfl) (fun _ _ _ h => h) (Or.inl ⟨by rfl, by intro w hSw; go_simp⟩) (by assumption) ?_
                simp only [Act.put, List.setIfInBounds_toArray, List.set_cons_zero, List.set_cons_succ]
                refine wpAnyH_take (i := 11) (oi := { dst := some 141, op := Op.extract (Operand.tmp 130) 1, type := 4, pos := "outright.go:161", after := #[{ on := 9, ground := Ground.data }, { on := 13, ground := Ground.gcOnly Departure.lateStores }], guard := none }) (v := .bool (te == 0)) rfl (by kernel_rfl) (by kernel_rfl) (by kernel_rfl) (fun _ _ _ h => h) (Or.inl ⟨by rfl, by intro w hSw; go_simp⟩) (by assumption) ?_
                simp only [Act.put, List.setIfInBounds_toArray, List.set_cons_zero, List.set_cons_succ]
                refine wpAnyH_ready (rs := [13]) (by kernel_rfl) (by simp) (AllReadyH.cons (o := { dst := none, op := Op.store 48 (Operand.tmp 13) (Operand.tmp 140), type := 0, pos := "outright.go:161", after := #[{ on := 12, ground := Ground.data }, { on := 10, ground := Ground.data }, { on := 8, ground := Ground.chain }, { on := 0, ground := Ground.phase }, { on := 1, ground := Ground.phase }, { on := 2, ground := Ground.phase }, { on := 3, ground := Ground.phase }, { on := 4, ground := Ground.phase }, { on := 5, ground := Ground.phase }, { on := 6, ground := Ground.phase }, { on := 7, ground := Ground.phase }, { on := 8, ground := Ground.phase }, { on := 9, ground := Ground.phase }, { on := 10, ground := Ground.phase }, { on := 11, ground := Ground.textOnly Departure.lateStores }, { on := 12, ground := Ground.phase }], guard := none }) rfl (fun KQ hK => ?_) AllReadyH.nil)
                rw [if_pos (by rfl)]
                refine wp_store_st 48 _ _ rfl (wa1.heap.size) (plc ts tp tof) rfl rfl HZ6.out size48 rfl rfl ?_
                intro ws7 hcx hbx hsx
                have HS7 := hid (HG5.out.put HC6.out.1 HC6.out.2 hbx)
                clear hcx hbx hsx
                refine hK.out _ _ HS7.out (fun hHeld => ?_)
                clear hK KQ
                try simp only [Act.put]
                refine wpAnyH_ready (rs := [14]) (by kernel_rfl) (by simp) (AllReadyH.cons (o := { dst := some 14, op := Op.assign (Operand.tmp 141), type := 4, pos := "outright.go:161", after := #[{ on := 11, ground := Ground.data }, { on := 13, ground := Ground.chain }, { on := 0, ground := Ground.phase }, { on := 1, ground := Ground.phase }, { on := 2, ground := Ground.phase }, { on := 3, ground := Ground.phase }, { on := 4, ground := Ground.phase }, { on := 5, ground := Ground.phase }, { on := 6, ground := Ground.phase }, { on := 7, ground := Ground.phase }, { on := 8, ground := Ground.phase }, { on := 9, ground := Ground.phase }, { on := 10, ground := Ground.phase }, { on := 11, ground := Ground.phase }, { on := 12, ground := Ground.phase }, { on := 13, ground := Ground.phase }], guard := none }) rfl (fun KQ hK => ?_) AllReadyH.nil)
                go_simp
                refine hK.out _ _ HS7.out (fun hHeld => ?_)
                clear hK KQ
                try simp only [Act.put, List.setIfInBounds_toArray, List.set_cons_zero, List.set_cons_succ]
                refine wpAnyH_done (by kernel_rfl) ?_ _
                exact (‹∀ (a : Act) (w : World), Code.wp Tryd.prog _ _ a w → _› _ _ (faults_t W _ g1 g7 g10 q fa fb m o ⟨18, cond, a, b, c, imm⟩ HIk.out HS7.out.1 HS7.out.2 te HY.out HN.out _ _ _ _ _ _ _ _ _ _ _ _ _ _ _ _ _ _ _ _ _ _ _ _ _ _ _ _ _ _ _ _ _ _ _ _ _ _ _ _ _ _ _ _ _ _ _ _ _ _ _ _ _ _ _ _ _ _ _ _ _ _ _ _ _ _ _ _ _ _ _ _ _ _ _ _ _ _ _ _ _ _ _ _ _ _ _ _ _ _ _ _ _ _ _ _ _ _ _ _ _ _ _ _ _ _ _ _ _ _ _ _ _ _ _ _ _ _ _ _ _ _ _ _ _ _ _ _ _ _ _ _ _ _ _ _ _ _ _ _ _ _ _ _ _ _ _ _ _ _ _ _ _ _ _ _ _ _ _ _ _ _ _ _ _ _ _))
            · go_simp
              have HL8 := hid (And.intro (HD.out.1.on (below_one X8.drew (.cells #[.bool false, .int .i64 0, .int .i64 0] 48))) (HD.out.2.on (below_one X8.drew (.cells #[.bool false, .int .i64 0, .int .i64 0] 48))))
              have HZ8 := hid (Cel.new X8.drew 48 (plc false 0 0))
              have HG8 : Hid (FB W X8.drew g1 g7 g10 fa fb) := hid ⟨HD.out.1.below.size, HD.out.1.cq.lt, HD.out.1.c0.lt, HD.out.1.c1.lt, HD.out.2.lt, HD.out.1.a.lt, HD.out.1.b.lt⟩
              refine hK.out _ _ HL8.out (fun hHeld => ?_)
              clear hK KQ
              try simp only [Act.put, List.setIfInBounds_toArray, List.set_cons_zero, List.set_cons_succ]
              refine wpAnyH_ready (rs := [6]) (by kernel_rfl) (by simp) (AllReadyH.cons (o := { dst := some 137, op := Op.call { callee := Callee.value (Operand.func 18), args := #[Operand.tmp 135, Operand.tmp 136], argTypes := #[26, 57] }, type := 23, pos := "outright.go:161", after := #[{ on := 4, ground := Ground.data }, { on := 5, ground := Ground.data }], guard := none }) rfl (fun KQ hK => ?_) AllReadyH.nil)
              go_simp
              refine (HAd.out _).mono ?_
              rintro e wa9 ⟨rfl, hbx⟩
              have HA9 := hid (And.intro (HL8.out.1.on hbx) (HL8.out.2.on hbx))
              have HZ9 := hid (HZ8.out.on hbx)
              clear hbx
              go_wp2_with fail
              refine hK.out _ _ HA9.out (fun hHeld => ?_)
              clear hK KQ
              try simp only [Act.put, List.setIfInBounds_toArray, List.set_cons_zero, List.set_cons_succ]
              refine wpAnyH_ready (rs := [8]) (by kernel_rfl) (by simp) (AllReadyH.cons (o := { dst := some 139, op := Op.call { callee := Callee.value (Operand.func 14), args := #[Operand.tmp 131, Operand.tmp 133, Operand.tmp 137, Operand.tmp 138], argTypes := #[29, 3, 23, 51] }, type := 49, pos := "outright.go:161", after := #[{ on := 0, ground := Ground.data }, { on := 2, ground := Ground.data }, { on := 6, ground := Ground.data }, { on := 7, ground := Ground.data }, { on := 6, ground := Ground.chain }], guard := none }) rfl (fun KQ hK => ?_) AllReadyH.nil)
              go_simp
              refine (HCo.out _ HA9.out.1.b).mono ?_
              rintro e wc10 ⟨rfl, hbx⟩
              have HC10 := hid (And.intro (HA9.out.1.on hbx) (HA9.out.2.on hbx))
              have HZ10 := hid (HZ9.out.on hbx)
              clear hbx
              go_wp2_with fail
              refine hK.out _ _ HC10.out (fun hHeld => ?_)
              clear hK KQ
              try simp only [Act.put, List.setIfInBounds_toArray, List.set_cons_zero, List.set_cons_succ]
              refine wpAnyH_take (i := 9) (oi := { dst := some 130, op := Op.move (Operand.tmp 139), type := 49, pos := "outright.go:161", after := #[{ on := 8, ground := Ground.data }], guard := none }) (v := .tuple #[.agg #[.bool ts, .int .i64 tp, .int .i64 tof], .bool (te == 0)]) rfl (by kernel_rfl) (by kernel_rfl) (by kernel_rfl) (fun _ _ _ h => h) (Or.inl ⟨by rfl, by intro w hSw; go_simp⟩) (by assumption) ?_
              simp only [Act.put, List.setIfInBounds_toArray, List.set_cons_zero, List.set_cons_succ]
              refine wpAnyH_take (i := 10) (oi := { dst := some 140, op := Op.extract (Operand.tmp 130) 0, type := 48, pos := "outright.go:161", after := #[{ on := 9, ground := Ground.data }], guard := none }) (v := .agg #[.bool ts, .int .i64 tp, .int .i64 tof]) rfl (by kernel_rfl) (by kernel_rfl) (by kernel_rfl) (fun _ _ _ h => h) (Or.inl ⟨by rfl, by intro w hSw; go_simp⟩) (by assumption) ?_
              simp only [Act.put, List.setIfInBounds_toArray, List.set_cons_zero, List.set_cons_succ]
              refine wpAnyH_take (i := 11) (oi := { dst := some 141, op := Op.extract (Operand.tmp 130) 1, type := 4, pos := "outright.go:161", after := #[{ on := 9, ground := Ground.data }, { on := 13, ground := Ground.gcOnly Departure.lateStores }], guard := none }) (v := .bool (te == 0)) rfl (by kernel_rfl) (by kernel_rfl) (by kernel_rfl) (fun _ _ _ h => h) (Or.inl ⟨by rfl, by intro w hSw; go_simp⟩) (by assumption) ?_
              simp only [Act.put, List.setIfInBounds_toArray, List.set_cons_zero, List.set_cons_succ]
              refine wpAnyH_ready (rs := [13]) (by kernel_rfl) (by simp) (AllReadyH.cons (o := { dst := none, op := Op.store 48 (Operand.tmp 13) (Operand.tmp 140), type := 0, pos := "outright.go:161", after := #[{ on := 12, ground := Ground.data }, { on := 10, ground := Ground.data }, { on := 8, ground := Ground.chain }, { on := 0, ground := Ground.phase }, { on := 1, ground := Ground.phase }, { on := 2, ground := Ground.phase }, { on := 3, ground := Ground.phase }, { on := 4, ground := Ground.phase }, { on := 5, ground := Ground.phase }, { on := 6, ground := Ground.phase }, { on := 7, ground := Ground.phase }, { on := 8, ground := Ground.phase }, { on := 9, ground := Ground.phase }, { on := 10, ground := Ground.phase }, { on := 11, ground := Ground.textOnly Departure.lateStores }, { on := 12, ground := Ground.phase }], guard := none }) rfl (fun KQ hK => ?_) AllReadyH.nil)
              rw [if_pos (by rfl)]
              refine wp_store_st 48 _ _ rfl (X8.drew.heap.size) (plc ts tp tof) rfl rfl HZ10.out size48 rfl rfl ?_
              intro ws11 hcx hbx hsx
              have HS11 := hid (HG8.out.put HC10.out.1 HC10.out.2 hbx)
              clear hcx hbx hsx
              refine hK.out _ _ HS11.out (fun hHeld => ?_)
              clear hK KQ
              try simp only [Act.put]
              refine wpAnyH_ready (rs := [14]) (by kernel_rfl) (by simp) (AllReadyH.cons (o := { dst := some 14, op := Op.assign (Operand.tmp 141), type := 4, pos := "outright.go:161", after := #[{ on := 11, ground := Ground.data }, { on := 13, ground := Ground.chain }, { on := 0, ground := Ground.phase }, { on := 1, ground := Ground.phase }, { on := 2, ground := Ground.phase }, { on := 3, ground := Ground.phase }, { on := 4, ground := Ground.phase }, { on := 5, ground := Ground.phase }, { on := 6, ground := Ground.phase }, { on := 7, ground := Ground.phase }, { on := 8, ground := Ground.phase }, { on := 9, ground := Ground.phase }, { on := 10, ground := Ground.phase }, { on := 11, ground := Ground.phase }, { on := 12, ground := Ground.phase }, { on := 13, ground := Ground.phase }], guard := none }) rfl (fun KQ hK => ?_) AllReadyH.nil)
              go_simp
              refine hK.out _ _ HS11.out (fun hHeld => ?_)
              clear hK KQ
              try simp only [Act.put, List.setIfInBounds_toArray, List.set_cons_zero, List.set_cons_succ]
              refine wpAnyH_done (by kernel_rfl) ?_ _
              exact (‹∀ (a : Act) (w : World), Code.wp Tryd.prog _ _ a w → _› _ _ (faults_t W _ g1 g7 g10 q fa fb m o ⟨18, cond, a, b, c, imm⟩ HIk.out HS11.out.1 HS11.out.2 te HY.out HN.out _ _ _ _ _ _ _ _ _ _ _ _ _ _ _ _ _ _ _ _ _ _ _ _ _ _ _ _ _ _ _ _ _ _ _ _ _ _ _ _ _ _ _ _ _ _ _ _ _ _ _ _ _ _ _ _ _ _ _ _ _ _ _ _ _ _ _ _ _ _ _ _ _ _ _ _ _ _ _ _ _ _ _ _ _ _ _ _ _ _ _ _ _ _ _ _ _ _ _ _ _ _ _ _ _ _ _ _ _ _ _ _ _ _ _ _ _ _ _ _ _ _ _ _ _ _ _ _ _ _ _ _ _ _ _ _ _ _ _ _ _ _ _ _ _ _ _ _ _ _ _ _ _ _ _ _ _ _ _ _ _ _ _ _ _ _ _))
        · have hel := @doI_else (m.fm q.l q.f.pc) q.l q.f ⟨op, cond, a, b, c, imm⟩ (by simp only; omega)
          generalize doI (m.fm q.l q.f.pc) q.l q.f ⟨op, cond, a, b, c, imm⟩ = o at *
          have e0 : X8.cell? ⟨g7 + 1, 0, none⟩ = some (.int .i64 o.k) := H8.out.c1.cell 0
          have e1 : X8.cell? ⟨g7 + 1, 1, none⟩ = some (.int .u32 o.a) := H8.out.c1.cell 1
          rw [hel.1] at e0
          rw [hel.2] at e1
          have HB := hid H8.out.below
          clear hel H8
          have x15 : (op == 15) = false := by simp; omega
          have x16 : (op == 16) = false := by simp; omega
          have x17 : (op == 17) = false := by simp; omega
          have x18 : (op == 18) = false := by simp; omega
          have x24 : (op == 24) = false := by simp; omega
          clear e24 em ho1 ho2
          go_wp2_with (go_at_call 10; refine (num_any _ _).mono ?_; rintro e wn ⟨rfl, rfl⟩)
          go_ret
          exact ⟨rfl, HB.out⟩
    · rw [HBad.out de0] at H8
      have de1 : (de != 0) = true := by simpa using de0
      clear HBad HDo HDk de0
      have HBh := hid (behind_any _ fb fa m (m.fm q.l q.f.pc) H8.out.b H8.out.a false false 0 0 (parts_same (fun s p x => m.fm_word _ _ _ _ _) _ _ _ _))
      unfold ptr at HBh
      simp only [plc] at HBh
      have H := H8
      have e0 : X8.cell? ⟨g7 + 1, 0, none⟩ = some (.int .i64 2) := H.out.c1.cell 0
      have e1 : X8.cell? ⟨g7 + 1, 1, none⟩ = some (.int .u32 fw) := H.out.c1.cell 1
      go_upto_region 12 with (go_at_call 10; refine (num_any _ _).mono ?_; rintro e wn ⟨rfl, rfl⟩)
      go_wp2_with (first | (refine wpList_load_f rfl _ rfl g7 q.f rfl H.out.c0 ?_) | (refine wpList_fa4g (by rfl) _ rfl g1 rfl ?_) | (refine wpList_load_qfg (by rfl) _ rfl g1 q rfl H.out.cq ?_) | (refine wpList_eql_fg (by rfl) _ _ rfl q.f q.f rfl rfl true (F.same_self _) ?_) | (go_at_call 15; refine HBh.out.mono ?_; rintro e w9 ⟨rfl, hb9⟩; have HB9 := hid (below_on H.out.below hb9); clear hb9))
      go_ret
      exact ⟨rfl, HB9.out⟩
  · have hb : (m.trE q.l q.f.pc 2 == 0) = false := by simpa using te
    rw [hb]
    rw [stp_no te] at H
    have HBh := hid (behind_any _ fb fa m (m.wkS q.l q.f.pc) H.out.b H.out.a false false 0 0 (parts_same (fun s p x => m.wkS_word _ _ _ _ _) _ _ _ _))
    unfold ptr at HBh
    simp only [plc] at HBh
    have e0 : v6.cell? ⟨g7 + 1, 0, none⟩ = some (.int .i64 3) := H.out.c1.cell 0
    have e1 : v6.cell? ⟨g7 + 1, 1, none⟩ = some (.int .u32 q.f.pc) := H.out.c1.cell 1
    clear te hb HC6
    go_upto_region 8 with fail
    go_wp2_with (first | (refine wpList_load_f rfl _ rfl g7 q.f rfl H.out.c0 ?_) | (refine wpList_fa4g (by rfl) _ rfl g1 rfl ?_) | (refine wpList_load_qfg (by rfl) _ rfl g1 q rfl H.out.cq ?_) | (refine wpList_eql_fg (by rfl) _ _ rfl q.f q.f rfl rfl true (F.same_self _) ?_) | (go_at_call 15; refine HBh.out.mono ?_; rintro e w9 ⟨rfl, hb9⟩; have HB9 := hid (below_on H.out.below hb9); clear hb9))
    go_ret
    exact ⟨rfl, HB9.out⟩
end Go.Proofs.YteldpapacdbbiaaDoor
