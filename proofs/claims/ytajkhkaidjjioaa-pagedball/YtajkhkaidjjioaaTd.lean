/- PagedbAll 6. -/
import Derived.Test.YtajkhkaidjjioaaTbTc
namespace Go.Proofs.Ytajkhkaidjjioaa
open Go.RowKit
set_option maxHeartbeats 8000000
set_option maxRecDepth 100000
theorem within_nat (x lo hi : Int) (h0 : 0 ≤ lo) (h1 : lo ≤ hi) (h2 : hi ≤ 1048576) (x0 : -9223372036854775808 ≤ x) (x1 : x ≤ 9223372036854775807) : ∃ s : Nat, lo ≤ (s : Int) ∧ (s : Int) ≤ hi ∧ ∀ w, Calls Try.prog 21 #[.int .i64 x, .int .i64 lo, .int .i64 hi] w fun e W' => e = .returned (.int .i64 (s : Int)) ∧ w = W' := by
  have hr := wi_range x lo (hi - lo + 1) (by omega)
  refine ⟨(wi x lo (hi - lo + 1)).toNat, by omega, by omega, fun w => ?_⟩
  rw [show (((wi x lo (hi - lo + 1)).toNat : Nat) : Int) = wi x lo (hi - lo + 1) by omega]
  exact (within_any w x lo hi h0 h1 h2 x0 x1).mono fun e W' h => ⟨h.1, h.2.symm⟩
theorem range2 {w : World} {g off : Nat} {a b : Value} (h0 : w.cell? ⟨g, off, none⟩ = some a) (h1 : w.cell? ⟨g, off + 1, none⟩ = some b) : w.rangeAt g off [a, b] := fun j v hv => by
  match j, hv with
  | 0, hv => simp only [List.getElem?_cons_zero, Option.some.injEq] at hv; subst hv; exact h0
  | 1, hv => simp only [List.getElem?_cons_succ, List.getElem?_cons_zero, Option.some.injEq] at hv; subst hv; exact h1
  | j + 2, hv => simp at hv
theorem IT.cells {W x : World} {Ps : List Tr} {n gl cap g11 g13 : Nat} {o : Oq} {a b : Value} (h : IT W x Ps n gl cap g11 g13 o a b) {i : Nat} (hin : i < n) {p : Dp} {r : Rp} {d : DS} (hi : Ps[i]? = some (p, r, d)) : x.cell? ⟨gl, i * 2, none⟩ = some (.pointer (some ⟨p.g, 0, none⟩)) ∧ x.cell? ⟨gl, i * 2 + 1, none⟩ = some (.pointer (some ⟨r.g, 0, none⟩)) := h.mp.cells hin hi
theorem IT.rng {W x : World} {Ps : List Tr} {n gl cap g11 g13 : Nat} {o : Oq} {a b : Value} (h : IT W x Ps n gl cap g11 g13 o a b) {i : Nat} (hin : i < n) {p : Dp} {r : Rp} {d : DS} (hi : Ps[i]? = some (p, r, d)) : x.rangeAt gl (i * 2) [.pointer (some ⟨p.g, 0, none⟩), .pointer (some ⟨r.g, 0, none⟩)] ∧ Cel x g11 29 o.cs := ⟨range2 (h.cells hin hi).1 (h.cells hin hi).2, h.b11⟩
theorem IT.nx {W x : World} {Ps : List Tr} {n gl cap g11 g13 : Nat} {o : Oq} {a b : Value} (h : IT W x Ps n gl cap g11 g13 o a b) : x.cell? ⟨g13, 0, none⟩ = some a ∧ x.cell? ⟨g13, 1, none⟩ = some b := ⟨h.b13.cell 0, h.b13.cell 1⟩
theorem app_at {Ps : List Tr} {i : Nat} {t s : Tr} (h : Ps[i]? = some t) : (Ps ++ [s])[i]? = some t := by
  have hl : i < Ps.length := by
    rcases Nat.lt_or_ge i Ps.length with h' | h'
    · exact h'
    · rw [List.getElem?_eq_none h'] at h; cases h
  rw [List.getElem?_append_left hl]; exact h
theorem set_at {Ps : List Tr} {i : Nat} {t s : Tr} (h : Ps[i]? = some t) : (Ps.set i s)[i]? = some s := by
  have hl : i < Ps.length := by
    rcases Nat.lt_or_ge i Ps.length with h' | h'
    · exact h'
    · rw [List.getElem?_eq_none h'] at h; cases h
  rw [List.getElem?_set, if_pos rfl, if_pos hl]
theorem IT.mid1 {W x x2 : World} {Ps : List Tr} {n gl cap g11 g13 : Nat} {o : Oq} {a b : Value} (h : IT W x Ps n gl cap g11 g13 o a b) {i : Nat} (hin : i < n) {p : Dp} {r : Rp} {d : DS} (hi : Ps[i]? = some (p, r, d)) (hb : ButL p.f.w x x2) : (x2.cell? ⟨gl, i * 2, none⟩ = some (.pointer (some ⟨p.g, 0, none⟩)) ∧ x2.cell? ⟨gl, i * 2 + 1, none⟩ = some (.pointer (some ⟨r.g, 0, none⟩))) ∧ x2.cell? ⟨r.g, 0, none⟩ = some (.pointer (some ⟨r.r.g, 0, none⟩)) ∧ RMem x2 r.r d.m := by
  have hpf : ∀ k ∈ p.f.w, k ∈ p.all := fun k hk => by simp [Dp.all, Fp.w_all hk]
  have hap := h.mp.ap i _ hi
  have hm := h.mp.doc i _ hi
  have hl := h.mp.lst.but hb (fun hk => h.mp.loff hi (List.mem_append_left _ (hpf _ hk)))
  have hd := hm.frame hb (fun k hk hw => hap k (hpf k hw) hk)
  obtain ⟨e1, e2⟩ := pcs_at (Ps.take n) i (p, r, d) (by rw [List.getElem?_take_of_lt hin]; exact hi)
  exact ⟨⟨hl.cell _ _ e1, hl.cell _ _ e2⟩, hd.c0, hd.mem⟩
theorem IT.mid2 {W x x2 x3 : World} {Ps : List Tr} {n gl cap g11 g13 : Nat} {o : Oq} {a b : Value} (h : IT W x Ps n gl cap g11 g13 o a b) {i : Nat} (hin : i < n) {p : Dp} {r q : Rp} {d e : DS} (hi : Ps[i]? = some (p, r, d)) (hb : ButL p.f.w x x2) (hn : NewD x2 x3 r.r q e) : (x3.cell? ⟨gl, i * 2, none⟩ = some (.pointer (some ⟨p.g, 0, none⟩)) ∧ x3.cell? ⟨gl, i * 2 + 1, none⟩ = some (.pointer (some ⟨r.g, 0, none⟩))) ∧ x3.cell? ⟨r.g, 0, none⟩ = some (.pointer (some ⟨r.r.g, 0, none⟩)) ∧ (∀ j, x3.frozen? ⟨gl, j, none⟩ = false) ∧ (∀ u v : Value, ((x3.setCell ⟨gl, i * 2, none⟩ u).setCell ⟨gl, i * 2 + 1, none⟩ v).cell? ⟨r.g, 0, none⟩ = some (.pointer (some ⟨r.r.g, 0, none⟩))) := by
  have hpf : ∀ k ∈ p.f.w, k ∈ p.all := fun k hk => by simp [Dp.all, Fp.w_all hk]
  have hrr : ∀ k ∈ r.r.all, k ∈ r.all := fun k hk => by simp [Rp.all, hk]
  have hap := h.mp.ap i _ hi
  have hm := h.mp.doc i _ hi
  have hl := (h.mp.lst.but hb (fun hk => h.mp.loff hi (List.mem_append_left _ (hpf _ hk)))).but hn.but (fun hk => h.mp.loff hi (List.mem_append_right _ (hrr _ hk)))
  have hd := hm.frame hb (fun k hk hw => hap k (hpf k hw) hk)
  obtain ⟨e1, e2⟩ := pcs_at (Ps.take n) i (p, r, d) (by rw [List.getElem?_take_of_lt hin]; exact hi)
  have hc := hd.cel.but hn.but (hd.mem.off hd.cel (by decide))
  obtain ⟨rest, hcl, _⟩ := hl.blk
  have hne : r.g ∉ [gl] := fun hk => by
    rw [List.mem_singleton] at hk
    have h1 := hc
    rw [hk] at h1
    exact absurd (h1.ty hcl) (by decide)
  exact ⟨⟨hl.cell _ _ e1, hl.cell _ _ e2⟩, hc.cell 0, hl.fz, fun u v => (hc.but ((ButL.setCell x3 gl (i * 2) u (by simp)).trans (.setCell _ gl (i * 2 + 1) v (by simp))) hne).cell 0⟩
theorem IT.again {W x x2 x3 : World} {Ps : List Tr} {n gl cap g11 g13 : Nat} {o : Oq} {a b : Value} (h : IT W x Ps n gl cap g11 g13 o a b) (i : Nat) (hin : i < n) {p : Dp} {r q : Rp} {d e : DS} {g gw : Nat} (hi : Ps[i]? = some (p, r, d)) (hd : DB x2 ⟨g, gw, p.f⟩ e) (hg : x.heap.size ≤ g) (hgw : x.heap.size ≤ gw) (hb : ButL p.f.w x x2) (hn : NewD x2 x3 r.r q e) (h0 : 0 < e.m.ns) : IT W ((x3.setCell ⟨gl, i * 2, none⟩ (ptr g)).setCell ⟨gl, i * 2 + 1, none⟩ (ptr q.g)) (Ps.set i (⟨g, gw, p.f⟩, q, e)) n gl cap g11 g13 o a b := by
  have hpf : ∀ k ∈ p.f.w, k ∈ p.all := fun k hk => by simp [Dp.all, Fp.w_all hk]
  have hrr : ∀ k ∈ r.r.all, k ∈ r.all := fun k hk => by simp [Rp.all, hk]
  have hb4 : ButL [gl] x3 ((x3.setCell ⟨gl, i * 2, none⟩ (ptr g)).setCell ⟨gl, i * 2 + 1, none⟩ (ptr q.g)) := (ButL.setCell x3 gl (i * 2) _ (by simp)).trans (.setCell _ gl (i * 2 + 1) _ (by simp))
  have h11 := (h.b11.but hb (fun hk => h.mp.off hi h.b11 (.inr rfl) (List.mem_append_left _ (hpf _ hk)))).but hn.but (fun hk => h.mp.off hi h.b11 (.inr rfl) (List.mem_append_right _ (hrr _ hk)))
  have h13 := (h.b13.but hb (fun hk => h.mp.off hi h.b13 (.inl rfl) (List.mem_append_left _ (hpf _ hk)))).but hn.but (fun hk => h.mp.off hi h.b13 (.inl rfl) (List.mem_append_right _ (hrr _ hk)))
  obtain ⟨rest, hcl, _⟩ := h.mp.lst.blk
  refine ⟨h.mp.again i hin hi hd hg hgw hb hn h0 _ rfl, h11.but hb4 (fun hk => ?_), h13.but hb4 (fun hk => ?_), h.n13, h.l13⟩
  · rw [List.mem_singleton] at hk
    have h1 := h.b11
    rw [hk] at h1
    exact absurd (h1.ty hcl) (by decide)
  · rw [List.mem_singleton] at hk
    exact h.l13 hk.symm
theorem built68 : Try.prog.built 68 [] = some #[.pointer none, .pointer none] := by kernel_rfl
theorem wpList_build_68 {ops : Array Oper} {rest : List Oper} {o : Oper} {a : Act} {w : World} {Q : Exit → Act → World → Prop} (hgd : o.guard = none) (ho : o.op = .build 68 #[])
    (h : wpList Try.prog ops Q rest (a.put o.dst (.agg #[.pointer none, .pointer none])) w) : wpList Try.prog ops Q (o :: rest) a w :=
  wpList_build_f hgd 68 _ ho #[] (by simp) _ built68 h
theorem all_any (W : World) (pg : Int) (pg0 : -9223372036854775808 ≤ pg) (pg1 : pg ≤ 9223372036854775807) (ao : Option Addr) (n c : Nat) (q : Nat → Oq) (hq : OpsAt W ao n q) (hn : n ≤ 1152921504606846976) :
    Calls Try.prog 6 #[.int .i64 pg, .slice ao n c] W fun e W' => e = .returned (.bool true) ∧ Below W.heap.size W W' := by
  have HQ := hid hq
  have HN := hid hn
  obtain ⟨s, s2, s8, hs⟩ := within_nat pg 2 8 (by decide) (by decide) (by decide) pg0 pg1
  have HW1 := hid hs
  have HWi := hid (fun x lo hi h0 h1 h2 x0 x1 => within_nat x lo hi h0 h1 h2 x0 x1)
  have HFr := hid (fun w s s1 s2 => fresh_any w s s1 s2)
  have HLn := hid (fun w v => load_nil w v)
  have HNu := hid (fun w => numbers_any w)
  have HNn := hid (fun w => newDB_nil w)
  have HSt := hid (fun w p r d h h' ha o => step_any w p r d h h' ha o)
  have HWh := hid (fun w p r d h h' => whole_any w p r d h h')
  have HDc := hid (fun w p d h => dclone_any w p d h)
  have HRc := hid (fun w p d h h0 => rdclone_any w p d h h0)
  have HLo := hid (fun w p r d h h' h0 a v a0 a1 => loaded_lo w p r d h h' h0 a v a0 a1)
  have HMm := hid (fun w p d h => memory_any w p d h)
  have HNw := hid (fun w f m h h64 => newDB_any w f m h h64)
  have HRn := hid (fun w r m h h64 h0 => rnewDB_any w r m h h64 h0)
  have HF1 := hid (HFr.out · s (by omega) (by omega))
  have HD0 : Hid (0 < (DS.fresh (MS.new s 1)).m.ns) := hid (by show 0 < (MS.zall _ _).ns; rw [MS.zall_ns]; show 0 < s; omega)
  clear hq hn hs pg0 pg1
  generalize DS.fresh (MS.new s 1) = d0 at *
  simp only [ptr] at *
  go_enter Try.func6, Try.ntmps6
  go_upto_region 2 with (first | (go_at_call 21; refine (HW1.out _).mono ?_; rintro e wx ⟨rfl, hw⟩; subst wx) | (go_at_call 31; refine (HF1.out _).mono ?_; rintro e w1 ⟨p, r, rfl, h1⟩; have N1 := hid h1; clear h1) | (refine wpList_store_st rfl 68 _ _ rfl w1.heap.size [.pointer (some ⟨p.g, 0, none⟩), .pointer (some ⟨r.g, 0, none⟩)] rfl rfl (Cel.new w1 68 [.pointer none, .pointer none]) size68 rfl rfl ?_; intro w2 hc hb hs; have N2 := hid (N1.out.on ((below_one w1 _).trans (hb.below (B := w1.heap.size) (by simp) (by simp)))); have C2 := hid hc; clear hc hb hs N1))
  generalize w1.heap.size = g5 at *
  have N3 : Hid (NewP W (w2.alloc (.cells #[.int .u32 0] 27)) p r d0) := hid (N2.out.on (below_one _ _))
  have C3 : Hid (Cel (w2.alloc (.cells #[.int .u32 0] 27)) g5 68 [.pointer (some ⟨p.g, 0, none⟩), .pointer (some ⟨r.g, 0, none⟩)]) := hid (C2.out.on (below_one _ _))
  clear N2 C2
  go_upto_region 3 with (go_at_call 11; refine (HLn.out _ _).mono ?_; rintro e wx ⟨rfl, hw⟩; subst wx)
  generalize World.alloc _ _ = w3 at *
  go_upto_region 5 with (first | (go_at_call 32; refine (HNu.out _).mono ?_; rintro e wx ⟨rfl, hw⟩; subst wx) | (go_at_call 33; refine (HNn.out _).mono ?_; rintro e wx ⟨rfl, hw⟩; subst wx))
  have M0 : Hid (MP W (w3.alloc (.cells #[.pointer (some ⟨p.g, 0, none⟩), .pointer (some ⟨r.g, 0, none⟩)] 68)) [(p, r, d0)] 1 w3.heap.size 1) := hid (MP.start (N3.out.on (below_one _ _)) HD0.out (Cel.new w3 68 [ptr p.g, ptr r.g]) N3.out.bl.size)
  go_upto_region 7 with (refine wpList_load_g rfl 68 _ rfl g5 rfl C3.out rfl under68 size68 ?_)
  generalize World.alloc _ _ = w4 at *
  generalize w3.heap.size = gl0 at *
  clear N3 C3 HF1 HW1 HD0
  go_loopw [9, 10] (fun v i wr => ∃ (j : Nat) (Ps : List Tr) (gl cap : Nat), j ≤ n ∧ i = .int .i64 (j : Int) ∧ v = .slice (some ⟨gl, 0, none⟩) Ps.length cap ∧ Hid (MP W wr Ps Ps.length gl cap ∧ 1 ≤ Ps.length ∧ Ps.length ≤ 6)) (fun _ i _ => n - (intOf i).toNat)
  case atStart => exact ⟨0, [(p, r, d0)], gl0, 1, Nat.zero_le _, rfl, rfl, hid ⟨M0.out, by simp, by simp⟩⟩
  case round =>
    obtain ⟨j, Ps, gl, cap, hj, rfl, rfl, HM⟩ := hrel
    clear M0
    by_cases hlt : j < n
    · have q1 : (j : Int) < (n : Int) := by omega
      have qn : j < n := hlt
      have hn60 := HN.out
      have jw : (j : Int) ≤ 1152921504606846976 := by omega
      obtain ⟨g, off, rfl, hg, _⟩ := HQ.out.at_ (by omega)
      have HRow := hid ((HQ.out.on HM.out.1.bl).row qn)
      have HOk := hid (HQ.out.v j qn)
      have HJ : Hid (j < n) := hid hlt
      have HL : Hid (Ps.length = Ps.length ∧ 1 ≤ Ps.length ∧ Ps.length ≤ 6) := hid ⟨rfl, HM.out.2⟩
      have M0 := hid HM.out.1
      clear hlt hj HM hn60
      generalize q j = o at *
      generalize hN : Ps.length = N at *
      replace HL : Hid (Ps.length = N ∧ 1 ≤ N ∧ N ≤ 6) := hid ⟨hN, HL.out.2⟩
      clear hN
      go_upto_region 10 with (first | (refine wpList_load_mid rfl 29 _ rfl g (off + j * 8) rfl _ _ HRow.out under29 rfl (by rw [size29]; rfl) ?_) | (refine wpList_store_st rfl 29 _ _ rfl wr.heap.size o.cs rfl rfl (Cel.new wr 29 [.int .i64 0, .int .i64 0, .int .i64 0, .int .i64 0, .int .i64 0, .bool false, .int .i64 0, .int .u32 0]) size29 rfl rfl ?_; intro w1 hc hb hs; have M1 := hid (M0.out.on ((below_one wr _).trans (hb.below (B := wr.heap.size) (by simp) (by simp)))); have C1 := hid hc; clear hc hb hs M0))
      clear HRow
      generalize wr.heap.size = g11 at *
      obtain ⟨k, dd, a, b, t, on, off2, v⟩ := o
      have y1 : w1.cell? ⟨g11, 1, none⟩ = some (.int .i64 dd) := C1.out.cell 1
      have l1 := HL.out.2.1
      have l6 := HL.out.2.2
      obtain ⟨i, i0, i1, hi⟩ := HWi.out dd 0 ((N : Int) - 1) (by decide) (by omega) (by omega) HOk.out.d.1 HOk.out.d.2
      have HWd := hid hi
      have qi : (i : Int) < (N : Int) := by omega
      have HI : Hid (i < N) := hid (by omega)
      have nw : IntKind.wrap .i64 ((N : Int) - 1) = (N : Int) - 1 := wr64 _ (by omega) (by omega)
      clear hi i1
      go_upto_region 11 with (go_at_call 21; refine (HWd.out _).mono ?_; rintro e wx ⟨rfl, hw⟩; subst wx)
      clear HWd nw y1
      go_upto_region 12 with (first | (refine wpList_build_68 rfl rfl ?_) | (refine wpList_store_st rfl 68 _ _ rfl w1.heap.size [.pointer none, .pointer none] rfl rfl (Cel.new w1 68 [.pointer none, .pointer none]) size68 rfl rfl ?_; intro w2 hc hb hs; have I2 := hid (IT.mk (M1.out.on ((below_one w1 _).trans (hb.below (B := w1.heap.size) (by simp) (by simp)))) (C1.out.on ((below_one w1 _).trans (hb.below (B := w1.heap.size) (by simp) (by simp)))) hc M1.out.bl.size (by have := M1.out.lst.lt; omega)); clear hc hb hs M1 C1))
      generalize w1.heap.size = g13 at *
      obtain ⟨p, r, d, hP⟩ := I2.out.mp.pick HI.out
      have HP := hid hP
      clear hP
      have y0 : w2.cell? ⟨g11, 0, none⟩ = some (.int .i64 k) := I2.out.b11.cell 0
      by_cases hk10 : k = 10
      · subst hk10
        go_upto_region 16 with fail
        have I3 := hid (I2.out.on (Below.refl _ _).drew)
        clear I2 y0
        have H0 := hid (I3.out.mp.ns0 i _ HP.out)
        simp only at H0
        refine wp_region_held_drew (S := fun w => w.cell? ⟨gl, i * 2, none⟩ = some (.pointer (some ⟨p.g, 0, none⟩)) ∧ w.cell? ⟨gl, i * 2 + 1, none⟩ = some (.pointer (some ⟨r.g, 0, none⟩))) (by kernel_rfl) (I3.out.cells HI.out HP.out) (fun hHeld => ?_)
        generalize World.drew _ = w3 at *
        refine wpAnyH_take (i := 0) (oi := { dst := some 73, op := Op.move (Operand.tmp 9), type := 73, pos := "law.go:204", after := #[], guard := none }) (v := .slice (some ⟨gl, 0, none⟩) N cap) rfl (by kernel_rfl) (by kernel_rfl) (by kernel_rfl) (fun _ _ _ h => h) (Or.inl ⟨by rfl, by intro w hSw; go_simp⟩) (by assumption) ?_
        simp only [Act.put, List.setIfInBounds_toArray, List.set_cons_zero, List.set_cons_succ]
        refine wpAnyH_take (i := 1) (oi := { dst := some 74, op := Op.move (Operand.tmp 12), type := 3, pos := "law.go:204", after := #[], guard := none }) (v := .int .i64 (i : Int)) rfl (by kernel_rfl) (by kernel_rfl) (by kernel_rfl) (fun _ _ _ h => h) (Or.inl ⟨by rfl, by intro w hSw; go_simp⟩) (by assumption) ?_
        simp only [Act.put, List.setIfInBounds_toArray, List.set_cons_zero, List.set_cons_succ]
        refine wpAnyH_take (i := 2) (oi := { dst := some 75, op := Op.indexAddr 73 (Operand.tmp 73) (Operand.tmp 74), type := 0, pos := "law.go:204", after := #[{ on := 0, ground := Ground.data }, { on := 1, ground := Ground.data }], guard := none }) (v := .pointer (some ⟨gl, i * 2, none⟩)) rfl (by kernel_rfl) (by kernel_rfl) (by kernel_rfl) (fun _ _ _ h => h) (Or.inl ⟨by rfl, by intro w hSw; go_simp⟩) (by assumption) ?_
        simp only [Act.put, List.setIfInBounds_toArray, List.set_cons_zero, List.set_cons_succ]
        refine wpAnyH_take (i := 3) (oi := { dst := some 76, op := Op.fieldAddr 68 (Operand.tmp 75) 0, type := 0, pos := "law.go:204", after := #[{ on := 2, ground := Ground.data }], guard := none }) (v := .pointer (some ⟨gl, i * 2, none⟩)) rfl (by kernel_rfl) (by kernel_rfl) (by kernel_rfl) (fun _ _ _ h => h) (Or.inl ⟨by rfl, by intro w hSw; go_simp⟩) (by assumption) ?_
        simp only [Act.put, List.setIfInBounds_toArray, List.set_cons_zero, List.set_cons_succ]
        refine wpAnyH_take (i := 4) (oi := { dst := some 77, op := Op.load 23 (Operand.tmp 76), type := 23, pos := "law.go:204", after := #[{ on := 3, ground := Ground.data }], guard := none }) (v := .pointer (some ⟨p.g, 0, none⟩)) rfl (by kernel_rfl) (by kernel_rfl) (by kernel_rfl) (fun _ _ _ h => h) (Or.inl ⟨by rfl, by intro w hSw; have hc := hSw.1; go_simp⟩) (by assumption) ?_
        simp only [Act.put, List.setIfInBounds_toArray, List.set_cons_zero, List.set_cons_succ]
        refine wpAnyH_take (i := 6) (oi := { dst := some 79, op := Op.move (Operand.tmp 9), type := 73, pos := "law.go:204", after := #[], guard := none }) (v := .slice (some ⟨gl, 0, none⟩) N cap) rfl (by kernel_rfl) (by kernel_rfl) (by kernel_rfl) (fun _ _ _ h => h) (Or.inl ⟨by rfl, by intro w hSw; go_simp⟩) (by assumption) ?_
        simp only [Act.put, List.setIfInBounds_toArray, List.set_cons_zero, List.set_cons_succ]
        refine wpAnyH_take (i := 7) (oi := { dst := some 80, op := Op.move (Operand.tmp 12), type := 3, pos := "law.go:204", after := #[], guard := none }) (v := .int .i64 (i : Int)) rfl (by kernel_rfl) (by kernel_rfl) (by kernel_rfl) (fun _ _ _ h => h) (Or.inl ⟨by rfl, by intro w hSw; go_simp⟩) (by assumption) ?_
        simp only [Act.put, List.setIfInBounds_toArray, List.set_cons_zero, List.set_cons_succ]
        refine wpAnyH_take (i := 8) (oi := { dst := some 81, op := Op.indexAddr 73 (Operand.tmp 79) (Operand.tmp 80), type := 0, pos := "law.go:204", after := #[{ on := 6, ground := Ground.data }, { on := 7, ground := Ground.data }], guard := none }) (v := .pointer (some ⟨gl, i * 2, none⟩)) rfl (by kernel_rfl) (by kernel_rfl) (by kernel_rfl) (fun _ _ _ h => h) (Or.inl ⟨by rfl, by intro w hSw; go_simp⟩) (by assumption) ?_
        simp only [Act.put, List.setIfInBounds_toArray, List.set_cons_zero, List.set_cons_succ]
        refine wpAnyH_take (i := 9) (oi := { dst := some 82, op := Op.fieldAddr 68 (Operand.tmp 81) 1, type := 0, pos := "law.go:204", after := #[{ on := 8, ground := Ground.data }], guard := none }) (v := .pointer (some ⟨gl, i * 2 + 1, none⟩)) rfl (by kernel_rfl) (by kernel_rfl) (by kernel_rfl) (fun _ _ _ h => h) (Or.inl ⟨by rfl, by intro w hSw; go_simp⟩) (by assumption) ?_
        simp only [Act.put, List.setIfInBounds_toArray, List.set_cons_zero, List.set_cons_succ]
        refine wpAnyH_take (i := 10) (oi := { dst := some 83, op := Op.load 66 (Operand.tmp 82), type := 66, pos := "law.go:204", after := #[{ on := 9, ground := Ground.data }], guard := none }) (v := .pointer (some ⟨r.g, 0, none⟩)) rfl (by kernel_rfl) (by kernel_rfl) (by kernel_rfl) (fun _ _ _ h => h) (Or.inl ⟨by rfl, by intro w hSw; have hc := hSw.2; go_simp⟩) (by assumption) ?_
        simp only [Act.put, List.setIfInBounds_toArray, List.set_cons_zero, List.set_cons_succ]
        refine wpAnyH_ready (rs := [5]) (by kernel_rfl) (by simp) (AllReadyH.cons (o := { dst := some 78, op := Op.call { callee := Callee.value (Operand.func 10), args := #[Operand.tmp 77], argTypes := #[23] }, type := 23, pos := "law.go:204", after := #[{ on := 4, ground := Ground.data }], guard := none }) rfl (fun KQ hK => ?_) AllReadyH.nil)
        go_simp
        refine (HDc.out _ p d (I3.out.mp.own i _ HP.out)).mono ?_
        rintro e w4 ⟨p4, rfl, hn⟩
        have N4 := hid hn
        have I4 := hid (I3.out.on hn.below)
        clear hn
        go_wp2_with fail
        refine hK.out _ _ (I4.out.cells HI.out HP.out) (fun hHeld => ?_)
        clear hK KQ
        try simp only [Act.put, List.setIfInBounds_toArray, List.set_cons_zero, List.set_cons_succ]
        refine wpAnyH_ready (rs := [11]) (by kernel_rfl) (by simp) (AllReadyH.cons (o := { dst := some 84, op := Op.call { callee := Callee.value (Operand.func 34), args := #[Operand.tmp 83], argTypes := #[66] }, type := 66, pos := "law.go:204", after := #[{ on := 10, ground := Ground.data }, { on := 5, ground := Ground.chain }], guard := none }) rfl (fun KQ hK => ?_) AllReadyH.nil)
        go_simp
        refine (HRc.out _ r d (I4.out.mp.doc i _ HP.out) H0.out).mono ?_
        rintro e w5 ⟨q5, rfl, hn⟩
        have I5 := hid (I3.out.push (pair_cloned N4.out hn) H0.out)
        clear hn I3 I4 N4
        go_wp2_with fail
        refine hK.out _ _ (I5.out.cells HI.out (app_at HP.out)) (fun hHeld => ?_)
        clear hK KQ
        try simp only [Act.put, List.setIfInBounds_toArray, List.set_cons_zero, List.set_cons_succ]
        refine wpAnyH_take (i := 12) (oi := { dst := some 85, op := Op.build 68 #[(0, Operand.tmp 78), (1, Operand.tmp 84)], type := 68, pos := "law.go:204", after := #[{ on := 5, ground := Ground.data }, { on := 11, ground := Ground.data }], guard := none }) (v := .agg #[.pointer (some ⟨p4.g, 0, none⟩), .pointer (some ⟨q5.g, 0, none⟩)]) rfl (by kernel_rfl) (by kernel_rfl) (by kernel_rfl) (fun _ _ _ h => h) (Or.inl ⟨by rfl, by intro w hSw; go_simp⟩) (by assumption) ?_
        simp only [Act.put, List.setIfInBounds_toArray, List.set_cons_zero, List.set_cons_succ]
        refine wpAnyH_ready (rs := [13]) (by kernel_rfl) (by simp) (AllReadyH.cons (o := { dst := none, op := Op.store 68 (Operand.tmp 13) (Operand.tmp 85), type := 0, pos := "law.go:204", after := #[{ on := 12, ground := Ground.data }, { on := 11, ground := Ground.chain }, { on := 0, ground := Ground.phase }, { on := 1, ground := Ground.phase }, { on := 2, ground := Ground.phase }, { on := 3, ground := Ground.phase }, { on := 4, ground := Ground.phase }, { on := 5, ground := Ground.phase }, { on := 6, ground := Ground.phase }, { on := 7, ground := Ground.phase }, { on := 8, ground := Ground.phase }, { on := 9, ground := Ground.phase }, { on := 10, ground := Ground.phase }, { on := 11, ground := Ground.phase }, { on := 12, ground := Ground.phase }], guard := none }) rfl (fun KQ hK => ?_) AllReadyH.nil)
        rw [if_pos (by rfl)]
        refine wp_store_st 68 _ _ rfl g13 [.pointer (some ⟨p4.g, 0, none⟩), .pointer (some ⟨q5.g, 0, none⟩)] rfl rfl I5.out.b13 size68 rfl rfl ?_
        intro w6 hc hb hs
        have I6 := hid (I5.out.put hc hb)
        clear hc hb hs I5
        refine hK.out _ _ (I6.out.cells HI.out (app_at HP.out)) (fun hHeld => ?_)
        clear hK KQ
        try simp only [Act.put]
        refine wpAnyH_done (by kernel_rfl) ?_ _
        obtain ⟨x0, x1⟩ := I6.out.nx
        by_cases h6 : N < 6
        · have h6i : (N : Int) < 6 := by omega
          have HN6 := hid h6
          clear h6
          go_wp2_with (first | (refine wpList_load_g rfl 68 _ rfl g13 rfl I6.out.b13 rfl under68 size68 ?_) | (at_builtin; refine wpList_append_p (B := W.heap.size) rfl _ _ rfl (.slice (some ⟨gl, 0, none⟩) N cap) N _ rfl (I6.out.mp.on (below_one w6 (.cells #[.pointer (some ⟨p4.g, 0, none⟩), .pointer (some ⟨q5.g, 0, none⟩)] 68))).lst.owns (I6.out.mp.on (below_one w6 (.cells #[.pointer (some ⟨p4.g, 0, none⟩), .pointer (some ⟨q5.g, 0, none⟩)] 68))).bl.size ⟨w6.heap.size, 0, none⟩ 1 (some ⟨p4.g, 0, none⟩) (some ⟨q5.g, 0, none⟩) rfl (Cel.new w6 68 [.pointer (some ⟨p4.g, 0, none⟩), .pointer (some ⟨q5.g, 0, none⟩)]).src (by omega) ?_; intro vv ww hh hgr; obtain ⟨gl7, cap7, rfl, hm⟩ := (I6.out.mp.on (below_one w6 (.cells #[.pointer (some ⟨p4.g, 0, none⟩), .pointer (some ⟨q5.g, 0, none⟩)] 68))).append HL.out.1.symm hh hgr; have M7 := hid hm; clear hh hgr hm))
          go_roundw
          case measure => have := HJ.out; simp [intOf] <;> omega
          case rel => exact ⟨j + 1, Ps ++ [(p4, q5, d)], gl7, cap7, HJ.out, by simp, by simp, hid ⟨M7.out, by simp, by have h1 := HL.out.1; have h2 := HN6.out; rw [List.length_append, List.length_singleton]; omega⟩⟩
        · have h6i : ¬ ((N : Int) < 6) := by omega
          clear h6
          go_wp2_with fail
          go_roundw
          case measure => have := HJ.out; simp [intOf] <;> omega
          case rel => exact ⟨j + 1, Ps, gl, cap, HJ.out, by simp, by rw [HL.out.1], hid (by rw [HL.out.1]; exact ⟨I6.out.mp.drop HL.out.1.symm, HL.out.2⟩)⟩
      by_cases hk11 : k = 11
      · subst hk11
        go_upto_region 19 with fail
        have I3 := hid (I2.out.on (Below.refl _ _).drew)
        clear I2 y0
        have H0 := hid (I3.out.mp.ns0 i _ HP.out)
        simp only at H0
        have HLd := hid (HLo.out · p r d · · H0.out a v HOk.out.a.1 HOk.out.a.2)
        refine wp_region_held_drew (S := fun w => w.rangeAt gl (i * 2) [.pointer (some ⟨p.g, 0, none⟩), .pointer (some ⟨r.g, 0, none⟩)] ∧ Cel w g11 29 [.int .i64 11, .int .i64 dd, .int .i64 a, .int .i64 b, .int .i64 t, .bool on, .int .i64 off2, .int .u32 v]) (by kernel_rfl) (I3.out.rng HI.out HP.out) (fun hHeld => ?_)
        generalize World.drew _ = w3 at *
        refine wpAnyH_take (i := 0) (oi := { dst := some 92, op := Op.move (Operand.tmp 9), type := 73, pos := "law.go:207", after := #[], guard := none }) (v := .slice (some ⟨gl, 0, none⟩) N cap) rfl (by kernel_rfl) (by kernel_rfl) (by kernel_rfl) (fun _ _ _ h => h) (Or.inl ⟨by rfl, by intro w hSw; go_simp⟩) (by assumption) ?_
        simp only [Act.put, List.setIfInBounds_toArray, List.set_cons_zero, List.set_cons_succ]
        refine wpAnyH_take (i := 1) (oi := { dst := some 93, op := Op.move (Operand.tmp 12), type := 3, pos := "law.go:207", after := #[], guard := none }) (v := .int .i64 (i : Int)) rfl (by kernel_rfl) (by kernel_rfl) (by kernel_rfl) (fun _ _ _ h => h) (Or.inl ⟨by rfl, by intro w hSw; go_simp⟩) (by assumption) ?_
        simp only [Act.put, List.setIfInBounds_toArray, List.set_cons_zero, List.set_cons_succ]
        refine wpAnyH_take (i := 2) (oi := { dst := some 94, op := Op.indexAddr 73 (Operand.tmp 92) (Operand.tmp 93), type := 0, pos := "law.go:207", after := #[{ on := 0, ground := Ground.data }, { on := 1, ground := Ground.data }], guard := none }) (v := .pointer (some ⟨gl, i * 2, none⟩)) rfl (by kernel_rfl) (by kernel_rfl) (by kernel_rfl) (fun _ _ _ h => h) (Or.inl ⟨by rfl, by intro w hSw; go_simp⟩) (by assumption) ?_
        simp only [Act.put, List.setIfInBounds_toArray, List.set_cons_zero, List.set_cons_succ]
        refine wpAnyH_take (i := 3) (oi := { dst := some 95, op := Op.load 68 (Operand.tmp 94), type := 68, pos := "law.go:207", after := #[{ on := 2, ground := Ground.data }], guard := none }) (v := .agg #[.pointer (some ⟨p.g, 0, none⟩), .pointer (some ⟨r.g, 0, none⟩)]) rfl (by kernel_rfl) (by kernel_rfl) (by kernel_rfl) (fun _ _ _ h => h) (yieldsIf_load_mid (by rfl) _ _ rfl _ _ rfl _ _ (fun w hSw => hSw.1) under68 rfl (by rw [size68]; rfl)) (by assumption) ?_
        simp only [Act.put, List.setIfInBounds_toArray, List.set_cons_zero, List.set_cons_succ]
        refine wpAnyH_take (i := 4) (oi := { dst := some 96, op := Op.fieldAddr 29 (Operand.tmp 11) 2, type := 0, pos := "law.go:207", after := #[], guard := none }) (v := .pointer (some ⟨g11, 2, none⟩)) rfl (by kernel_rfl) (by kernel_rfl) (by kernel_rfl) (fun _ _ _ h => h) (Or.inl ⟨by rfl, by intro w hSw; go_simp⟩) (by assumption) ?_
        simp only [Act.put, List.setIfInBounds_toArray, List.set_cons_zero, List.set_cons_succ]
        refine wpAnyH_take (i := 5) (oi := { dst := some 97, op := Op.load 3 (Operand.tmp 96), type := 3, pos := "law.go:207", after := #[{ on := 4, ground := Ground.data }], guard := none }) (v := .int .i64 a) rfl (by kernel_rfl) (by kernel_rfl) (by kernel_rfl) (fun _ _ _ h => h) (Or.inl ⟨by rfl, by intro w hSw; have hc : w.cell? ⟨g11, 2, none⟩ = some (.int .i64 a) := hSw.2.cell 2; go_simp⟩) (by assumption) ?_
        simp only [Act.put, List.setIfInBounds_toArray, List.set_cons_zero, List.set_cons_succ]
        refine wpAnyH_take (i := 6) (oi := { dst := some 98, op := Op.fieldAddr 29 (Operand.tmp 11) 7, type := 0, pos := "law.go:207", after := #[], guard := none }) (v := .pointer (some ⟨g11, 7, none⟩)) rfl (by kernel_rfl) (by kernel_rfl) (by kernel_rfl) (fun _ _ _ h => h) (Or.inl ⟨by rfl, by intro w hSw; go_simp⟩) (by assumption) ?_
        simp only [Act.put, List.setIfInBounds_toArray, List.set_cons_zero, List.set_cons_succ]
        refine wpAnyH_take (i := 7) (oi := { dst := some 99, op := Op.load 27 (Operand.tmp 98), type := 27, pos := "law.go:207", after := #[{ on := 6, ground := Ground.data }], guard := none }) (v := .int .u32 v) rfl (by kernel_rfl) (by kernel_rfl) (by kernel_rfl) (fun _ _ _ h => h) (Or.inl ⟨by rfl, by intro w hSw; have hc : w.cell? ⟨g11, 7, none⟩ = some (.int .u32 v) := hSw.2.cell 7; go_simp⟩) (by assumption) ?_
        simp only [Act.put, List.setIfInBounds_toArray, List.set_cons_zero, List.set_cons_succ]
        refine wpAnyH_ready (rs := [8]) (by kernel_rfl) (by simp) (AllReadyH.cons (o := { dst := some 100, op := Op.call { callee := Callee.value (Operand.func 35), args := #[Operand.tmp 95, Operand.tmp 97, Operand.tmp 99], argTypes := #[68, 3, 27] }, type := 69, pos := "law.go:207", after := #[{ on := 3, ground := Ground.data }, { on := 5, ground := Ground.data }, { on := 7, ground := Ground.data }], guard := none }) rfl (fun KQ hK => ?_) AllReadyH.nil)
        go_simp
        refine (HLd.out _ (I3.out.mp.own i _ HP.out) (I3.out.mp.doc i _ HP.out)).mono ?_
        rintro e w4 ⟨s4, t4, rfl, hn⟩
        have N4 := hid hn
        have I4 := hid (I3.out.on hn.below)
        clear hn
        go_wp2_with fail
        refine hK.out _ _ (I4.out.rng HI.out HP.out) (fun hHeld => ?_)
        clear hK KQ
        try simp only [Act.put, List.setIfInBounds_toArray, List.set_cons_zero, List.set_cons_succ]
        refine wpAnyH_take (i := 9) (oi := { dst := some 91, op := Op.move (Operand.tmp 100), type := 69, pos := "law.go:207", after := #[{ on := 8, ground := Ground.data }], guard := none }) (v := .tuple #[.agg #[.pointer s4, .pointer t4], .bool true]) rfl (by kernel_rfl) (by kernel_rfl) (by kernel_rfl) (fun _ _ _ h => h) (Or.inl ⟨by rfl, by intro w hSw; go_simp⟩) (by assumption) ?_
        simp only [Act.put, List.setIfInBounds_toArray, List.set_cons_zero, List.set_cons_succ]
        refine wpAnyH_take (i := 10) (oi := { dst := some 101, op := Op.extract (Operand.tmp 91) 0, type := 68, pos := "law.go:207", after := #[{ on := 9, ground := Ground.data }], guard := none }) (v := .agg #[.pointer s4, .pointer t4]) rfl (by kernel_rfl) (by kernel_rfl) (by kernel_rfl) (fun _ _ _ h => h) (Or.inl ⟨by rfl, by intro w hSw; go_simp⟩) (by assumption) ?_
        simp only [Act.put, List.setIfInBounds_toArray, List.set_cons_zero, List.set_cons_succ]
        refine wpAnyH_take (i := 11) (oi := { dst := some 102, op := Op.extract (Operand.tmp 91) 1, type := 4, pos := "law.go:207", after := #[{ on := 9, ground := Ground.data }, { on := 12, ground := Ground.gcOnly Departure.lateStores }], guard := none }) (v := .bool true) rfl (by kernel_rfl) (by kernel_rfl) (by kernel_rfl) (fun _ _ _ h => h) (Or.inl ⟨by rfl, by intro w hSw; go_simp⟩) (by assumption) ?_
        simp only [Act.put, List.setIfInBounds_toArray, List.set_cons_zero, List.set_cons_succ]
        refine wpAnyH_ready (rs := [12]) (by kernel_rfl) (by simp) (AllReadyH.cons (o := { dst := none, op := Op.store 68 (Operand.tmp 13) (Operand.tmp 101), type := 0, pos := "law.go:207", after := #[{ on := 10, ground := Ground.data }, { on := 8, ground := Ground.chain }, { on := 0, ground := Ground.phase }, { on := 1, ground := Ground.phase }, { on := 2, ground := Ground.phase }, { on := 3, ground := Ground.phase }, { on := 4, ground := Ground.phase }, { on := 5, ground := Ground.phase }, { on := 6, ground := Ground.phase }, { on := 7, ground := Ground.phase }, { on := 8, ground := Ground.phase }, { on := 9, ground := Ground.phase }, { on := 10, ground := Ground.phase }, { on := 11, ground := Ground.textOnly Departure.lateStores }], guard := none }) rfl (fun KQ hK => ?_) AllReadyH.nil)
        rw [if_pos (by rfl)]
        refine wp_store_st 68 _ _ rfl g13 [.pointer s4, .pointer t4] rfl rfl I4.out.b13 size68 rfl rfl ?_
        intro w6 hc hb hs
        have I6 := hid (I4.out.put hc hb)
        have C6 := hid (And.intro hc hb)
        clear hc hb hs
        refine hK.out _ _ (I6.out.rng HI.out HP.out) (fun hHeld => ?_)
        clear hK KQ
        try simp only [Act.put]
        refine wpAnyH_ready (rs := [13]) (by kernel_rfl) (by simp) (AllReadyH.cons (o := { dst := some 6, op := Op.assign (Operand.tmp 102), type := 4, pos := "law.go:207", after := #[{ on := 11, ground := Ground.data }, { on := 12, ground := Ground.chain }, { on := 0, ground := Ground.phase }, { on := 1, ground := Ground.phase }, { on := 2, ground := Ground.phase }, { on := 3, ground := Ground.phase }, { on := 4, ground := Ground.phase }, { on := 5, ground := Ground.phase }, { on := 6, ground := Ground.phase }, { on := 7, ground := Ground.phase }, { on := 8, ground := Ground.phase }, { on := 9, ground := Ground.phase }, { on := 10, ground := Ground.phase }, { on := 11, ground := Ground.phase }, { on := 12, ground := Ground.phase }], guard := none }) rfl (fun KQ hK => ?_) AllReadyH.nil)
        go_simp
        refine hK.out _ _ (I6.out.rng HI.out HP.out) (fun hHeld => ?_)
        clear hK KQ
        try simp only [Act.put, List.setIfInBounds_toArray, List.set_cons_zero, List.set_cons_succ]
        refine wpAnyH_done (by kernel_rfl) ?_ _
        rcases N4.out with ⟨e1, e2, _⟩ | ⟨p7, r7, d7, e1, e2, hn, hm⟩
        · injection e1 with e1
          injection e2 with e2
          subst e1
          subst e2
          clear I3 I4 N4 C6 HLd
          obtain ⟨x0, x1⟩ := I6.out.nx
          go_wp2_with fail
          go_roundw
          case measure => have := HJ.out; simp [intOf] <;> omega
          case rel => exact ⟨j + 1, Ps, gl, cap, HJ.out, by simp, by rw [HL.out.1], hid (by rw [HL.out.1]; exact ⟨I6.out.mp, HL.out.2⟩)⟩
        · injection e1 with e1
          injection e2 with e2
          subst e1
          subst e2
          have I7 := hid ((I3.out.push hn (by rw [hm]; exact H0.out)).put C6.out.1 C6.out.2)
          clear I3 I4 N4 C6 I6 HLd hn hm
          obtain ⟨x0, x1⟩ := I7.out.nx
          by_cases h6 : N < 6
          · have h6i : (N : Int) < 6 := by omega
            have HN6 := hid h6
            clear h6
            go_wp2_with (first | (refine wpList_load_g rfl 68 _ rfl g13 rfl I7.out.b13 rfl under68 size68 ?_) | (at_builtin; refine wpList_append_p (B := W.heap.size) rfl _ _ rfl (.slice (some ⟨gl, 0, none⟩) N cap) N _ rfl (I7.out.mp.on (below_one w6 (.cells #[.pointer (some ⟨p7.g, 0, none⟩), .pointer (some ⟨r7.g, 0, none⟩)] 68))).lst.owns (I7.out.mp.on (below_one w6 (.cells #[.pointer (some ⟨p7.g, 0, none⟩), .pointer (some ⟨r7.g, 0, none⟩)] 68))).bl.size ⟨w6.heap.size, 0, none⟩ 1 (some ⟨p7.g, 0, none⟩) (some ⟨r7.g, 0, none⟩) rfl (Cel.new w6 68 [.pointer (some ⟨p7.g, 0, none⟩), .pointer (some ⟨r7.g, 0, none⟩)]).src (by omega) ?_; intro vv ww hh hgr; obtain ⟨gl7, cap7, rfl, hm⟩ := (I7.out.mp.on (below_one w6 (.cells #[.pointer (some ⟨p7.g, 0, none⟩), .pointer (some ⟨r7.g, 0, none⟩)] 68))).append HL.out.1.symm hh hgr; have M7 := hid hm; clear hh hgr hm))
            go_roundw
            case measure => have := HJ.out; simp [intOf] <;> omega
            case rel => exact ⟨j + 1, Ps ++ [(p7, r7, d7)], gl7, cap7, HJ.out, by simp, by simp, hid ⟨M7.out, by simp, by have h1 := HL.out.1; have h2 := HN6.out; rw [List.length_append, List.length_singleton]; omega⟩⟩
          · have h6i : ¬ ((N : Int) < 6) := by omega
            clear h6
            go_wp2_with fail
            go_roundw
            case measure => have := HJ.out; simp [intOf] <;> omega
            case rel => exact ⟨j + 1, Ps, gl, cap, HJ.out, by simp, by rw [HL.out.1], hid (by rw [HL.out.1]; exact ⟨I7.out.mp.drop HL.out.1.symm, HL.out.2⟩)⟩
      by_cases hk13 : k = 13
      · subst hk13
        have y2 : w2.cell? ⟨g11, 2, none⟩ = some (.int .i64 a) := I2.out.b11.cell 2
        obtain ⟨s3, s31, s37, hs3⟩ := HWi.out a 1 7 (by decide) (by decide) (by decide) HOk.out.a.1 HOk.out.a.2
        have HW3 := hid hs3
        have HF3 := hid (HFr.out · s3 (by omega) (by omega))
        have HD3 : Hid (0 < (DS.fresh (MS.new s3 1)).m.ns) := hid (by show 0 < (MS.zall _ _).ns; rw [MS.zall_ns]; show 0 < s3; omega)
        clear hs3 s31 s37
        generalize DS.fresh (MS.new s3 1) = d3 at *
        go_upto_region 25 with (first | (go_at_call 21; refine (HW3.out _).mono ?_; rintro e wx ⟨rfl, hw⟩; subst wx) | (go_at_call 31; refine (HF3.out _).mono ?_; rintro e w4 ⟨p4, q5, rfl, hn⟩; have I5 := hid (I2.out.push hn HD3.out); clear hn I2 y0 y2) | (refine wpList_store_st rfl 68 _ _ rfl g13 [.pointer (some ⟨p4.g, 0, none⟩), .pointer (some ⟨q5.g, 0, none⟩)] rfl rfl I5.out.b13 size68 rfl rfl ?_; intro w6 hc hb hs; have I6 := hid (I5.out.put hc hb); clear hc hb hs I5))
        obtain ⟨x0, x1⟩ := I6.out.nx
        by_cases h6 : N < 6
        · have h6i : (N : Int) < 6 := by omega
          have HN6 := hid h6
          clear h6
          go_wp2_with (first | (refine wpList_load_g rfl 68 _ rfl g13 rfl I6.out.b13 rfl under68 size68 ?_) | (at_builtin; refine wpList_append_p (B := W.heap.size) rfl _ _ rfl (.slice (some ⟨gl, 0, none⟩) N cap) N _ rfl (I6.out.mp.on (below_one w6 (.cells #[.pointer (some ⟨p4.g, 0, none⟩), .pointer (some ⟨q5.g, 0, none⟩)] 68))).lst.owns (I6.out.mp.on (below_one w6 (.cells #[.pointer (some ⟨p4.g, 0, none⟩), .pointer (some ⟨q5.g, 0, none⟩)] 68))).bl.size ⟨w6.heap.size, 0, none⟩ 1 (some ⟨p4.g, 0, none⟩) (some ⟨q5.g, 0, none⟩) rfl (Cel.new w6 68 [.pointer (some ⟨p4.g, 0, none⟩), .pointer (some ⟨q5.g, 0, none⟩)]).src (by omega) ?_; intro vv ww hh hgr; obtain ⟨gl7, cap7, rfl, hm⟩ := (I6.out.mp.on (below_one w6 (.cells #[.pointer (some ⟨p4.g, 0, none⟩), .pointer (some ⟨q5.g, 0, none⟩)] 68))).append HL.out.1.symm hh hgr; have M7 := hid hm; clear hh hgr hm))
          go_roundw
          case measure => have := HJ.out; simp [intOf] <;> omega
          case rel => exact ⟨j + 1, Ps ++ [(p4, q5, d3)], gl7, cap7, HJ.out, by simp, by simp, hid ⟨M7.out, by simp, by have h1 := HL.out.1; have h2 := HN6.out; rw [List.length_append, List.length_singleton]; omega⟩⟩
        · have h6i : ¬ ((N : Int) < 6) := by omega
          clear h6
          go_wp2_with fail
          go_roundw
          case measure => have := HJ.out; simp [intOf] <;> omega
          case rel => exact ⟨j + 1, Ps, gl, cap, HJ.out, by simp, by rw [HL.out.1], hid (by rw [HL.out.1]; exact ⟨I6.out.mp.drop HL.out.1.symm, HL.out.2⟩)⟩
      by_cases hk12 : k = 12
      · subst hk12
        go_upto_region 23 with fail
        have I3 := hid (I2.out.on (Below.refl _ _).drew)
        clear I2 y0
        have H0 := hid (I3.out.mp.ns0 i _ HP.out)
        simp only at H0
        have H64 := hid (I3.out.mp.own i _ HP.out).ok.n64
        simp only at H64
        have HNf : Hid (0 < (DS.fresh d.m).m.ns) := hid (by show 0 < (MS.zall _ _).ns; rw [MS.zall_ns]; exact H0.out)
        have HNw2 := hid (HNw.out · p.f d.m · H64.out)
        have HRn2 := hid (HRn.out · r.r d.m · H64.out H0.out)
        have K3 := hid (I3.out.mp.doc i _ HP.out).c0
        generalize DS.fresh d.m = e2 at *
        simp only at K3
        refine wp_region_held_drew (S := fun w => w.cell? ⟨r.g, 0, none⟩ = some (.pointer (some ⟨r.r.g, 0, none⟩))) (by kernel_rfl) K3.out (fun hHeld => ?_)
        generalize World.drew _ = w3 at *
        refine wpAnyH_take (i := 0) (oi := { dst := some 114, op := Op.move (Operand.tmp 9), type := 73, pos := "law.go:211", after := #[], guard := none }) (v := .slice (some ⟨gl, 0, none⟩) N cap) rfl (by kernel_rfl) (by kernel_rfl) (by kernel_rfl) (fun _ _ _ h => h) (Or.inl ⟨by rfl, by intro w hSw; go_simp⟩) (by assumption) ?_
        simp only [Act.put, List.setIfInBounds_toArray, List.set_cons_zero, List.set_cons_succ]
        refine wpAnyH_take (i := 1) (oi := { dst := some 115, op := Op.move (Operand.tmp 12), type := 3, pos := "law.go:211", after := #[], guard := none }) (v := .int .i64 (i : Int)) rfl (by kernel_rfl) (by kernel_rfl) (by kernel_rfl) (fun _ _ _ h => h) (Or.inl ⟨by rfl, by intro w hSw; go_simp⟩) (by assumption) ?_
        simp only [Act.put, List.setIfInBounds_toArray, List.set_cons_zero, List.set_cons_succ]
        refine wpAnyH_take (i := 2) (oi := { dst := some 116, op := Op.move (Operand.tmp 9), type := 73, pos := "law.go:211", after := #[], guard := none }) (v := .slice (some ⟨gl, 0, none⟩) N cap) rfl (by kernel_rfl) (by kernel_rfl) (by kernel_rfl) (fun _ _ _ h => h) (Or.inl ⟨by rfl, by intro w hSw; go_simp⟩) (by assumption) ?_
        simp only [Act.put, List.setIfInBounds_toArray, List.set_cons_zero, List.set_cons_succ]
        refine wpAnyH_take (i := 3) (oi := { dst := some 117, op := Op.move (Operand.tmp 12), type := 3, pos := "law.go:211", after := #[], guard := none }) (v := .int .i64 (i : Int)) rfl (by kernel_rfl) (by kernel_rfl) (by kernel_rfl) (fun _ _ _ h => h) (Or.inl ⟨by rfl, by intro w hSw; go_simp⟩) (by assumption) ?_
        simp only [Act.put, List.setIfInBounds_toArray, List.set_cons_zero, List.set_cons_succ]
        refine wpAnyH_take (i := 4) (oi := { dst := some 118, op := Op.indexAddr 73 (Operand.tmp 116) (Operand.tmp 117), type := 0, pos := "law.go:211", after := #[{ on := 2, ground := Ground.data }, { on := 3, ground := Ground.data }], guard := none }) (v := .pointer (some ⟨gl, i * 2, none⟩)) rfl (by kernel_rfl) (by kernel_rfl) (by kernel_rfl) (fun _ _ _ h => h) (Or.inl ⟨by rfl, by intro w hSw; go_simp⟩) (by assumption) ?_
        simp only [Act.put, List.setIfInBounds_toArray, List.set_cons_zero, List.set_cons_succ]
        refine wpAnyH_take (i := 5) (oi := { dst := some 119, op := Op.fieldAddr 68 (Operand.tmp 118) 0, type := 0, pos := "law.go:211", after := #[{ on := 4, ground := Ground.data }], guard := none }) (v := .pointer (some ⟨gl, i * 2, none⟩)) rfl (by kernel_rfl) (by kernel_rfl) (by kernel_rfl) (fun _ _ _ h => h) (Or.inl ⟨by rfl, by intro w hSw; go_simp⟩) (by assumption) ?_
        simp only [Act.put, List.setIfInBounds_toArray, List.set_cons_zero, List.set_cons_succ]
        refine wpAnyH_take (i := 9) (oi := { dst := some 123, op := Op.move (Operand.tmp 9), type := 73, pos := "law.go:211", after := #[], guard := none }) (v := .slice (some ⟨gl, 0, none⟩) N cap) rfl (by kernel_rfl) (by kernel_rfl) (by kernel_rfl) (fun _ _ _ h => h) (Or.inl ⟨by rfl, by intro w hSw; go_simp⟩) (by assumption) ?_
        simp only [Act.put, List.setIfInBounds_toArray, List.set_cons_zero, List.set_cons_succ]
        refine wpAnyH_take (i := 10) (oi := { dst := some 124, op := Op.move (Operand.tmp 12), type := 3, pos := "law.go:211", after := #[], guard := none }) (v := .int .i64 (i : Int)) rfl (by kernel_rfl) (by kernel_rfl) (by kernel_rfl) (fun _ _ _ h => h) (Or.inl ⟨by rfl, by intro w hSw; go_simp⟩) (by assumption) ?_
        simp only [Act.put, List.setIfInBounds_toArray, List.set_cons_zero, List.set_cons_succ]
        refine wpAnyH_take (i := 11) (oi := { dst := some 125, op := Op.indexAddr 73 (Operand.tmp 123) (Operand.tmp 124), type := 0, pos := "law.go:211", after := #[{ on := 9, ground := Ground.data }, { on := 10, ground := Ground.data }], guard := none }) (v := .pointer (some ⟨gl, i * 2, none⟩)) rfl (by kernel_rfl) (by kernel_rfl) (by kernel_rfl) (fun _ _ _ h => h) (Or.inl ⟨by rfl, by intro w hSw; go_simp⟩) (by assumption) ?_
        simp only [Act.put, List.setIfInBounds_toArray, List.set_cons_zero, List.set_cons_succ]
        refine wpAnyH_take (i := 12) (oi := { dst := some 126, op := Op.fieldAddr 68 (Operand.tmp 125) 1, type := 0, pos := "law.go:211", after := #[{ on := 11, ground := Ground.data }], guard := none }) (v := .pointer (some ⟨gl, i * 2 + 1, none⟩)) rfl (by kernel_rfl) (by kernel_rfl) (by kernel_rfl) (fun _ _ _ h => h) (Or.inl ⟨by rfl, by intro w hSw; go_simp⟩) (by assumption) ?_
        simp only [Act.put, List.setIfInBounds_toArray, List.set_cons_zero, List.set_cons_succ]
        refine wpAnyH_ready (rs := [6, 13]) (by kernel_rfl) (by simp) (AllReadyH.cons (o := { dst := some 120, op := Op.load 23 (Operand.tmp 119), type := 23, pos := "law.go:211", after := #[{ on := 5, ground := Ground.data }], guard := none }) rfl (fun KQ hK => ?_) (AllReadyH.cons (o := { dst := some 127, op := Op.load 66 (Operand.tmp 126), type := 66, pos := "law.go:211", after := #[{ on := 12, ground := Ground.data }], guard := none }) rfl (fun KQ hK => ?_) AllReadyH.nil))
        · have z0 := (I3.out.cells HI.out HP.out).1
          go_simp
          clear z0
          refine hK.out _ _ K3.out (fun hHeld => ?_)
          clear hK KQ
          try simp only [Act.put, List.setIfInBounds_toArray, List.set_cons_zero, List.set_cons_succ]
          refine wpAnyH_ready (rs := [7, 13]) (by kernel_rfl) (by simp) (AllReadyH.cons (o := { dst := some 121, op := Op.call { callee := Callee.value (Operand.func 13), args := #[Operand.tmp 120], argTypes := #[23] }, type := 24, pos := "law.go:211", after := #[{ on := 6, ground := Ground.data }], guard := none }) rfl (fun KQ hK => ?_) (AllReadyH.cons (o := { dst := some 127, op := Op.load 66 (Operand.tmp 126), type := 66, pos := "law.go:211", after := #[{ on := 12, ground := Ground.data }], guard := none }) rfl (fun KQ hK => ?_) AllReadyH.nil))
          · go_simp
            refine (HMm.out _ p d (I3.out.mp.own i _ HP.out)).mono ?_
            rintro e wx ⟨rfl, hw⟩
            subst wx
            go_wp2_with fail
            refine hK.out _ _ K3.out (fun hHeld => ?_)
            clear hK KQ
            try simp only [Act.put, List.setIfInBounds_toArray, List.set_cons_zero, List.set_cons_succ]
            refine wpAnyH_ready (rs := [8, 13]) (by kernel_rfl) (by simp) (AllReadyH.cons (o := { dst := some 122, op := Op.call { callee := Callee.value (Operand.func 33), args := #[Operand.tmp 121], argTypes := #[24] }, type := 23, pos := "law.go:211", after := #[{ on := 7, ground := Ground.data }, { on := 7, ground := Ground.chain }], guard := none }) rfl (fun KQ hK => ?_) (AllReadyH.cons (o := { dst := some 127, op := Op.load 66 (Operand.tmp 126), type := 66, pos := "law.go:211", after := #[{ on := 12, ground := Ground.data }], guard := none }) rfl (fun KQ hK => ?_) AllReadyH.nil))
            · go_simp
              refine (HNw2.out _ (I3.out.mp.own i _ HP.out).mem).mono ?_
              rintro e w4 ⟨g4, gw4, rfl, hd, hg, hgw, hb⟩
              have D4 := hid (And.intro hd (And.intro hg (And.intro hgw hb)))
              have Z4 := hid (I3.out.mid1 HI.out HP.out hb)
              clear hd hg hgw hb
              go_wp2_with fail
              refine hK.out _ _ Z4.out.2.1 (fun hHeld => ?_)
              clear hK KQ
              try simp only [Act.put, List.setIfInBounds_toArray, List.set_cons_zero, List.set_cons_succ]
              refine wpAnyH_ready (rs := [13]) (by kernel_rfl) (by simp) (AllReadyH.cons (o := { dst := some 127, op := Op.load 66 (Operand.tmp 126), type := 66, pos := "law.go:211", after := #[{ on := 12, ground := Ground.data }], guard := none }) rfl (fun KQ hK => ?_) AllReadyH.nil)
              have z0 := Z4.out.1.2
              go_simp
              clear z0
              refine hK.out _ _ Z4.out.2.1 (fun hHeld => ?_)
              clear hK KQ
              try simp only [Act.put, List.setIfInBounds_toArray, List.set_cons_zero, List.set_cons_succ]
              refine wpAnyH_take (i := 14) (oi := { dst := some 128, op := Op.nilCheck (Operand.tmp 127), type := 0, pos := "law.go:211", after := #[{ on := 13, ground := Ground.data }], guard := none }) (v := .pointer (some ⟨r.g, 0, none⟩)) rfl (by kernel_rfl) (by kernel_rfl) (by kernel_rfl) (fun _ _ _ h => h) (Or.inl ⟨by rfl, by intro w hSw; go_simp⟩) (by assumption) ?_
              simp only [Act.put, List.setIfInBounds_toArray, List.set_cons_zero, List.set_cons_succ]
              refine wpAnyH_take (i := 15) (oi := { dst := some 129, op := Op.fieldAddr 80 (Operand.tmp 128) 0, type := 0, pos := "law.go:211", after := #[{ on := 14, ground := Ground.data }], guard := none }) (v := .pointer (some ⟨r.g, 0, none⟩)) rfl (by kernel_rfl) (by kernel_rfl) (by kernel_rfl) (fun _ _ _ h => h) (Or.inl ⟨by rfl, by intro w hSw; go_simp⟩) (by assumption) ?_
              simp only [Act.put, List.setIfInBounds_toArray, List.set_cons_zero, List.set_cons_succ]
              refine wpAnyH_take (i := 16) (oi := { dst := some 130, op := Op.load 77 (Operand.tmp 129), type := 77, pos := "law.go:211", after := #[{ on := 15, ground := Ground.data }], guard := none }) (v := .pointer (some ⟨r.r.g, 0, none⟩)) rfl (by kernel_rfl) (by kernel_rfl) (by kernel_rfl) (fun _ _ _ h => h) (Or.inl ⟨by rfl, by intro w hSw; have hc := hSw; go_simp⟩) (by assumption) ?_
              simp only [Act.put, List.setIfInBounds_toArray, List.set_cons_zero, List.set_cons_succ]
              refine wpAnyH_ready (rs := [17]) (by kernel_rfl) (by simp) (AllReadyH.cons (o := { dst := some 131, op := Op.call { callee := Callee.value (Operand.func 36), args := #[Operand.tmp 130], argTypes := #[77] }, type := 66, pos := "law.go:211", after := #[{ on := 16, ground := Ground.data }, { on := 8, ground := Ground.chain }], guard := none }) rfl (fun KQ hK => ?_) AllReadyH.nil)
              go_simp
              refine (HRn2.out _ Z4.out.2.2).mono ?_
              rintro e w5 ⟨q5, rfl, hn⟩
              have N5 := hid hn
              have Z5 := hid (I3.out.mid2 HI.out HP.out D4.out.2.2.2 hn)
              clear hn
              go_wp2_with fail
              refine hK.out _ _ Z5.out.2.1 (fun hHeld => ?_)
              clear hK KQ
              try simp only [Act.put, List.setIfInBounds_toArray, List.set_cons_zero, List.set_cons_succ]
              refine wpAnyH_take (i := 18) (oi := { dst := some 132, op := Op.build 68 #[(0, Operand.tmp 122), (1, Operand.tmp 131)], type := 68, pos := "law.go:211", after := #[{ on := 8, ground := Ground.data }, { on := 17, ground := Ground.data }], guard := none }) (v := .agg #[.pointer (some ⟨g4, 0, none⟩), .pointer (some ⟨q5.g, 0, none⟩)]) rfl (by kernel_rfl) (by kernel_rfl) (by kernel_rfl) (fun _ _ _ h => h) (Or.inl ⟨by rfl, by intro w hSw; go_simp⟩) (by assumption) ?_
              simp only [Act.put, List.setIfInBounds_toArray, List.set_cons_zero, List.set_cons_succ]
              refine wpAnyH_take (i := 19) (oi := { dst := some 133, op := Op.indexAddr 73 (Operand.tmp 114) (Operand.tmp 115), type := 0, pos := "law.go:211", after := #[{ on := 0, ground := Ground.data }, { on := 1, ground := Ground.data }, { on := 0, ground := Ground.phase }, { on := 1, ground := Ground.phase }, { on := 2, ground := Ground.phase }, { on := 3, ground := Ground.phase }, { on := 4, ground := Ground.phase }, { on := 5, ground := Ground.phase }, { on := 6, ground := Ground.phase }, { on := 7, ground := Ground.phase }, { on := 8, ground := Ground.phase }, { on := 9, ground := Ground.phase }, { on := 10, ground := Ground.phase }, { on := 11, ground := Ground.phase }, { on := 12, ground := Ground.phase }, { on := 13, ground := Ground.phase }, { on := 14, ground := Ground.phase }, { on := 15, ground := Ground.phase }, { on := 16, ground := Ground.phase }, { on := 17, ground := Ground.phase }, { on := 18, ground := Ground.phase }], guard := none }) (v := .pointer (some ⟨gl, i * 2, none⟩)) rfl (by kernel_rfl) (by kernel_rfl) (by kernel_rfl) (fun _ _ _ h => h) (Or.inl ⟨by rfl, by intro w hSw; go_simp⟩) (by assumption) ?_
              simp only [Act.put, List.setIfInBounds_toArray, List.set_cons_zero, List.set_cons_succ]
              refine wpAnyH_ready (rs := [20]) (by kernel_rfl) (by simp) (AllReadyH.cons (o := { dst := none, op := Op.store 68 (Operand.tmp 133) (Operand.tmp 132), type := 0, pos := "law.go:211", after := #[{ on := 19, ground := Ground.data }, { on := 18, ground := Ground.data }, { on := 17, ground := Ground.chain }, { on := 0, ground := Ground.phase }, { on := 1, ground := Ground.phase }, { on := 2, ground := Ground.phase }, { on := 3, ground := Ground.phase }, { on := 4, ground := Ground.phase }, { on := 5, ground := Ground.phase }, { on := 6, ground := Ground.phase }, { on := 7, ground := Ground.phase }, { on := 8, ground := Ground.phase }, { on := 9, ground := Ground.phase }, { on := 10, ground := Ground.phase }, { on := 11, ground := Ground.phase }, { on := 12, ground := Ground.phase }, { on := 13, ground := Ground.phase }, { on := 14, ground := Ground.phase }, { on := 15, ground := Ground.phase }, { on := 16, ground := Ground.phase }, { on := 17, ground := Ground.phase }, { on := 18, ground := Ground.phase }], guard := none }) rfl (fun KQ hK => ?_) AllReadyH.nil)
              obtain ⟨z0, z1⟩ := Z5.out.1
              have f0 := Z5.out.2.2.1 (i * 2)
              have f1 := Z5.out.2.2.1 (i * 2 + 1)
              go_simp
              have I6 := hid (I3.out.again i HI.out HP.out D4.out.1 D4.out.2.1 D4.out.2.2.1 D4.out.2.2.2 N5.out HNf.out)
              simp only [ptr] at I6
              clear z0 z1 f0 f1
              refine hK.out _ _ (Z5.out.2.2.2 _ _) (fun hHeld => ?_)
              clear hK KQ
              try simp only [Act.put]
              refine wpAnyH_done (by kernel_rfl) ?_ _
              clear I3 D4 Z4 Z5 N5
              generalize World.setCell _ _ _ = w6 at *
              obtain ⟨z0, z1⟩ := I6.out.cells HI.out (set_at HP.out)
              obtain ⟨x0, x1⟩ := I6.out.nx
              go_wp2_with fail
              go_roundw
              case measure => have := HJ.out; simp [intOf] <;> omega
              case rel => exact ⟨j + 1, Ps.set i (⟨g4, gw4, p.f⟩, q5, e2), gl, cap, HJ.out, by simp, by rw [show (Ps.set i (⟨g4, gw4, p.f⟩, q5, e2)).length = N by rw [List.length_set]; exact HL.out.1], hid (by rw [show (Ps.set i (⟨g4, gw4, p.f⟩, q5, e2)).length = N by rw [List.length_set]; exact HL.out.1]; exact ⟨I6.out.mp, HL.out.2⟩)⟩
            · have z0 := (I3.out.cells HI.out HP.out).2
              go_simp
              clear z0
              refine hK.out _ _ K3.out (fun hHeld => ?_)
              clear hK KQ
              try simp only [Act.put, List.setIfInBounds_toArray, List.set_cons_zero, List.set_cons_succ]
              refine wpAnyH_take (i := 14) (oi := { dst := some 128, op := Op.nilCheck (Operand.tmp 127), type := 0, pos := "law.go:211", after := #[{ on := 13, ground := Ground.data }], guard := none }) (v := .pointer (some ⟨r.g, 0, none⟩)) rfl (by kernel_rfl) (by kernel_rfl) (by kernel_rfl) (fun _ _ _ h => h) (Or.inl ⟨by rfl, by intro w hSw; go_simp⟩) (by assumption) ?_
              simp only [Act.put, List.setIfInBounds_toArray, List.set_cons_zero, List.set_cons_succ]
              refine wpAnyH_take (i := 15) (oi := { dst := some 129, op := Op.fieldAddr 80 (Operand.tmp 128) 0, type := 0, pos := "law.go:211", after := #[{ on := 14, ground := Ground.data }], guard := none }) (v := .pointer (some ⟨r.g, 0, none⟩)) rfl (by kernel_rfl) (by kernel_rfl) (by kernel_rfl) (fun _ _ _ h => h) (Or.inl ⟨by rfl, by intro w hSw; go_simp⟩) (by assumption) ?_
              simp only [Act.put, List.setIfInBounds_toArray, List.set_cons_zero, List.set_cons_succ]
              refine wpAnyH_take (i := 16) (oi := { dst := some 130, op := Op.load 77 (Operand.tmp 129), type := 77, pos := "law.go:211", after := #[{ on := 15, ground := Ground.data }], guard := none }) (v := .pointer (some ⟨r.r.g, 0, none⟩)) rfl (by kernel_rfl) (by kernel_rfl) (by kernel_rfl) (fun _ _ _ h => h) (Or.inl ⟨by rfl, by intro w hSw; have hc := hSw; go_simp⟩) (by assumption) ?_
              simp only [Act.put, List.setIfInBounds_toArray, List.set_cons_zero, List.set_cons_succ]
              refine wpAnyH_ready (rs := [8]) (by kernel_rfl) (by simp) (AllReadyH.cons (o := { dst := some 122, op := Op.call { callee := Callee.value (Operand.func 33), args := #[Operand.tmp 121], argTypes := #[24] }, type := 23, pos := "law.go:211", after := #[{ on := 7, ground := Ground.data }, { on := 7, ground := Ground.chain }], guard := none }) rfl (fun KQ hK => ?_) AllReadyH.nil)
              go_simp
              refine (HNw2.out _ (I3.out.mp.own i _ HP.out).mem).mono ?_
              rintro e w4 ⟨g4, gw4, rfl, hd, hg, hgw, hb⟩
              have D4 := hid (And.intro hd (And.intro hg (And.intro hgw hb)))
              have Z4 := hid (I3.out.mid1 HI.out HP.out hb)
              clear hd hg hgw hb
              go_wp2_with fail
              refine hK.out _ _ Z4.out.2.1 (fun hHeld => ?_)
              clear hK KQ
              try simp only [Act.put, List.setIfInBounds_toArray, List.set_cons_zero, List.set_cons_succ]
              refine wpAnyH_ready (rs := [17]) (by kernel_rfl) (by simp) (AllReadyH.cons (o := { dst := some 131, op := Op.call { callee := Callee.value (Operand.func 36), args := #[Operand.tmp 130], argTypes := #[77] }, type := 66, pos := "law.go:211", after := #[{ on := 16, ground := Ground.data }, { on := 8, ground := Ground.chain }], guard := none }) rfl (fun KQ hK => ?_) AllReadyH.nil)
              go_simp
              refine (HRn2.out _ Z4.out.2.2).mono ?_
              rintro e w5 ⟨q5, rfl, hn⟩
              have N5 := hid hn
              have Z5 := hid (I3.out.mid2 HI.out HP.out D4.out.2.2.2 hn)
              clear hn
              go_wp2_with fail
              refine hK.out _ _ Z5.out.2.1 (fun hHeld => ?_)
              clear hK KQ
              try simp only [Act.put, List.setIfInBounds_toArray, List.set_cons_zero, List.set_cons_succ]
              refine wpAnyH_take (i := 18) (oi := { dst := some 132, op := Op.build 68 #[(0, Operand.tmp 122), (1, Operand.tmp 131)], type := 68, pos := "law.go:211", after := #[{ on := 8, ground := Ground.data }, { on := 17, ground := Ground.data }], guard := none }) (v := .agg #[.pointer (some ⟨g4, 0, none⟩), .pointer (some ⟨q5.g, 0, none⟩)]) rfl (by kernel_rfl) (by kernel_rfl) (by kernel_rfl) (fun _ _ _ h => h) (Or.inl ⟨by rfl, by intro w hSw; go_simp⟩) (by assumption) ?_
              simp only [Act.put, List.setIfInBounds_toArray, List.set_cons_zero, List.set_cons_succ]
              refine wpAnyH_take (i := 19) (oi := { dst := some 133, op := Op.indexAddr 73 (Operand.tmp 114) (Operand.tmp 115), type := 0, pos := "law.go:211", after := #[{ on := 0, ground := Ground.data }, { on := 1, ground := Ground.data }, { on := 0, ground := Ground.phase }, { on := 1, ground := Ground.phase }, { on := 2, ground := Ground.phase }, { on := 3, ground := Ground.phase }, { on := 4, ground := Ground.phase }, { on := 5, ground := Ground.phase }, { on := 6, ground := Ground.phase }, { on := 7, ground := Ground.phase }, { on := 8, ground := Ground.phase }, { on := 9, ground := Ground.phase }, { on := 10, ground := Ground.phase }, { on := 11, ground := Ground.phase }, { on := 12, ground := Ground.phase }, { on := 13, ground := Ground.phase }, { on := 14, ground := Ground.phase }, { on := 15, ground := Ground.phase }, { on := 16, ground := Ground.phase }, { on := 17, ground := Ground.phase }, { on := 18, ground := Ground.phase }], guard := none }) (v := .pointer (some ⟨gl, i * 2, none⟩)) rfl (by kernel_rfl) (by kernel_rfl) (by kernel_rfl) (fun _ _ _ h => h) (Or.inl ⟨by rfl, by intro w hSw; go_simp⟩) (by assumption) ?_
              simp only [Act.put, List.setIfInBounds_toArray, List.set_cons_zero, List.set_cons_succ]
              refine wpAnyH_ready (rs := [20]) (by kernel_rfl) (by simp) (AllReadyH.cons (o := { dst := none, op := Op.store 68 (Operand.tmp 133) (Operand.tmp 132), type := 0, pos := "law.go:211", after := #[{ on := 19, ground := Ground.data }, { on := 18, ground := Ground.data }, { on := 17, ground := Ground.chain }, { on := 0, ground := Ground.phase }, { on := 1, ground := Ground.phase }, { on := 2, ground := Ground.phase }, { on := 3, ground := Ground.phase }, { on := 4, ground := Ground.phase }, { on := 5, ground := Ground.phase }, { on := 6, ground := Ground.phase }, { on := 7, ground := Ground.phase }, { on := 8, ground := Ground.phase }, { on := 9, ground := Ground.phase }, { on := 10, ground := Ground.phase }, { on := 11, ground := Ground.phase }, { on := 12, ground := Ground.phase }, { on := 13, ground := Ground.phase }, { on := 14, ground := Ground.phase }, { on := 15, ground := Ground.phase }, { on := 16, ground := Ground.phase }, { on := 17, ground := Ground.phase }, { on := 18, ground := Ground.phase }], guard := none }) rfl (fun KQ hK => ?_) AllReadyH.nil)
              obtain ⟨z0, z1⟩ := Z5.out.1
              have f0 := Z5.out.2.2.1 (i * 2)
              have f1 := Z5.out.2.2.1 (i * 2 + 1)
              go_simp
              have I6 := hid (I3.out.again i HI.out HP.out D4.out.1 D4.out.2.1 D4.out.2.2.1 D4.out.2.2.2 N5.out HNf.out)
              simp only [ptr] at I6
              clear z0 z1 f0 f1
              refine hK.out _ _ (Z5.out.2.2.2 _ _) (fun hHeld => ?_)
              clear hK KQ
              try simp only [Act.put]
              refine wpAnyH_done (by kernel_rfl) ?_ _
              clear I3 D4 Z4 Z5 N5
              generalize World.setCell _ _ _ = w6 at *
              obtain ⟨z0, z1⟩ := I6.out.cells HI.out (set_at HP.out)
              obtain ⟨x0, x1⟩ := I6.out.nx
              go_wp2_with fail
              go_roundw
              case measure => have := HJ.out; simp [intOf] <;> omega
              case rel => exact ⟨j + 1, Ps.set i (⟨g4, gw4, p.f⟩, q5, e2), gl, cap, HJ.out, by simp, by rw [show (Ps.set i (⟨g4, gw4, p.f⟩, q5, e2)).length = N by rw [List.length_set]; exact HL.out.1], hid (by rw [show (Ps.set i (⟨g4, gw4, p.f⟩, q5, e2)).length = N by rw [List.length_set]; exact HL.out.1]; exact ⟨I6.out.mp, HL.out.2⟩)⟩
          · have z0 := (I3.out.cells HI.out HP.out).2
            go_simp
            clear z0
            refine hK.out _ _ K3.out (fun hHeld => ?_)
            clear hK KQ
            try simp only [Act.put, List.setIfInBounds_toArray, List.set_cons_zero, List.set_cons_succ]
            refine wpAnyH_take (i := 14) (oi := { dst := some 128, op := Op.nilCheck (Operand.tmp 127), type := 0, pos := "law.go:211", after := #[{ on := 13, ground := Ground.data }], guard := none }) (v := .pointer (some ⟨r.g, 0, none⟩)) rfl (by kernel_rfl) (by kernel_rfl) (by kernel_rfl) (fun _ _ _ h => h) (Or.inl ⟨by rfl, by intro w hSw; go_simp⟩) (by assumption) ?_
            simp only [Act.put, List.setIfInBounds_toArray, List.set_cons_zero, List.set_cons_succ]
            refine wpAnyH_take (i := 15) (oi := { dst := some 129, op := Op.fieldAddr 80 (Operand.tmp 128) 0, type := 0, pos := "law.go:211", after := #[{ on := 14, ground := Ground.data }], guard := none }) (v := .pointer (some ⟨r.g, 0, none⟩)) rfl (by kernel_rfl) (by kernel_rfl) (by kernel_rfl) (fun _ _ _ h => h) (Or.inl ⟨by rfl, by intro w hSw; go_simp⟩) (by assumption) ?_
            simp only [Act.put, List.setIfInBounds_toArray, List.set_cons_zero, List.set_cons_succ]
            refine wpAnyH_take (i := 16) (oi := { dst := some 130, op := Op.load 77 (Operand.tmp 129), type := 77, pos := "law.go:211", after := #[{ on := 15, ground := Ground.data }], guard := none }) (v := .pointer (some ⟨r.r.g, 0, none⟩)) rfl (by kernel_rfl) (by kernel_rfl) (by kernel_rfl) (fun _ _ _ h => h) (Or.inl ⟨by rfl, by intro w hSw; have hc := hSw; go_simp⟩) (by assumption) ?_
            simp only [Act.put, List.setIfInBounds_toArray, List.set_cons_zero, List.set_cons_succ]
            refine wpAnyH_ready (rs := [7]) (by kernel_rfl) (by simp) (AllReadyH.cons (o := { dst := some 121, op := Op.call { callee := Callee.value (Operand.func 13), args := #[Operand.tmp 120], argTypes := #[23] }, type := 24, pos := "law.go:211", after := #[{ on := 6, ground := Ground.data }], guard := none }) rfl (fun KQ hK => ?_) AllReadyH.nil)
            go_simp
            refine (HMm.out _ p d (I3.out.mp.own i _ HP.out)).mono ?_
            rintro e wx ⟨rfl, hw⟩
            subst wx
            go_wp2_with fail
            refine hK.out _ _ K3.out (fun hHeld => ?_)
            clear hK KQ
            try simp only [Act.put, List.setIfInBounds_toArray, List.set_cons_zero, List.set_cons_succ]
            refine wpAnyH_ready (rs := [8]) (by kernel_rfl) (by simp) (AllReadyH.cons (o := { dst := some 122, op := Op.call { callee := Callee.value (Operand.func 33), args := #[Operand.tmp 121], argTypes := #[24] }, type := 23, pos := "law.go:211", after := #[{ on := 7, ground := Ground.data }, { on := 7, ground := Ground.chain }], guard := none }) rfl (fun KQ hK => ?_) AllReadyH.nil)
            go_simp
            refine (HNw2.out _ (I3.out.mp.own i _ HP.out).mem).mono ?_
            rintro e w4 ⟨g4, gw4, rfl, hd, hg, hgw, hb⟩
            have D4 := hid (And.intro hd (And.intro hg (And.intro hgw hb)))
            have Z4 := hid (I3.out.mid1 HI.out HP.out hb)
            clear hd hg hgw hb
            go_wp2_with fail
            refine hK.out _ _ Z4.out.2.1 (fun hHeld => ?_)
            clear hK KQ
            try simp only [Act.put, List.setIfInBounds_toArray, List.set_cons_zero, List.set_cons_succ]
            refine wpAnyH_ready (rs := [17]) (by kernel_rfl) (by simp) (AllReadyH.cons (o := { dst := some 131, op := Op.call { callee := Callee.value (Operand.func 36), args := #[Operand.tmp 130], argTypes := #[77] }, type := 66, pos := "law.go:211", after := #[{ on := 16, ground := Ground.data }, { on := 8, ground := Ground.chain }], guard := none }) rfl (fun KQ hK => ?_) AllReadyH.nil)
            go_simp
            refine (HRn2.out _ Z4.out.2.2).mono ?_
            rintro e w5 ⟨q5, rfl, hn⟩
            have N5 := hid hn
            have Z5 := hid (I3.out.mid2 HI.out HP.out D4.out.2.2.2 hn)
            clear hn
            go_wp2_with fail
            refine hK.out _ _ Z5.out.2.1 (fun hHeld => ?_)
            clear hK KQ
            try simp only [Act.put, List.setIfInBounds_toArray, List.set_cons_zero, List.set_cons_succ]
            refine wpAnyH_take (i := 18) (oi := { dst := some 132, op := Op.build 68 #[(0, Operand.tmp 122), (1, Operand.tmp 131)], type := 68, pos := "law.go:211", after := #[{ on := 8, ground := Ground.data }, { on := 17, ground := Ground.data }], guard := none }) (v := .agg #[.pointer (some ⟨g4, 0, none⟩), .pointer (some ⟨q5.g, 0, none⟩)]) rfl (by kernel_rfl) (by kernel_rfl) (by kernel_rfl) (fun _ _ _ h => h) (Or.inl ⟨by rfl, by intro w hSw; go_simp⟩) (by assumption) ?_
            simp only [Act.put, List.setIfInBounds_toArray, List.set_cons_zero, List.set_cons_succ]
            refine wpAnyH_take (i := 19) (oi := { dst := some 133, op := Op.indexAddr 73 (Operand.tmp 114) (Operand.tmp 115), type := 0, pos := "law.go:211", after := #[{ on := 0, ground := Ground.data }, { on := 1, ground := Ground.data }, { on := 0, ground := Ground.phase }, { on := 1, ground := Ground.phase }, { on := 2, ground := Ground.phase }, { on := 3, ground := Ground.phase }, { on := 4, ground := Ground.phase }, { on := 5, ground := Ground.phase }, { on := 6, ground := Ground.phase }, { on := 7, ground := Ground.phase }, { on := 8, ground := Ground.phase }, { on := 9, ground := Ground.phase }, { on := 10, ground := Ground.phase }, { on := 11, ground := Ground.phase }, { on := 12, ground := Ground.phase }, { on := 13, ground := Ground.phase }, { on := 14, ground := Ground.phase }, { on := 15, ground := Ground.phase }, { on := 16, ground := Ground.phase }, { on := 17, ground := Ground.phase }, { on := 18, ground := Ground.phase }], guard := none }) (v := .pointer (some ⟨gl, i * 2, none⟩)) rfl (by kernel_rfl) (by kernel_rfl) (by kernel_rfl) (fun _ _ _ h => h) (Or.inl ⟨by rfl, by intro w hSw; go_simp⟩) (by assumption) ?_
            simp only [Act.put, List.setIfInBounds_toArray, List.set_cons_zero, List.set_cons_succ]
            refine wpAnyH_ready (rs := [20]) (by kernel_rfl) (by simp) (AllReadyH.cons (o := { dst := none, op := Op.store 68 (Operand.tmp 133) (Operand.tmp 132), type := 0, pos := "law.go:211", after := #[{ on := 19, ground := Ground.data }, { on := 18, ground := Ground.data }, { on := 17, ground := Ground.chain }, { on := 0, ground := Ground.phase }, { on := 1, ground := Ground.phase }, { on := 2, ground := Ground.phase }, { on := 3, ground := Ground.phase }, { on := 4, ground := Ground.phase }, { on := 5, ground := Ground.phase }, { on := 6, ground := Ground.phase }, { on := 7, ground := Ground.phase }, { on := 8, ground := Ground.phase }, { on := 9, ground := Ground.phase }, { on := 10, ground := Ground.phase }, { on := 11, ground := Ground.phase }, { on := 12, ground := Ground.phase }, { on := 13, ground := Ground.phase }, { on := 14, ground := Ground.phase }, { on := 15, ground := Ground.phase }, { on := 16, ground := Ground.phase }, { on := 17, ground := Ground.phase }, { on := 18, ground := Ground.phase }], guard := none }) rfl (fun KQ hK => ?_) AllReadyH.nil)
            obtain ⟨z0, z1⟩ := Z5.out.1
            have f0 := Z5.out.2.2.1 (i * 2)
            have f1 := Z5.out.2.2.1 (i * 2 + 1)
            go_simp
            have I6 := hid (I3.out.again i HI.out HP.out D4.out.1 D4.out.2.1 D4.out.2.2.1 D4.out.2.2.2 N5.out HNf.out)
            simp only [ptr] at I6
            clear z0 z1 f0 f1
            refine hK.out _ _ (Z5.out.2.2.2 _ _) (fun hHeld => ?_)
            clear hK KQ
            try simp only [Act.put]
            refine wpAnyH_done (by kernel_rfl) ?_ _
            clear I3 D4 Z4 Z5 N5
            generalize World.setCell _ _ _ = w6 at *
            obtain ⟨z0, z1⟩ := I6.out.cells HI.out (set_at HP.out)
            obtain ⟨x0, x1⟩ := I6.out.nx
            go_wp2_with fail
            go_roundw
            case measure => have := HJ.out; simp [intOf] <;> omega
            case rel => exact ⟨j + 1, Ps.set i (⟨g4, gw4, p.f⟩, q5, e2), gl, cap, HJ.out, by simp, by rw [show (Ps.set i (⟨g4, gw4, p.f⟩, q5, e2)).length = N by rw [List.length_set]; exact HL.out.1], hid (by rw [show (Ps.set i (⟨g4, gw4, p.f⟩, q5, e2)).length = N by rw [List.length_set]; exact HL.out.1]; exact ⟨I6.out.mp, HL.out.2⟩)⟩
        · have z0 := (I3.out.cells HI.out HP.out).2
          go_simp
          clear z0
          refine hK.out _ _ K3.out (fun hHeld => ?_)
          clear hK KQ
          try simp only [Act.put, List.setIfInBounds_toArray, List.set_cons_zero, List.set_cons_succ]
          refine wpAnyH_take (i := 14) (oi := { dst := some 128, op := Op.nilCheck (Operand.tmp 127), type := 0, pos := "law.go:211", after := #[{ on := 13, ground := Ground.data }], guard := none }) (v := .pointer (some ⟨r.g, 0, none⟩)) rfl (by kernel_rfl) (by kernel_rfl) (by kernel_rfl) (fun _ _ _ h => h) (Or.inl ⟨by rfl, by intro w hSw; go_simp⟩) (by assumption) ?_
          simp only [Act.put, List.setIfInBounds_toArray, List.set_cons_zero, List.set_cons_succ]
          refine wpAnyH_take (i := 15) (oi := { dst := some 129, op := Op.fieldAddr 80 (Operand.tmp 128) 0, type := 0, pos := "law.go:211", after := #[{ on := 14, ground := Ground.data }], guard := none }) (v := .pointer (some ⟨r.g, 0, none⟩)) rfl (by kernel_rfl) (by kernel_rfl) (by kernel_rfl) (fun _ _ _ h => h) (Or.inl ⟨by rfl, by intro w hSw; go_simp⟩) (by assumption) ?_
          simp only [Act.put, List.setIfInBounds_toArray, List.set_cons_zero, List.set_cons_succ]
          refine wpAnyH_take (i := 16) (oi := { dst := some 130, op := Op.load 77 (Operand.tmp 129), type := 77, pos := "law.go:211", after := #[{ on := 15, ground := Ground.data }], guard := none }) (v := .pointer (some ⟨r.r.g, 0, none⟩)) rfl (by kernel_rfl) (by kernel_rfl) (by kernel_rfl) (fun _ _ _ h => h) (Or.inl ⟨by rfl, by intro w hSw; have hc := hSw; go_simp⟩) (by assumption) ?_
          simp only [Act.put, List.setIfInBounds_toArray, List.set_cons_zero, List.set_cons_succ]
          refine wpAnyH_ready (rs := [6]) (by kernel_rfl) (by simp) (AllReadyH.cons (o := { dst := some 120, op := Op.load 23 (Operand.tmp 119), type := 23, pos := "law.go:211", after := #[{ on := 5, ground := Ground.data }], guard := none }) rfl (fun KQ hK => ?_) AllReadyH.nil)
          have z0 := (I3.out.cells HI.out HP.out).1
          go_simp
          clear z0
          refine hK.out _ _ K3.out (fun hHeld => ?_)
          clear hK KQ
          try simp only [Act.put, List.setIfInBounds_toArray, List.set_cons_zero, List.set_cons_succ]
          refine wpAnyH_ready (rs := [7]) (by kernel_rfl) (by simp) (AllReadyH.cons (o := { dst := some 121, op := Op.call { callee := Callee.value (Operand.func 13), args := #[Operand.tmp 120], argTypes := #[23] }, type := 24, pos := "law.go:211", after := #[{ on := 6, ground := Ground.data }], guard := none }) rfl (fun KQ hK => ?_) AllReadyH.nil)
          go_simp
          refine (HMm.out _ p d (I3.out.mp.own i _ HP.out)).mono ?_
          rintro e wx ⟨rfl, hw⟩
          subst wx
          go_wp2_with fail
          refine hK.out _ _ K3.out (fun hHeld => ?_)
          clear hK KQ
          try simp only [Act.put, List.setIfInBounds_toArray, List.set_cons_zero, List.set_cons_succ]
          refine wpAnyH_ready (rs := [8]) (by kernel_rfl) (by simp) (AllReadyH.cons (o := { dst := some 122, op := Op.call { callee := Callee.value (Operand.func 33), args := #[Operand.tmp 121], argTypes := #[24] }, type := 23, pos := "law.go:211", after := #[{ on := 7, ground := Ground.data }, { on := 7, ground := Ground.chain }], guard := none }) rfl (fun KQ hK => ?_) AllReadyH.nil)
          go_simp
          refine (HNw2.out _ (I3.out.mp.own i _ HP.out).mem).mono ?_
          rintro e w4 ⟨g4, gw4, rfl, hd, hg, hgw, hb⟩
          have D4 := hid (And.intro hd (And.intro hg (And.intro hgw hb)))
          have Z4 := hid (I3.out.mid1 HI.out HP.out hb)
          clear hd hg hgw hb
          go_wp2_with fail
          refine hK.out _ _ Z4.out.2.1 (fun hHeld => ?_)
          clear hK KQ
          try simp only [Act.put, List.setIfInBounds_toArray, List.set_cons_zero, List.set_cons_succ]
          refine wpAnyH_ready (rs := [17]) (by kernel_rfl) (by simp) (AllReadyH.cons (o := { dst := some 131, op := Op.call { callee := Callee.value (Operand.func 36), args := #[Operand.tmp 130], argTypes := #[77] }, type := 66, pos := "law.go:211", after := #[{ on := 16, ground := Ground.data }, { on := 8, ground := Ground.chain }], guard := none }) rfl (fun KQ hK => ?_) AllReadyH.nil)
          go_simp
          refine (HRn2.out _ Z4.out.2.2).mono ?_
          rintro e w5 ⟨q5, rfl, hn⟩
          have N5 := hid hn
          have Z5 := hid (I3.out.mid2 HI.out HP.out D4.out.2.2.2 hn)
          clear hn
          go_wp2_with fail
          refine hK.out _ _ Z5.out.2.1 (fun hHeld => ?_)
          clear hK KQ
          try simp only [Act.put, List.setIfInBounds_toArray, List.set_cons_zero, List.set_cons_succ]
          refine wpAnyH_take (i := 18) (oi := { dst := some 132, op := Op.build 68 #[(0, Operand.tmp 122), (1, Operand.tmp 131)], type := 68, pos := "law.go:211", after := #[{ on := 8, ground := Ground.data }, { on := 17, ground := Ground.data }], guard := none }) (v := .agg #[.pointer (some ⟨g4, 0, none⟩), .pointer (some ⟨q5.g, 0, none⟩)]) rfl (by kernel_rfl) (by kernel_rfl) (by kernel_rfl) (fun _ _ _ h => h) (Or.inl ⟨by rfl, by intro w hSw; go_simp⟩) (by assumption) ?_
          simp only [Act.put, List.setIfInBounds_toArray, List.set_cons_zero, List.set_cons_succ]
          refine wpAnyH_take (i := 19) (oi := { dst := some 133, op := Op.indexAddr 73 (Operand.tmp 114) (Operand.tmp 115), type := 0, pos := "law.go:211", after := #[{ on := 0, ground := Ground.data }, { on := 1, ground := Ground.data }, { on := 0, ground := Ground.phase }, { on := 1, ground := Ground.phase }, { on := 2, ground := Ground.phase }, { on := 3, ground := Ground.phase }, { on := 4, ground := Ground.phase }, { on := 5, ground := Ground.phase }, { on := 6, ground := Ground.phase }, { on := 7, ground := Ground.phase }, { on := 8, ground := Ground.phase }, { on := 9, ground := Ground.phase }, { on := 10, ground := Ground.phase }, { on := 11, ground := Ground.phase }, { on := 12, ground := Ground.phase }, { on := 13, ground := Ground.phase }, { on := 14, ground := Ground.phase }, { on := 15, ground := Ground.phase }, { on := 16, ground := Ground.phase }, { on := 17, ground := Ground.phase }, { on := 18, ground := Ground.phase }], guard := none }) (v := .pointer (some ⟨gl, i * 2, none⟩)) rfl (by kernel_rfl) (by kernel_rfl) (by kernel_rfl) (fun _ _ _ h => h) (Or.inl ⟨by rfl, by intro w hSw; go_simp⟩) (by assumption) ?_
          simp only [Act.put, List.setIfInBounds_toArray, List.set_cons_zero, List.set_cons_succ]
          refine wpAnyH_ready (rs := [20]) (by kernel_rfl) (by simp) (AllReadyH.cons (o := { dst := none, op := Op.store 68 (Operand.tmp 133) (Operand.tmp 132), type := 0, pos := "law.go:211", after := #[{ on := 19, ground := Ground.data }, { on := 18, ground := Ground.data }, { on := 17, ground := Ground.chain }, { on := 0, ground := Ground.phase }, { on := 1, ground := Ground.phase }, { on := 2, ground := Ground.phase }, { on := 3, ground := Ground.phase }, { on := 4, ground := Ground.phase }, { on := 5, ground := Ground.phase }, { on := 6, ground := Ground.phase }, { on := 7, ground := Ground.phase }, { on := 8, ground := Ground.phase }, { on := 9, ground := Ground.phase }, { on := 10, ground := Ground.phase }, { on := 11, ground := Ground.phase }, { on := 12, ground := Ground.phase }, { on := 13, ground := Ground.phase }, { on := 14, ground := Ground.phase }, { on := 15, ground := Ground.phase }, { on := 16, ground := Ground.phase }, { on := 17, ground := Ground.phase }, { on := 18, ground := Ground.phase }], guard := none }) rfl (fun KQ hK => ?_) AllReadyH.nil)
          obtain ⟨z0, z1⟩ := Z5.out.1
          have f0 := Z5.out.2.2.1 (i * 2)
          have f1 := Z5.out.2.2.1 (i * 2 + 1)
          go_simp
          have I6 := hid (I3.out.again i HI.out HP.out D4.out.1 D4.out.2.1 D4.out.2.2.1 D4.out.2.2.2 N5.out HNf.out)
          simp only [ptr] at I6
          clear z0 z1 f0 f1
          refine hK.out _ _ (Z5.out.2.2.2 _ _) (fun hHeld => ?_)
          clear hK KQ
          try simp only [Act.put]
          refine wpAnyH_done (by kernel_rfl) ?_ _
          clear I3 D4 Z4 Z5 N5
          generalize World.setCell _ _ _ = w6 at *
          obtain ⟨z0, z1⟩ := I6.out.cells HI.out (set_at HP.out)
          obtain ⟨x0, x1⟩ := I6.out.nx
          go_wp2_with fail
          go_roundw
          case measure => have := HJ.out; simp [intOf] <;> omega
          case rel => exact ⟨j + 1, Ps.set i (⟨g4, gw4, p.f⟩, q5, e2), gl, cap, HJ.out, by simp, by rw [show (Ps.set i (⟨g4, gw4, p.f⟩, q5, e2)).length = N by rw [List.length_set]; exact HL.out.1], hid (by rw [show (Ps.set i (⟨g4, gw4, p.f⟩, q5, e2)).length = N by rw [List.length_set]; exact HL.out.1]; exact ⟨I6.out.mp, HL.out.2⟩)⟩
      have k10 : (k == 10) = false := by simpa using hk10
      have k11 : (k == 11) = false := by simpa using hk11
      have k12 : (k == 12) = false := by simpa using hk12
      have k13 : (k == 13) = false := by simpa using hk13
      go_upto_region 14 with fail
      have I3 := hid (I2.out.on (Below.refl _ _).drew)
      clear I2 y0
      have HSt2 := hid (fun w h h1 h2 => HSt.out w p r d h h1 h2 ⟨k, dd, a, b, t, on, off2, v⟩)
      have HNs : Hid ((d.step ⟨k, dd, a, b, t, on, off2, v⟩).m.ns = d.m.ns) := hid (DS.step_ns _ _)
      generalize d.step ⟨k, dd, a, b, t, on, off2, v⟩ = d2 at *
      simp only [Oq.val, Oq.cs] at HSt2
      refine wp_region_held_drew (S := fun w => w.rangeAt gl (i * 2) [.pointer (some ⟨p.g, 0, none⟩), .pointer (some ⟨r.g, 0, none⟩)] ∧ Cel w g11 29 [.int .i64 k, .int .i64 dd, .int .i64 a, .int .i64 b, .int .i64 t, .bool on, .int .i64 off2, .int .u32 v]) (by kernel_rfl) (I3.out.rng HI.out HP.out) (fun hHeld => ?_)
      generalize World.drew _ = w3 at *
      refine wpAnyH_take (i := 0) (oi := { dst := some 65, op := Op.move (Operand.tmp 9), type := 73, pos := "law.go:214", after := #[], guard := none }) (v := .slice (some ⟨gl, 0, none⟩) N cap) rfl (by kernel_rfl) (by kernel_rfl) (by kernel_rfl) (fun _ _ _ h => h) (Or.inl ⟨by rfl, by intro w hSw; go_simp⟩) (by assumption) ?_
      simp only [Act.put, List.setIfInBounds_toArray, List.set_cons_zero, List.set_cons_succ]
      refine wpAnyH_take (i := 1) (oi := { dst := some 66, op := Op.move (Operand.tmp 12), type := 3, pos := "law.go:214", after := #[], guard := none }) (v := .int .i64 (i : Int)) rfl (by kernel_rfl) (by kernel_rfl) (by kernel_rfl) (fun _ _ _ h => h) (Or.inl ⟨by rfl, by intro w hSw; go_simp⟩) (by assumption) ?_
      simp only [Act.put, List.setIfInBounds_toArray, List.set_cons_zero, List.set_cons_succ]
      refine wpAnyH_take (i := 2) (oi := { dst := some 67, op := Op.indexAddr 73 (Operand.tmp 65) (Operand.tmp 66), type := 0, pos := "law.go:214", after := #[{ on := 0, ground := Ground.data }, { on := 1, ground := Ground.data }], guard := none }) (v := .pointer (some ⟨gl, i * 2, none⟩)) rfl (by kernel_rfl) (by kernel_rfl) (by kernel_rfl) (fun _ _ _ h => h) (Or.inl ⟨by rfl, by intro w hSw; go_simp⟩) (by assumption) ?_
      simp only [Act.put, List.setIfInBounds_toArray, List.set_cons_zero, List.set_cons_succ]
      refine wpAnyH_take (i := 3) (oi := { dst := some 68, op := Op.load 68 (Operand.tmp 67), type := 68, pos := "law.go:214", after := #[{ on := 2, ground := Ground.data }], guard := none }) (v := .agg #[.pointer (some ⟨p.g, 0, none⟩), .pointer (some ⟨r.g, 0, none⟩)]) rfl (by kernel_rfl) (by kernel_rfl) (by kernel_rfl) (fun _ _ _ h => h) (yieldsIf_load_mid (by rfl) _ _ rfl _ _ rfl _ _ (fun w hSw => hSw.1) under68 rfl (by rw [size68]; rfl)) (by assumption) ?_
      simp only [Act.put, List.setIfInBounds_toArray, List.set_cons_zero, List.set_cons_succ]
      refine wpAnyH_take (i := 4) (oi := { dst := some 69, op := Op.load 29 (Operand.tmp 11), type := 29, pos := "law.go:214", after := #[], guard := none }) (v := .agg #[.int .i64 k, .int .i64 dd, .int .i64 a, .int .i64 b, .int .i64 t, .bool on, .int .i64 off2, .int .u32 v]) rfl (by kernel_rfl) (by kernel_rfl) (by kernel_rfl) (fun _ _ _ h => h) (yieldsIf_load_mid (by rfl) _ _ rfl _ _ rfl _ _ (fun w hSw => hSw.2.range) under29 rfl (by rw [size29]; rfl)) (by assumption) ?_
      simp only [Act.put, List.setIfInBounds_toArray, List.set_cons_zero, List.set_cons_succ]
      refine wpAnyH_ready (rs := [5]) (by kernel_rfl) (by simp) (AllReadyH.cons (o := { dst := some 70, op := Op.call { callee := Callee.value (Operand.func 37), args := #[Operand.tmp 68, Operand.tmp 69], argTypes := #[68, 29] }, type := 4, pos := "law.go:214", after := #[{ on := 3, ground := Ground.data }, { on := 4, ground := Ground.data }], guard := none }) rfl (fun KQ hK => ?_) AllReadyH.nil)
      go_simp
      refine (HSt2.out _ (I3.out.mp.own i _ HP.out) (I3.out.mp.doc i _ HP.out) (I3.out.mp.ap i _ HP.out)).mono ?_
      rintro e w4 ⟨rfl, q4, hT⟩
      have HG := hid hT.g
      have I4 := hid (I3.out.step i HP.out hT HNs.out)
      clear hT I3
      go_wp2_with fail
      refine hK.out _ _ (by have h9 := I4.out.rng HI.out (set_at HP.out); rw [HG.out] at h9; exact h9) (fun hHeld => ?_)
      clear hK KQ
      try simp only [Act.put, List.setIfInBounds_toArray, List.set_cons_zero, List.set_cons_succ]
      refine wpAnyH_ready (rs := [6]) (by kernel_rfl) (by simp) (AllReadyH.cons (o := { dst := some 6, op := Op.assign (Operand.tmp 70), type := 4, pos := "law.go:214", after := #[{ on := 5, ground := Ground.data }, { on := 5, ground := Ground.chain }, { on := 0, ground := Ground.phase }, { on := 1, ground := Ground.phase }, { on := 2, ground := Ground.phase }, { on := 3, ground := Ground.phase }, { on := 4, ground := Ground.phase }, { on := 5, ground := Ground.phase }], guard := none }) rfl (fun KQ hK => ?_) AllReadyH.nil)
      go_simp
      refine hK.out _ _ (by have h9 := I4.out.rng HI.out (set_at HP.out); rw [HG.out] at h9; exact h9) (fun hHeld => ?_)
      clear hK KQ
      try simp only [Act.put, List.setIfInBounds_toArray, List.set_cons_zero, List.set_cons_succ]
      refine wpAnyH_done (by kernel_rfl) ?_ _
      obtain ⟨x0, x1⟩ := I4.out.nx
      go_wp2_with fail
      go_roundw
      case measure => have := HJ.out; simp [intOf] <;> omega
      case rel => exact ⟨j + 1, Ps.set i (p, q4, d2), gl, cap, HJ.out, by simp, by rw [show (Ps.set i (p, q4, d2)).length = N by rw [List.length_set]; exact HL.out.1], hid (by rw [show (Ps.set i (p, q4, d2)).length = N by rw [List.length_set]; exact HL.out.1]; exact ⟨I4.out.mp, HL.out.2⟩)⟩
    · have hjn : j = n := by omega
      subst hjn
      clear hlt hj
      generalize hN : Ps.length = N at *
      have HL := hid (And.intro hN HM.out.2.2)
      have M0 := hid HM.out.1
      clear HM hN
      go_upto_region 30 with fail
      go_loopw [14] (fun i wr => ∃ j : Nat, j ≤ N ∧ i = .int .i64 (j : Int) ∧ Hid (MP W wr Ps N gl cap)) (fun i _ => N - (intOf i).toNat)
      case atStart => exact ⟨0, Nat.zero_le _, rfl, M0⟩
      case round =>
        obtain ⟨i, hi, rfl, HM⟩ := hrel
        clear M0
        by_cases hlt : i < N
        · have q1 : (i : Int) < (N : Int) := by omega
          have l6 := HL.out.2
          have iw : (i : Int) ≤ 6 := by omega
          have HI := hid hlt
          obtain ⟨p, r, d, hP⟩ := HM.out.pick hlt
          obtain ⟨z0, z1⟩ := HM.out.cells hlt hP
          have HRg := hid (range2 z0 z1)
          have HP := hid hP
          clear z0 z1 hlt hi hP
          simp only [ptr] at HRg
          go_wp2_with (first | (refine wpList_load_mid rfl 68 _ rfl gl (i * 2) rfl _ _ HRg.out under68 rfl (by rw [size68]; rfl) ?_) | (go_at_call 38; refine (HWh.out _ p r d (HM.out.own i _ HP.out) (HM.out.doc i _ HP.out)).mono ?_; rintro e w1 ⟨rfl, hb⟩; have M1 := hid (HM.out.on hb); clear hb))
          go_roundw
          case measure => have := HI.out; simp [intOf] <;> omega
          case rel => exact ⟨i + 1, HI.out, by simp, M1⟩
        · have hin : i = N := by omega
          subst hin
          clear hlt hi
          go_wp2_with fail
          go_ret
          exact ⟨rfl, HM.out.bl⟩
end Go.Proofs.Ytajkhkaidjjioaa
