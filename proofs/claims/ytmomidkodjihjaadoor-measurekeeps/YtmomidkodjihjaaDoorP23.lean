import Derived.Test.YtmomidkodjihjaaDoorP22
import Derived.Test.YtmomidkodjihjaaDoorP01
namespace Go.Proofs.YtmomidkodjihjaaDoor
open Go.RowKit
open H
set_option maxHeartbeats 4000000
set_option maxRecDepth 100000
def plainO (x : Lv) : MOp := ⟨1 + wit x.k 4, x.a, if 1 + wit x.k 4 = 3 then lwd x.ld x.fl 1024 else []⟩
theorem plain_ok (x : Lv) : (plainO x).Ok := by
  have h0 := wit_lo x.k 4 (by decide)
  have h1 := wit_hi x.k 4 (by decide)
  refine ⟨by show 1 ≤ 1 + wit x.k 4; omega, by show 1 + wit x.k 4 ≤ 4; omega, ?_⟩
  unfold plainO pgN
  simp only
  split
  · exact lwd_len _ _ _
  · rfl
theorem HO.but {W w w' : World} {v : Value} {l : List Ov} {g t : Nat} {cs : List Value} (h : HO W w v l) (hb : But g w w') (hg : W.heap.size ≤ g) (hv : ∀ k, v.ownBlock = some k → k ≠ g) (hc : Cel w g t cs) (ht : t ≠ 24) : HO W w' v l := by
  refine ⟨own_but h.own hb (fun e => hv _ e rfl), h.below.trans (hb.below hg h.below.size), fun x hx => own_but (h.ws x hx) hb (fun e => ?_), h.apart⟩
  obtain ⟨_, cur, h2⟩ := own_blk (h.ws x hx) e
  have := Option.some.inj (hc.symm.trans h2)
  injection this with _ h5
  exact ht h5
theorem cel_ty {w : World} {B g : Nat} {e t s n : Nat} {v : Value} {L : List Value} {cs : List Value} (h : w.ownsRow B e s v n L) (hc : Cel w g t cs) (ht : t ≠ e) : ∀ k, v.ownBlock = some k → k ≠ g := fun k hk he => by
  subst he
  obtain ⟨_, cur, h2⟩ := own_blk h hk
  have := Option.some.inj (hc.symm.trans h2)
  injection this with _ h5
  exact ht h5
theorem H.Cel.setc {w : World} {g t j : Nat} {cs : List Value} (h : Cel w g t cs) (u : Value) : Cel (w.setCell ⟨g, j, none⟩ u) g t (cs.set j u) := by
  unfold Cel at h ⊢
  rw [heap_setCell_same w g j _ t _ h, List.setIfInBounds_toArray]
theorem run_append_oc {W w : World} (ty : TypeId) {v : Value} {l : List Ov} (H : HO W w v l) (g : Nat) (x : Ov) (hc : Cel w g 43 x.cs) (hx : OW W w x) (hap : ∀ y ∈ l, ∀ g, (Value.slice y.p y.o.ws.length y.c).ownBlock = some g → (Value.slice x.p x.o.ws.length x.c).ownBlock ≠ some g) (hb : (l.length + 1) * 40 ≤ 140737488355328) :
    ∃ v' w', (Builtin.append_ #[25, 25] ty #[v, .slice (some ⟨g, 0, none⟩) 1 1]).run Tryd.prog w = .ok v' w' ∧ HO W w' v' (l ++ [x]) ∧ ∀ g t cs, Cel w g t cs → t ≠ 43 → Cel w' g t cs := by
  obtain ⟨i, hi, hz, hsize, hby⟩ := info_parts Tryd.info43
  obtain ⟨v', w', hr, h1, h2, _⟩ := run_append_own (P := Tryd.prog) w W.heap.size 25 ty 43 i _ 3 40 Tryd.underlying25 hi hz hsize hby rfl (by decide) v l.length _ H.own ⟨g, 0, none⟩ 1 1 x.cs rfl (fun j u hu => by rw [Addr.add_mid, Nat.zero_add, hc.cell j]; exact hu) (fun u hu => by
    simp only [Ov.cs, List.mem_cons, List.not_mem_nil, or_false] at hu
    rcases hu with rfl | rfl | rfl <;> rfl) (by unfold maxLen; omega) hb H.below.size
  have hne : ∀ y, OW W w y → ∀ g, (Value.slice y.p y.o.ws.length y.c).ownBlock = some g → v.ownBlock ≠ some g := fun y hy g hg hv => by
    obtain ⟨_, c1, e1⟩ := own_blk hy hg
    obtain ⟨_, c2, e2⟩ := own_blk H.own hv
    have := Option.some.inj (e1.symm.trans e2)
    injection this with _ h5
    exact absurd h5 (by decide)
  refine ⟨v', w', hr, ⟨?_, H.below.grown h2 H.below.size (fun g hg => (H.own.lt g hg).1), fun y hy => ?_, ?_⟩, fun g t cs hc ht => (h2.block g hc.lt (fun e => cel_ty H.own hc ht g e.symm rfl)).trans hc⟩
  · rw [List.length_append, List.flatMap_append]
    simpa using h1
  · rw [List.mem_append, List.mem_singleton] at hy
    rcases hy with hy | rfl
    · exact own_grown (H.ws y hy) h2 (hne y (H.ws y hy))
    · exact own_grown hx h2 (hne y hx)
  · rw [List.pairwise_append]
    refine ⟨H.apart, List.pairwise_singleton _ _, fun y hy z hz => ?_⟩
    rw [List.mem_singleton] at hz
    subst hz
    exact hap y hy
theorem wpList_append_oc {W w : World} {ops : Array Oper} {rest : List Oper} {o : Oper} {a : Act} {Q : Exit → Act → World → Prop} (hgd : o.guard = none) (s x : Operand)
    (ho : o.op = .call { callee := .builtin .append, args := #[s, x], argTypes := #[25, 25] }) (v : Value) (l : List Ov) (hs : a.eval s = v) (H : HO W w v l) (g : Nat) (y : Ov) (hx : a.eval x = .slice (some ⟨g, 0, none⟩) 1 1) (hc : Cel w g 43 y.cs) (hy : OW W w y) (hap : ∀ z ∈ l, ∀ g, (Value.slice z.p z.o.ws.length z.c).ownBlock = some g → (Value.slice y.p y.o.ws.length y.c).ownBlock ≠ some g) (hb : (l.length + 1) * 40 ≤ 140737488355328)
    (h : ∀ v' w', HO W w' v' (l ++ [y]) → (∀ g t cs, Cel w g t cs → t ≠ 43 → Cel w' g t cs) → wpList Tryd.prog ops Q rest (a.put o.dst v') w') : wpList Tryd.prog ops Q (o :: rest) a w := by
  obtain ⟨v', w', hr, hh, hk⟩ := run_append_oc o.type H g y hc hy hap hb
  refine wpList_plain hgd fun K hK => ?_
  unfold Oper.wp execOp
  simp only [ho, resolve, invoke, builtin, Sem.run_bind, Sem.run_pure, Result.andThen_ok, List.map_toArray, List.map_cons, List.map_nil, hs, hx, hr]
  exact hK _ _ (h _ _ hh hk)
structure PJ (W w : World) (gl : Nat) (cs : List Value) (l : List Lv) (v : Value) (lo : List Ov) (i : Nat) : Prop where
  ho : HO W w v lo
  cel : Cel w gl 94 cs
  row : ∀ j x, i ≤ j → l[j]? = some x → ∀ q, q < 5 → cs[j * 5 + q]? = x.cs[q]?
  is : lo.map Ov.o = (l.take i).map plainO
theorem PJ.len {W w : World} {gl : Nat} {cs : List Value} {l : List Lv} {v : Value} {lo : List Ov} {i : Nat} (h : PJ W w gl cs l v lo i) (hi : i ≤ l.length) : lo.length = i := by
  have := congrArg List.length h.is
  simpa [Nat.min_eq_left hi] using this
theorem plain_any (W w : World) (v : Value) (l : List Lv) (h : HL W w v l) (hld : ∀ x ∈ l, At W .u32 x.p x.ld ∧ x.ld.length ≤ 9223372036854775807) (most : Nat) (hm : most ≤ 100) (hll : l.length ≤ 4611686018427387904) :
    Calls Tryd.prog 12 #[v, .int .i64 (most : Int)] w fun e w' => ∃ v' lo, e = .returned v' ∧ HO W w' v' lo ∧ lo.map Ov.o = (l.take most).map plainO := by
  rcases h.own.2 with ⟨rfl, h0⟩ | ⟨gl, cap, cur, rfl, hg, hh, hn, hmx, hs, ht⟩
  · have HE : Hid (HO W w (.slice none 0 0) [] ∧ l = []) := hid ⟨(HO.start W).on h.below, List.eq_nil_of_length_eq_zero h0⟩
    clear h hld hm hll h0
    go_enter Tryd.func12, Tryd.ntmps12
    go_wp2_with fail
    go_loopw [5, 6] (fun u i wr => u = .slice none 0 0 ∧ i = .int .i64 0 ∧ wr = w) (fun _ _ _ => 0)
    case atStart => exact ⟨rfl, rfl, rfl⟩
    case round =>
      obtain ⟨rfl, rfl, rfl⟩ := hrel
      go_wp2_with fail
      go_ret
      exact ⟨_, [], rfl, HE.out.1, by rw [HE.out.2]; simp⟩
  · obtain ⟨n, hnl⟩ : ∃ n, l.length = n := ⟨_, rfl⟩
    rw [hnl] at hn hll ht ⊢
    have hcs : Cel w gl 94 cur.toList := by unfold Cel; rw [hh]
    have P0 : Hid (PJ W w gl cur.toList l (.slice none 0 0) [] 0) := hid ⟨(HO.start W).on h.below, hcs, fun j x _ hx q hq => by
      have hj : j < n := by rw [← hnl]; exact (List.getElem?_eq_some_iff.1 hx).1
      rw [← lcs_get l j q x hx hq, ← ht, List.getElem?_take_of_lt (by omega)], by simp⟩
    have HN := hid hnl
    have HLD := hid hld
    have HG := hid hg
    have HM := hid hm
    have q0 : (n : Int) ≤ 4611686018427387904 := by omega
    have q1 : (most : Int) ≤ 100 := by omega
    clear h hld hm hll hg hh hn hmx hs ht hcs hnl
    go_enter Tryd.func12, Tryd.ntmps12
    go_wp2_with fail
    go_loopw [5, 6] (fun u i wr => ∃ (j : Nat) (cs : List Value) (lo : List Ov), j ≤ n ∧ i = .int .i64 (j : Int) ∧ Hid ((j ≤ most) ∧ PJ W wr gl cs l u lo j)) (fun _ i _ => n - (intOf i).toNat)
    case atStart => exact ⟨0, _, [], Nat.zero_le _, rfl, hid ⟨Nat.zero_le _, P0.out⟩⟩
    case round =>
      obtain ⟨j, cs, lo, hj, rfl, HQ⟩ := hrel
      clear P0
      obtain ⟨av, cv, hv, _, _⟩ := HQ.out.2.ho.ol
      subst hv
      by_cases hlt : j < n ∧ j < most
      · obtain ⟨x, hx⟩ : ∃ x, l[j]? = some x := ⟨l[j]'(by rw [HN.out]; exact hlt.1), List.getElem?_eq_getElem _⟩
        have r1 : (j : Int) < (n : Int) := by omega
        have r2 : (j : Int) < (most : Int) := by omega
        have r3 : (0 : Int) ≤ (j : Int) := by omega
        have HX := hid hx
        have HJ := hid hlt
        obtain ⟨k, hk⟩ : ∃ k, 1 + wit x.k 4 = k := ⟨_, rfl⟩
        have HI := hid (fun w => within_any w x.k 1 4 4 (by decide) (by decide) (by decide) (by decide))
        rw [hk] at HI
        have hP : plainO x = ⟨k, x.a, if k = 3 then lwd x.ld x.fl 1024 else []⟩ := by unfold plainO; rw [hk]
        have HP := hid hP
        have HK : Hid (1 ≤ k ∧ k ≤ 4) := hid ⟨by have := wit_lo x.k 4 (by decide); omega, by have := wit_hi x.k 4 (by decide); omega⟩
        have wk : IntKind.wrap .i64 k = k := wrap_i64 k (by have := HK.out; omega) (by have := HK.out; omega)
        have HR : Hid (∀ w', Cel w' gl 94 cs → w'.cell? ⟨gl, j * 5, none⟩ = some (.int .i64 x.k) ∧ w'.cell? ⟨gl, j * 5 + 1, none⟩ = some (.int .u32 x.a)) := hid (fun w' hc => ⟨(hc.cell _).trans (HQ.out.2.row j x (Nat.le_refl _) hx 0 (by decide)), (hc.cell _).trans (HQ.out.2.row j x (Nat.le_refl _) hx 1 (by decide))⟩)
        have HLX := hid (HLD.out x (List.mem_of_getElem? hx))
        have HRow := hid (fun q (hq : q < 5) => HQ.out.2.row j x (Nat.le_refl _) hx q hq)
        have HLl : Hid ((lo.length + 1) * 40 ≤ 140737488355328) := hid (by rw [HQ.out.2.len (by rw [HN.out]; omega)]; have := HM.out; omega)
        obtain ⟨xk, xa, xl, xp, xc, xg, xf⟩ := x
        simp only at HI HR HLX HP
        simp only [Lv.cs] at HRow
        clear hk hx hlt hj hP
        go_upto_region 5 with fail
        have X0 : Hid (HO W wr.drew (.slice av lo.length cv) lo ∧ Cel wr.drew gl 94 cs) := hid ⟨HQ.out.2.ho.on (Below.refl _ _).drew, HQ.out.2.cel⟩
        refine wp_region_held_drew (S := fun w => Cel w gl 94 cs) (by kernel_rfl) X0.out.2 (fun hHeld => ?_)
        generalize World.drew _ = w0 at *
        refine tk 0 ⟨some 19, .move (.tmp 0), 23, "outright.go:14", #[], none⟩ (.slice (some ⟨gl, 0, none⟩) n cap) ?_
        simp only [Act.put, List.setIfInBounds_toArray, List.set_cons_zero, List.set_cons_succ]
        refine tk 1 ⟨some 20, .move (.tmp 6), 3, "outright.go:14", #[], none⟩ (.int .i64 (j : Int)) ?_
        simp only [Act.put, List.setIfInBounds_toArray, List.set_cons_zero, List.set_cons_succ]
        refine tk 2 ⟨some 21, .indexAddr 23 (.tmp 19) (.tmp 20), 0, "outright.go:14", #[⟨0, .data⟩, ⟨1, .data⟩], none⟩ (.pointer (some ⟨gl, j * 5, none⟩)) ?_
        simp only [Act.put, List.setIfInBounds_toArray, List.set_cons_zero, List.set_cons_succ]
        refine tk 3 ⟨some 22, .fieldAddr 94 (.tmp 21) 0, 0, "outright.go:14", #[⟨2, .data⟩], none⟩ (.pointer (some ⟨gl, j * 5, none⟩)) ?_
        simp only [Act.put, List.setIfInBounds_toArray, List.set_cons_zero, List.set_cons_succ]
        refine tk 4 ⟨some 23, .load 3 (.tmp 22), 3, "outright.go:14", #[⟨3, .data⟩], none⟩ (.int .i64 xk) ?_ (hy := Or.inl ⟨by rfl, by intro w hSw; have hc := (HR.out w hSw).1; go_simp⟩)
        simp only [Act.put, List.setIfInBounds_toArray, List.set_cons_zero, List.set_cons_succ]
        refine tk 6 ⟨some 25, .move (.tmp 0), 23, "outright.go:14", #[], none⟩ (.slice (some ⟨gl, 0, none⟩) n cap) ?_
        simp only [Act.put, List.setIfInBounds_toArray, List.set_cons_zero, List.set_cons_succ]
        refine tk 7 ⟨some 26, .move (.tmp 6), 3, "outright.go:14", #[], none⟩ (.int .i64 (j : Int)) ?_
        simp only [Act.put, List.setIfInBounds_toArray, List.set_cons_zero, List.set_cons_succ]
        refine tk 8 ⟨some 27, .indexAddr 23 (.tmp 25) (.tmp 26), 0, "outright.go:14", #[⟨6, .data⟩, ⟨7, .data⟩], none⟩ (.pointer (some ⟨gl, j * 5, none⟩)) ?_
        simp only [Act.put, List.setIfInBounds_toArray, List.set_cons_zero, List.set_cons_succ]
        refine tk 9 ⟨some 28, .fieldAddr 94 (.tmp 27) 1, 0, "outright.go:14", #[⟨8, .data⟩], none⟩ (.pointer (some ⟨gl, j * 5 + 1, none⟩)) ?_
        simp only [Act.put, List.setIfInBounds_toArray, List.set_cons_zero, List.set_cons_succ]
        refine tk 10 ⟨some 29, .load 24 (.tmp 28), 24, "outright.go:14", #[⟨9, .data⟩], none⟩ (.int .u32 xa) ?_ (hy := Or.inl ⟨by rfl, by intro w hSw; have hc := (HR.out w hSw).2; go_simp⟩)
        simp only [Act.put, List.setIfInBounds_toArray, List.set_cons_zero, List.set_cons_succ]
        refine wpAnyH_ready (rs := [5, 12]) (by kernel_rfl) (by simp) (AllReadyH.cons (o := ⟨some 24, .call { callee := .value (.func 14), args := #[.tmp 23, .const (.int .i64 1), .const (.int .i64 4)], argTypes := #[3, 3, 3] }, 3, "outright.go:14", #[⟨4, .data⟩], none⟩) rfl (fun KQ hK => ?_) (AllReadyH.cons (o := ⟨some 7, .alloc 43, 0, "outright.go:14", #[], none⟩) rfl (fun KQ hK => ?_) AllReadyH.nil))
        · go_simp
          refine (HI.out _).mono ?_
          rintro e w9 ⟨rfl, hw9⟩
          subst w9
          go_wp2_with fail
          refine hK.out _ _ X0.out.2 (fun hHeld => ?_)
          clear hK KQ
          try simp only [Act.put, List.setIfInBounds_toArray, List.set_cons_zero, List.set_cons_succ]
          refine tk 11 ⟨some 30, .build 43 #[(0, .tmp 24), (1, .tmp 29)], 43, "outright.go:14", #[⟨5, .data⟩, ⟨10, .data⟩], none⟩ (.agg #[.int .i64 k, .int .u32 xa, .slice none 0 0]) ?_
          simp only [Act.put, List.setIfInBounds_toArray, List.set_cons_zero, List.set_cons_succ]
          refine wpAnyH_ready (rs := [12]) (by kernel_rfl) (by simp) (AllReadyH.cons (o := ⟨some 7, .alloc 43, 0, "outright.go:14", #[], none⟩) rfl (fun KQ hK => ?_) AllReadyH.nil)
          go_simp
          have X1 : Hid ((HO W (w0.alloc (.cells #[.int .i64 0, .int .u32 0, .slice none 0 0] 43)) (.slice av lo.length cv) lo ∧ Cel (w0.alloc (.cells #[.int .i64 0, .int .u32 0, .slice none 0 0] 43)) gl 94 cs) ∧ Cel (w0.alloc (.cells #[.int .i64 0, .int .u32 0, .slice none 0 0] 43)) w0.heap.size 43 zop) := hid ⟨⟨X0.out.1.on (below_one _ _), X0.out.2.on (below_one _ _)⟩, heap_alloc_new _ _⟩
          have HV7 : Hid (W.heap.size ≤ w0.heap.size ∧ ∀ g, (Value.slice av lo.length cv).ownBlock = some g → g < w0.heap.size) := hid ⟨X0.out.1.below.size, fun g hg => (X0.out.1.own.lt g hg).2⟩
          clear X0
          generalize World.alloc w0 _ = w1 at *
          generalize w0.heap.size = g7 at *
          refine hK.out _ _ X1.out.1.2 (fun hHeld => ?_)
          clear hK KQ
          try simp only [Act.put, List.setIfInBounds_toArray, List.set_cons_zero, List.set_cons_succ]
          refine wpAnyH_ready (rs := [13]) (by kernel_rfl) (by simp) (AllReadyH.cons (o := ⟨none, .store 43 (.tmp 7) (.tmp 30), 0, "outright.go:14", #[⟨12, .data⟩, ⟨11, .data⟩, ⟨5, .chain⟩, ⟨0, .phase⟩, ⟨1, .phase⟩, ⟨2, .phase⟩, ⟨3, .phase⟩, ⟨4, .phase⟩, ⟨5, .phase⟩, ⟨6, .phase⟩, ⟨7, .phase⟩, ⟨8, .phase⟩, ⟨9, .phase⟩, ⟨10, .phase⟩, ⟨11, .phase⟩, ⟨12, .phase⟩], none⟩) rfl (fun KQ hK => ?_) AllReadyH.nil)
          rw [if_pos (by rfl)]
          refine wp_store_st 43 _ _ rfl g7 [.int .i64 k, .int .u32 xa, .slice none 0 0] rfl rfl X1.out.2 size43 rfl rfl ?_
          intro w2 hc2 hb2 hs2
          have X2 : Hid ((HO W w2 (.slice av lo.length cv) lo ∧ Cel w2 gl 94 cs) ∧ Cel w2 g7 43 [.int .i64 k, .int .u32 xa, .slice none 0 0]) := hid ⟨⟨X1.out.1.1.but hb2 HV7.out.1 (fun k hk => by have := HV7.out.2 k hk; omega) X1.out.2 (by decide), X1.out.1.2.but hb2 (fun e => by have h1 := X1.out.2; rw [← e] at h1; have := Option.some.inj (h1.symm.trans X1.out.1.2); injection this with _ h5; exact absurd h5 (by decide))⟩, hc2⟩
          clear hc2 hb2 hs2 X1
          refine hK.out _ _ X2.out.1.2 (fun hHeld => ?_)
          clear hK KQ
          try simp only [Act.put]
          refine wpAnyH_done (by kernel_rfl) ?_ _
          have b0 := X2.out.2.cell 0
          simp only [List.getElem?_cons_zero] at b0
          by_cases h3 : k = 3
          · subst h3
            rw [if_pos rfl] at HP
            have d3 := (X2.out.1.2.cell (j * 5 + 3)).trans (HRow.out 3 (by decide))
            simp only [List.getElem?_cons_zero, List.getElem?_cons_succ] at d3
            have f3 := X2.out.1.2.free (j * 5 + 3)
            have X3 : Hid ((HO W (w2.setCell ⟨gl, j * 5 + 3, none⟩ (.int .i64 1024)) (.slice av lo.length cv) lo ∧ Cel (w2.setCell ⟨gl, j * 5 + 3, none⟩ (.int .i64 1024)) gl 94 (cs.set (j * 5 + 3) (.int .i64 1024))) ∧ Cel (w2.setCell ⟨gl, j * 5 + 3, none⟩ (.int .i64 1024)) g7 43 [.int .i64 3, .int .u32 xa, .slice none 0 0]) := hid ⟨⟨X2.out.1.1.but (but_setCell _ _ _ _) HG.out (cel_ty X2.out.1.1.own X2.out.1.2 (by decide)) X2.out.1.2 (by decide), X2.out.1.2.setc _⟩, X2.out.2.but (but_setCell _ _ _ _) (fun e => by have h1 := X2.out.2; rw [e] at h1; have := Option.some.inj (h1.symm.trans X2.out.1.2); injection this with _ h5; exact absurd h5 (by decide))⟩
            go_upto_region 8 with fail
            clear d3 f3 b0
            generalize World.setCell _ _ _ = w3 at *
            clear X2
            have e0 := (X3.out.1.2.cell (j * 5)).trans ((List.getElem?_set_ne (by omega)).trans (HRow.out 0 (by decide)))
            have e1 := (X3.out.1.2.cell (j * 5 + 1)).trans ((List.getElem?_set_ne (by omega)).trans (HRow.out 1 (by decide)))
            have e2 := (X3.out.1.2.cell (j * 5 + 2)).trans ((List.getElem?_set_ne (by omega)).trans (HRow.out 2 (by decide)))
            have e3 := (X3.out.1.2.cell (j * 5 + 3)).trans (List.getElem?_set_self (by have := HRow.out 3 (by decide); exact (List.getElem?_eq_some_iff.1 this).1))
            have e4 := (X3.out.1.2.cell (j * 5 + 4)).trans ((List.getElem?_set_ne (by omega)).trans (HRow.out 4 (by decide)))
            simp only [List.getElem?_cons_zero, List.getElem?_cons_succ] at e0 e1 e2 e4
            have HZ3 : Hid (∀ z ∈ lo, ∀ g, (Value.slice z.p z.o.ws.length z.c).ownBlock = some g → g < w3.heap.size) := hid (fun z hz g hg => by obtain ⟨_, cur, h6⟩ := own_blk (X3.out.1.1.ws z hz) hg; exact (Array.getElem?_eq_some_iff.1 h6).1)
            have HWd := hid (words_any w3 xk xa xp xl.length xc 1024 xf xl rfl (HLX.out.1.below X3.out.1.1.below) HLX.out.2 1024 (by decide))
            go_upto_region 9 with (go_at_call 40; refine HWd.out.mono ?_; rintro e w4 ⟨q, cq, rfl, h4⟩; have X4 : Hid ((HO W w4 (.slice av lo.length cv) lo ∧ Cel w4 gl 94 (cs.set (j * 5 + 3) (.int .i64 1024))) ∧ Cel w4 g7 43 [.int .i64 3, .int .u32 xa, .slice none 0 0]) := hid ⟨⟨X3.out.1.1.on h4.below, X3.out.1.2.on h4.below⟩, X3.out.2.on h4.below⟩; have HQ4 : Hid (w4.ownsRow w3.heap.size 24 1 (.slice q 1024 cq) 1024 ((lwd xl xf 1024).map (Value.int .u32))) := hid (by have := h4.own; rwa [lwd_len] at this); have H34 := hid (And.intro X3.out.1.1.below.size X3.out.2.lt); have f2 := X4.out.2.free 2; have b2 := X4.out.2.cell 2; simp only [List.getElem?_cons_zero, List.getElem?_cons_succ] at b2; clear h4 e0 e1 e2 e3 e4 X3 HWd)
            clear f2 b2
            have X5 : Hid ((HO W (w4.setCell ⟨g7, 2, none⟩ (.slice q 1024 cq)) (.slice av lo.length cv) lo ∧ Cel (w4.setCell ⟨g7, 2, none⟩ (.slice q 1024 cq)) gl 94 (cs.set (j * 5 + 3) (.int .i64 1024))) ∧ Cel (w4.setCell ⟨g7, 2, none⟩ (.slice q 1024 cq)) g7 43 [.int .i64 3, .int .u32 xa, .slice q 1024 cq]) := hid ⟨⟨X4.out.1.1.but (but_setCell _ _ _ _) HV7.out.1 (fun k hk => by have := HV7.out.2 k hk; omega) X4.out.2 (by decide), X4.out.1.2.but (but_setCell _ _ _ _) (fun e => by have h1 := X4.out.2; rw [← e] at h1; have := Option.some.inj (h1.symm.trans X4.out.1.2); injection this with _ h5; exact absurd h5 (by decide))⟩, X4.out.2.setc _⟩
            have HQ5 : Hid ((w4.setCell ⟨g7, 2, none⟩ (.slice q 1024 cq)).ownsRow W.heap.size 24 1 (.slice q 1024 cq) 1024 ((lwd xl xf 1024).map (Value.int .u32))) := hid (own_base (own_but HQ4.out (but_setCell _ _ _ _) (fun e => by have := (own_blk HQ4.out e).1; have := H34.out.2; omega)) H34.out.1)
            have HQB : Hid (∀ g, (Value.slice q 1024 cq).ownBlock = some g → w3.heap.size ≤ g) := hid (fun g hg => (own_blk HQ4.out hg).1)
            clear X4 HQ4
            generalize World.setCell _ _ _ = w5 at *
            have c0 := X5.out.2.cell 0
            have c1 := X5.out.2.cell 1
            have c2 := X5.out.2.cell 2
            simp only [List.getElem?_cons_zero, List.getElem?_cons_succ] at c0 c1 c2
            go_wp2_with (at_builtin; refine wpList_append_oc rfl _ _ rfl _ lo rfl (X5.out.1.1.on (below_one _ _)) _ ⟨⟨3, xa, lwd xl xf 1024⟩, q, cq⟩ rfl (by simp only [Ov.cs, lwd_len]; exact heap_alloc_new _ _) (by unfold OW; simp only [lwd_len]; exact ownsRow_below HQ5.out (below_one _ _)) (fun z hz g hg he => by have h7 := HZ3.out z hz g hg; have h8 := HQB.out g (by simp only [lwd_len] at he; exact he); omega) HLl.out ?_; intro v6 w6 h6 hk6; have X6 := hid (And.intro h6 (hk6 _ _ _ (X5.out.1.2.on (below_one _ _)) (by decide))); clear h6 hk6)
            go_roundw
            case measure => have := HJ.out; simp [intOf] <;> omega
            case rel => exact ⟨j + 1, _, _, HJ.out.1, by simp, hid ⟨HJ.out.2, X6.out.1, X6.out.2, fun i y hi hy q' hq' => by rw [List.getElem?_set_ne (by omega)]; exact HQ.out.2.row i y (by omega) hy q' hq', by rw [List.map_append, HQ.out.2.is, List.take_add_one, HX.out, List.map_append]; simp [HP.out]⟩⟩
          · have h3' : (k == 3) = false := by simpa using h3
            rw [if_neg h3] at HP
            have HAL : Hid (∀ z ∈ lo, ∀ g, (Value.slice z.p z.o.ws.length z.c).ownBlock = some g → True) := hid (fun _ _ _ _ => trivial)
            have c1 := X2.out.2.cell 1
            have c2 := X2.out.2.cell 2
            simp only [List.getElem?_cons_zero, List.getElem?_cons_succ] at c1 c2
            clear h3
            go_wp2_with (at_builtin; refine wpList_append_oc rfl _ _ rfl _ lo rfl (X2.out.1.1.on (below_one _ _)) _ ⟨⟨k, xa, []⟩, none, 0⟩ rfl (heap_alloc_new _ _) (World.ownsRow_nil _ _ _ _) (fun z hz g hg he => by cases he) HLl.out ?_; intro v6 w6 h6 hk6; have X6 := hid (And.intro h6 (hk6 _ _ _ (X2.out.1.2.on (below_one _ _)) (by decide))); clear h6 hk6)
            go_roundw
            case measure => have := HJ.out; simp [intOf] <;> omega
            case rel => exact ⟨j + 1, _, _, HJ.out.1, by simp, hid ⟨HJ.out.2, X6.out.1, X6.out.2, fun i y hi hy q' hq' => HQ.out.2.row i y (by omega) hy q' hq', by rw [List.map_append, HQ.out.2.is, List.take_add_one, HX.out, List.map_append]; simp [HP.out]⟩⟩
        · go_simp
          have X1 : Hid ((HO W (w0.alloc (.cells #[.int .i64 0, .int .u32 0, .slice none 0 0] 43)) (.slice av lo.length cv) lo ∧ Cel (w0.alloc (.cells #[.int .i64 0, .int .u32 0, .slice none 0 0] 43)) gl 94 cs) ∧ Cel (w0.alloc (.cells #[.int .i64 0, .int .u32 0, .slice none 0 0] 43)) w0.heap.size 43 zop) := hid ⟨⟨X0.out.1.on (below_one _ _), X0.out.2.on (below_one _ _)⟩, heap_alloc_new _ _⟩
          have HV7 : Hid (W.heap.size ≤ w0.heap.size ∧ ∀ g, (Value.slice av lo.length cv).ownBlock = some g → g < w0.heap.size) := hid ⟨X0.out.1.below.size, fun g hg => (X0.out.1.own.lt g hg).2⟩
          clear X0
          generalize World.alloc w0 _ = w1 at *
          generalize w0.heap.size = g7 at *
          refine hK.out _ _ X1.out.1.2 (fun hHeld => ?_)
          clear hK KQ
          try simp only [Act.put, List.setIfInBounds_toArray, List.set_cons_zero, List.set_cons_succ]
          refine wpAnyH_ready (rs := [5]) (by kernel_rfl) (by simp) (AllReadyH.cons (o := ⟨some 24, .call { callee := .value (.func 14), args := #[.tmp 23, .const (.int .i64 1), .const (.int .i64 4)], argTypes := #[3, 3, 3] }, 3, "outright.go:14", #[⟨4, .data⟩], none⟩) rfl (fun KQ hK => ?_) AllReadyH.nil)
          go_simp
          refine (HI.out _).mono ?_
          rintro e w9 ⟨rfl, hw9⟩
          subst w9
          go_wp2_with fail
          refine hK.out _ _ X1.out.1.2 (fun hHeld => ?_)
          clear hK KQ
          try simp only [Act.put, List.setIfInBounds_toArray, List.set_cons_zero, List.set_cons_succ]
          refine tk 11 ⟨some 30, .build 43 #[(0, .tmp 24), (1, .tmp 29)], 43, "outright.go:14", #[⟨5, .data⟩, ⟨10, .data⟩], none⟩ (.agg #[.int .i64 k, .int .u32 xa, .slice none 0 0]) ?_
          simp only [Act.put, List.setIfInBounds_toArray, List.set_cons_zero, List.set_cons_succ]
          refine wpAnyH_ready (rs := [13]) (by kernel_rfl) (by simp) (AllReadyH.cons (o := ⟨none, .store 43 (.tmp 7) (.tmp 30), 0, "outright.go:14", #[⟨12, .data⟩, ⟨11, .data⟩, ⟨5, .chain⟩, ⟨0, .phase⟩, ⟨1, .phase⟩, ⟨2, .phase⟩, ⟨3, .phase⟩, ⟨4, .phase⟩, ⟨5, .phase⟩, ⟨6, .phase⟩, ⟨7, .phase⟩, ⟨8, .phase⟩, ⟨9, .phase⟩, ⟨10, .phase⟩, ⟨11, .phase⟩, ⟨12, .phase⟩], none⟩) rfl (fun KQ hK => ?_) AllReadyH.nil)
          rw [if_pos (by rfl)]
          refine wp_store_st 43 _ _ rfl g7 [.int .i64 k, .int .u32 xa, .slice none 0 0] rfl rfl X1.out.2 size43 rfl rfl ?_
          intro w2 hc2 hb2 hs2
          have X2 : Hid ((HO W w2 (.slice av lo.length cv) lo ∧ Cel w2 gl 94 cs) ∧ Cel w2 g7 43 [.int .i64 k, .int .u32 xa, .slice none 0 0]) := hid ⟨⟨X1.out.1.1.but hb2 HV7.out.1 (fun k hk => by have := HV7.out.2 k hk; omega) X1.out.2 (by decide), X1.out.1.2.but hb2 (fun e => by have h1 := X1.out.2; rw [← e] at h1; have := Option.some.inj (h1.symm.trans X1.out.1.2); injection this with _ h5; exact absurd h5 (by decide))⟩, hc2⟩
          clear hc2 hb2 hs2 X1
          refine hK.out _ _ X2.out.1.2 (fun hHeld => ?_)
          clear hK KQ
          try simp only [Act.put]
          refine wpAnyH_done (by kernel_rfl) ?_ _
          have b0 := X2.out.2.cell 0
          simp only [List.getElem?_cons_zero] at b0
          by_cases h3 : k = 3
          · subst h3
            rw [if_pos rfl] at HP
            have d3 := (X2.out.1.2.cell (j * 5 + 3)).trans (HRow.out 3 (by decide))
            simp only [List.getElem?_cons_zero, List.getElem?_cons_succ] at d3
            have f3 := X2.out.1.2.free (j * 5 + 3)
            have X3 : Hid ((HO W (w2.setCell ⟨gl, j * 5 + 3, none⟩ (.int .i64 1024)) (.slice av lo.length cv) lo ∧ Cel (w2.setCell ⟨gl, j * 5 + 3, none⟩ (.int .i64 1024)) gl 94 (cs.set (j * 5 + 3) (.int .i64 1024))) ∧ Cel (w2.setCell ⟨gl, j * 5 + 3, none⟩ (.int .i64 1024)) g7 43 [.int .i64 3, .int .u32 xa, .slice none 0 0]) := hid ⟨⟨X2.out.1.1.but (but_setCell _ _ _ _) HG.out (cel_ty X2.out.1.1.own X2.out.1.2 (by decide)) X2.out.1.2 (by decide), X2.out.1.2.setc _⟩, X2.out.2.but (but_setCell _ _ _ _) (fun e => by have h1 := X2.out.2; rw [e] at h1; have := Option.some.inj (h1.symm.trans X2.out.1.2); injection this with _ h5; exact absurd h5 (by decide))⟩
            go_upto_region 8 with fail
            clear d3 f3 b0
            generalize World.setCell _ _ _ = w3 at *
            clear X2
            have e0 := (X3.out.1.2.cell (j * 5)).trans ((List.getElem?_set_ne (by omega)).trans (HRow.out 0 (by decide)))
            have e1 := (X3.out.1.2.cell (j * 5 + 1)).trans ((List.getElem?_set_ne (by omega)).trans (HRow.out 1 (by decide)))
            have e2 := (X3.out.1.2.cell (j * 5 + 2)).trans ((List.getElem?_set_ne (by omega)).trans (HRow.out 2 (by decide)))
            have e3 := (X3.out.1.2.cell (j * 5 + 3)).trans (List.getElem?_set_self (by have := HRow.out 3 (by decide); exact (List.getElem?_eq_some_iff.1 this).1))
            have e4 := (X3.out.1.2.cell (j * 5 + 4)).trans ((List.getElem?_set_ne (by omega)).trans (HRow.out 4 (by decide)))
            simp only [List.getElem?_cons_zero, List.getElem?_cons_succ] at e0 e1 e2 e4
            have HZ3 : Hid (∀ z ∈ lo, ∀ g, (Value.slice z.p z.o.ws.length z.c).ownBlock = some g → g < w3.heap.size) := hid (fun z hz g hg => by obtain ⟨_, cur, h6⟩ := own_blk (X3.out.1.1.ws z hz) hg; exact (Array.getElem?_eq_some_iff.1 h6).1)
            have HWd := hid (words_any w3 xk xa xp xl.length xc 1024 xf xl rfl (HLX.out.1.below X3.out.1.1.below) HLX.out.2 1024 (by decide))
            go_upto_region 9 with (go_at_call 40; refine HWd.out.mono ?_; rintro e w4 ⟨q, cq, rfl, h4⟩; have X4 : Hid ((HO W w4 (.slice av lo.length cv) lo ∧ Cel w4 gl 94 (cs.set (j * 5 + 3) (.int .i64 1024))) ∧ Cel w4 g7 43 [.int .i64 3, .int .u32 xa, .slice none 0 0]) := hid ⟨⟨X3.out.1.1.on h4.below, X3.out.1.2.on h4.below⟩, X3.out.2.on h4.below⟩; have HQ4 : Hid (w4.ownsRow w3.heap.size 24 1 (.slice q 1024 cq) 1024 ((lwd xl xf 1024).map (Value.int .u32))) := hid (by have := h4.own; rwa [lwd_len] at this); have H34 := hid (And.intro X3.out.1.1.below.size X3.out.2.lt); have f2 := X4.out.2.free 2; have b2 := X4.out.2.cell 2; simp only [List.getElem?_cons_zero, List.getElem?_cons_succ] at b2; clear h4 e0 e1 e2 e3 e4 X3 HWd)
            clear f2 b2
            have X5 : Hid ((HO W (w4.setCell ⟨g7, 2, none⟩ (.slice q 1024 cq)) (.slice av lo.length cv) lo ∧ Cel (w4.setCell ⟨g7, 2, none⟩ (.slice q 1024 cq)) gl 94 (cs.set (j * 5 + 3) (.int .i64 1024))) ∧ Cel (w4.setCell ⟨g7, 2, none⟩ (.slice q 1024 cq)) g7 43 [.int .i64 3, .int .u32 xa, .slice q 1024 cq]) := hid ⟨⟨X4.out.1.1.but (but_setCell _ _ _ _) HV7.out.1 (fun k hk => by have := HV7.out.2 k hk; omega) X4.out.2 (by decide), X4.out.1.2.but (but_setCell _ _ _ _) (fun e => by have h1 := X4.out.2; rw [← e] at h1; have := Option.some.inj (h1.symm.trans X4.out.1.2); injection this with _ h5; exact absurd h5 (by decide))⟩, X4.out.2.setc _⟩
            have HQ5 : Hid ((w4.setCell ⟨g7, 2, none⟩ (.slice q 1024 cq)).ownsRow W.heap.size 24 1 (.slice q 1024 cq) 1024 ((lwd xl xf 1024).map (Value.int .u32))) := hid (own_base (own_but HQ4.out (but_setCell _ _ _ _) (fun e => by have := (own_blk HQ4.out e).1; have := H34.out.2; omega)) H34.out.1)
            have HQB : Hid (∀ g, (Value.slice q 1024 cq).ownBlock = some g → w3.heap.size ≤ g) := hid (fun g hg => (own_blk HQ4.out hg).1)
            clear X4 HQ4
            generalize World.setCell _ _ _ = w5 at *
            have c0 := X5.out.2.cell 0
            have c1 := X5.out.2.cell 1
            have c2 := X5.out.2.cell 2
            simp only [List.getElem?_cons_zero, List.getElem?_cons_succ] at c0 c1 c2
            go_wp2_with (at_builtin; refine wpList_append_oc rfl _ _ rfl _ lo rfl (X5.out.1.1.on (below_one _ _)) _ ⟨⟨3, xa, lwd xl xf 1024⟩, q, cq⟩ rfl (by simp only [Ov.cs, lwd_len]; exact heap_alloc_new _ _) (by unfold OW; simp only [lwd_len]; exact ownsRow_below HQ5.out (below_one _ _)) (fun z hz g hg he => by have h7 := HZ3.out z hz g hg; have h8 := HQB.out g (by simp only [lwd_len] at he; exact he); omega) HLl.out ?_; intro v6 w6 h6 hk6; have X6 := hid (And.intro h6 (hk6 _ _ _ (X5.out.1.2.on (below_one _ _)) (by decide))); clear h6 hk6)
            go_roundw
            case measure => have := HJ.out; simp [intOf] <;> omega
            case rel => exact ⟨j + 1, _, _, HJ.out.1, by simp, hid ⟨HJ.out.2, X6.out.1, X6.out.2, fun i y hi hy q' hq' => by rw [List.getElem?_set_ne (by omega)]; exact HQ.out.2.row i y (by omega) hy q' hq', by rw [List.map_append, HQ.out.2.is, List.take_add_one, HX.out, List.map_append]; simp [HP.out]⟩⟩
          · have h3' : (k == 3) = false := by simpa using h3
            rw [if_neg h3] at HP
            have HAL : Hid (∀ z ∈ lo, ∀ g, (Value.slice z.p z.o.ws.length z.c).ownBlock = some g → True) := hid (fun _ _ _ _ => trivial)
            have c1 := X2.out.2.cell 1
            have c2 := X2.out.2.cell 2
            simp only [List.getElem?_cons_zero, List.getElem?_cons_succ] at c1 c2
            clear h3
            go_wp2_with (at_builtin; refine wpList_append_oc rfl _ _ rfl _ lo rfl (X2.out.1.1.on (below_one _ _)) _ ⟨⟨k, xa, []⟩, none, 0⟩ rfl (heap_alloc_new _ _) (World.ownsRow_nil _ _ _ _) (fun z hz g hg he => by cases he) HLl.out ?_; intro v6 w6 h6 hk6; have X6 := hid (And.intro h6 (hk6 _ _ _ (X2.out.1.2.on (below_one _ _)) (by decide))); clear h6 hk6)
            go_roundw
            case measure => have := HJ.out; simp [intOf] <;> omega
            case rel => exact ⟨j + 1, _, _, HJ.out.1, by simp, hid ⟨HJ.out.2, X6.out.1, X6.out.2, fun i y hi hy q' hq' => HQ.out.2.row i y (by omega) hy q' hq', by rw [List.map_append, HQ.out.2.is, List.take_add_one, HX.out, List.map_append]; simp [HP.out]⟩⟩
      · have HE : Hid (l.take j = l.take most) := hid (by
          have h1 := HN.out
          have h2 := HQ.out.1
          rcases Nat.lt_or_ge j n with h3 | h3
          · rw [show j = most by omega]
          · rw [List.take_of_length_le (by omega), List.take_of_length_le (by omega)])
        by_cases h1 : j < n
        · have r1 : (j : Int) < (n : Int) := by omega
          have r2 : ¬ ((j : Int) < (most : Int)) := by omega
          clear hlt hj h1
          go_wp2_with fail
          go_ret
          exact ⟨_, rfl, lo, HQ.out.2.ho, by rw [HQ.out.2.is, HE.out, List.map_take]⟩
        · have r1 : ¬ ((j : Int) < (n : Int)) := by omega
          clear hlt hj h1
          go_wp2_with fail
          go_ret
          exact ⟨_, rfl, lo, HQ.out.2.ho, by rw [HQ.out.2.is, HE.out, List.map_take]⟩
end Go.Proofs.YtmomidkodjihjaaDoor
namespace Go.Proofs.YtmomidkodjihjaaDoor
open Go.RowKit
open H
set_option maxHeartbeats 4000000
set_option maxRecDepth 100000
theorem decode_ok (W : World) (ao : Option Addr) (n c : Nat) (ws : List Int) (hn : ws.length = n) (hw : Wds ws) (h : At W .u32 ao ws) (hc : n ≤ c) (hl : n ≤ 262144) (hx : ∃ m : List MOp, (∀ o ∈ m, o.Ok) ∧ enc m = ws) :
    Calls Tryd.prog 8 #[.slice ao n c] W fun e W' => ∃ p cp l, e = .returned (.tuple #[.slice p (List.length l) cp, .int .i64 0]) ∧ HO W W' (.slice p l.length cp) l ∧ (∀ o ∈ l.map Ov.o, o.Ok) ∧ enc (l.map Ov.o) = ws := by
  refine (decode_any W ao n c ws hn hw h hc (by omega)).mono ?_
  rintro e w ⟨hb, ⟨h1, _⟩ | ⟨_, h1, _⟩ | ⟨_, v, l, rfl, h1, h2, h3⟩⟩
  · omega
  · obtain ⟨m, h2, h3⟩ := hx
    exact absurd h3 (h1 m h2)
  · obtain ⟨p, cp, hv, _, _⟩ := h1.ol
    subst hv
    exact ⟨p, cp, l, rfl, h1, h2, h3⟩
theorem plainL_ok (l : List Lv) (m : Nat) : ∀ o ∈ (l.take m).map plainO, o.Ok := fun o ho => by
  obtain ⟨x, _, rfl⟩ := List.mem_map.1 ho
  exact plain_ok x
theorem enc_len_le : ∀ (l : List MOp), (∀ o ∈ l, o.Ok) → (enc l).length ≤ 1026 * l.length
  | [], _ => by simp [enc]
  | o :: l, h => by
    rw [enc_cons, List.length_append]
    have := (wds_len o (h o (by simp))).2
    have := enc_len_le l (fun x hx => h x (by simp [hx]))
    simp only [List.length_cons]
    omega
theorem plainL_len (l : List Lv) (m : Nat) (hm : m ≤ 8) : (enc ((l.take m).map plainO)).length ≤ 8208 := by
  have := enc_len_le _ (plainL_ok l m)
  have h2 : ((l.take m).map plainO).length ≤ m := by rw [List.length_map, List.length_take]; omega
  omega
def LvW (x : Lv) : Prop := 0 ≤ x.a ∧ x.a < 4294967296 ∧ Wds x.ld ∧ 0 ≤ x.fl ∧ x.fl < 4294967296
theorem wds_cons {a : Int} {xs : List Int} (h0 : 0 ≤ a) (h1 : a < 4294967296) (h : Wds xs) : Wds (a :: xs) := fun i => by
  cases i with
  | zero => exact ⟨h0, h1⟩
  | succ i => simpa using h i
theorem wds_lwd {ld : List Int} {fl : Int} (h : Wds ld) (f0 : 0 ≤ fl) (f1 : fl < 4294967296) (n : Nat) : Wds (lwd ld fl n) := fun i => by
  unfold lwd
  by_cases hi : i < n
  · simp only [List.getD_eq_getElem?_getD, List.getElem?_map, List.getElem?_range hi, Option.map_some, Option.getD_some]
    split
    · have := h i
      rwa [List.getD_eq_getElem?_getD] at this
    · exact ⟨f0, f1⟩
  · rw [List.getD_eq_getElem?_getD, List.getElem?_eq_none (by simpa using hi)]
    simp
theorem wds_plain (x : Lv) (h : LvW x) : Wds (plainO x).wds := by
  have h0 := wit_lo x.k 4 (by decide)
  have h1 := wit_hi x.k 4 (by decide)
  refine wds_cons (by show 0 ≤ 1 + wit x.k 4; omega) (by show 1 + wit x.k 4 < _; omega) (wds_cons h.1 h.2.1 ?_)
  show Wds (if 1 + wit x.k 4 = 3 then lwd x.ld x.fl 1024 else [])
  split
  · exact wds_lwd h.2.2.1 h.2.2.2.1 h.2.2.2.2 _
  · exact fun i => by simp
theorem wds_enc : ∀ (l : List Lv), (∀ x ∈ l, LvW x) → Wds (enc (l.map plainO))
  | [], _ => fun i => by simp [enc]
  | x :: l, h => by
    rw [List.map_cons, enc_cons]
    exact wds_append (wds_plain x (h x (by simp))) (wds_enc l (fun y hy => h y (by simp [hy])))
theorem wds_take {xs : List Int} (h : Wds xs) (n : Nat) : Wds (xs.take n) := fun i => by
  by_cases hi : i < n
  · have := h i
    rwa [List.getD_eq_getElem?_getD, List.getElem?_take_of_lt hi, ← List.getD_eq_getElem?_getD]
  · rw [List.getD_eq_getElem?_getD, List.getElem?_eq_none (by simp; omega)]
    simp
theorem holds_base {V W w : World} {v : Value} {L : List Int} (h : Holds W w .u32 24 v L) (hb : Below V.heap.size V W) : Holds V w .u32 24 v L := ⟨own_base h.own hb.size, below_on hb h.below⟩
theorem holds_at' {W w : World} {p : Option Addr} {n cp : Nat} {L : List Int} (h : Holds W w .u32 24 (.slice p n cp) L) : At w .u32 p L ∧ L.length = n ∧ n ≤ cp := by
  obtain ⟨p', cp', e, h1, ha, _⟩ := h.at'
  injection e with e1 e2 e3
  subst e1 e2 e3
  exact ⟨ha, rfl, h1⟩
end Go.Proofs.YtmomidkodjihjaaDoor
