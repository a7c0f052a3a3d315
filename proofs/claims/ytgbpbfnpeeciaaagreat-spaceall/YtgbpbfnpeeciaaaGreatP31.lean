import Derived.Test.YtgbpbfnpeeciaaaGreatP15
import Derived.Test.YtgbpbfnpeeciaaaGreatP01
import Derived.Test.YtgbpbfnpeeciaaaGreatP30
import Derived.Test.YtgbpbfnpeeciaaaGreatP26
import Derived.Test.YtgbpbfnpeeciaaaGreatP29
import Derived.Test.YtgbpbfnpeeciaaaGreatP16
namespace Go.Proofs.YtgbpbfnpeeciaaaGreat
open Go.RowKit
set_option maxRecDepth 100000
set_option maxHeartbeats 8000000
theorem rsec_any (W : World) (p : Int) : Calls Tryz.prog 74 #[.int .i64 p] W fun x W' => x = .returned (fr true p) ∧ Below W.heap.size W W' := by
  unfold fr
  go_enter Tryz.func74, Tryz.ntmps74
  go_wp2_with fail
  go_returns
  exact ⟨rfl, below_one _ _⟩
theorem cel122 (W : World) (x : En) : Cel (W.alloc (.cells x.cs.toArray 122)) W.heap.size 122 x.cs := heap_alloc_new _ _
theorem rhas_any (W : World) (p : Rp) (d : DS) (h : RDB W p d) (q t s : Int) (ht : t ≠ 0) :
    Calls Tryz.prog 75 #[ptr p.g, .int .i64 q, .int .i64 t, .int .i64 s] W fun x W' => x = .returned (.bool (d.own s q t)) ∧ Below W.heap.size W W' := by
  have HE := hid (rentry_any W p d h q)
  have HO : Hid (d.own s q t = (decide (d.entE q = 0) && ((d.ent q).t == t) && ((d.ent q).o == s))) := hid (by
    unfold DS.own
    by_cases hq : d.there q = true
    · have : d.entE q = 0 := by unfold DS.entE; rw [if_pos hq]
      rw [this]
      simp
    · have h1 : (d.ent q).t = 0 := by unfold DS.ent; rw [if_neg hq]; rfl
      rw [h1]
      have : ((0 : Int) == t) = false := by simpa using fun h => ht h.symm
      rw [this]
      simp)
  rw [HO.out, show decide (d.entE q = 0) = (d.entE q == 0) by simp [BEq.beq]]
  generalize d.ent q = x at *
  generalize d.entE q = f at *
  clear h HO
  go_enter Tryz.func75, Tryz.ntmps75
  go_wp2_with fail
  refine HE.out.mono ?_
  rintro e w1 ⟨rfl, hb1⟩
  have HB := hid (hb1.trans ((below_one w1 (.cells x.cs.toArray 122)).mono hb1.size))
  have c0 := (cel122 w1 x).cell 0
  have c1 := (cel122 w1 x).cell 1
  unfold En.cs at *
  simp only [List.getElem?_cons_zero, List.getElem?_cons_succ] at c0 c1
  simp only [En.v, En.cs]
  clear hb1 HE
  cases hf : (f == 0) <;> cases ht2 : (x.t == t) <;> cases ho2 : (x.o == s) <;> (go_wp2_with fail; go_ret; refine ⟨?_, HB.out⟩; rw [hf, ht2, ho2]; rfl)
theorem entE_two (d : DS) (q : Int) : d.entE q = 0 ∨ d.entE q = 5 := by
  unfold DS.entE
  split
  · exact .inl rfl
  · exact .inr rfl
theorem rtable_any (W : World) (p : Rp) (d : DS) (h : RDB W p d) (hU : d.m.U) (s : Int) :
    Calls Tryz.prog 30 #[ptr p.g, .int .i64 s] W fun x W' => x = .returned (.tuple #[.int .i64 (if d.folE s = 0 then d.fst s else 0), .int .i64 (d.folE s)]) ∧ Below W.heap.size W W' := by
  have HE := hid (rentry_any W p d h s)
  have HH := hid h
  have HP := hid (fun (w : World) (hw : Below W.heap.size W w) => rpeek_any w p.r d.m (h.on hw).mem true s 0)
  have HS := hid (fun (w : World) (hw : Below W.heap.size W w) => rhas_any w p d (h.on hw) (d.fst s) 3 s (by decide))
  have HF : Hid (d.folE s = if d.preE s ≠ 0 then d.preE s else if d.own s (d.fst s) 3 = true then 0 else 124) := hid rfl
  have HPre : Hid (d.preE s = if d.entE s ≠ 0 then d.entE s else if (d.ent s).t ≠ 1 then 124 else if (d.ent s).s = 3 then 3 else 0) := hid rfl
  have h5 := entE_two d s
  have hw := hU.word true s 0
  have HQ : Hid (d.m.word true s 0 = d.fst s) := hid rfl
  have hw2 : 0 ≤ d.fst s ∧ d.fst s < 4294967296 := hw
  rw [HQ.out] at HP
  clear hw HQ
  generalize d.fst s = q at *
  generalize d.own s q 3 = b at *
  generalize d.folE s = F at *
  generalize d.preE s = P at *
  have HFX := HF.out
  have HPX := HPre.out
  clear HF HPre
  generalize d.ent s = x at *
  generalize d.entE s = f at *
  have HZ := hid (fun (w : World) (hw : Below W.heap.size W w) => (h.on hw).c0)
  have w1 : IntKind.i64.wrap q = q := by rw [IntKind.wrap_i64]; omega
  obtain ⟨q0, q1⟩ := hw2
  clear h hU
  simp only [ptr] at *
  go_enter Tryz.func30, Tryz.ntmps30
  go_wp2_with fail
  refine HE.out.mono ?_
  rintro e w1 ⟨rfl, hb1⟩
  have HB := hid (hb1.trans ((below_one w1 (.cells x.cs.toArray 122)).mono hb1.size))
  have c0 := (cel122 w1 x).cell 0
  have c3 := (cel122 w1 x).cell 3
  unfold En.cs at *
  simp only [List.getElem?_cons_zero, List.getElem?_cons_succ] at c0 c3
  simp only [En.v, En.cs]
  clear hb1 HE
  have HB : Hid (Below W.heap.size W (w1.alloc (.cells #[.int .i64 x.t, .int .i64 x.o, .int .i64 x.r, .int .i64 x.s, .bool x.e] 122))) := HB
  go_upto_region 2 with fail
  generalize World.alloc w1 _ = w2 at *
  generalize w1.heap.size = gx at *
  rcases h5 with rfl | rfl
  · by_cases ht : x.t = 1
    · rw [ht] at c0
      by_cases hs : x.s = 3
      · rw [hs] at c3
        have hP : P = 3 := by rw [HPX, if_neg (by decide), if_neg (by rw [ht]; decide), if_pos hs]
        subst hP
        have hF : F = 3 := by rw [HFX, if_pos (by decide)]
        subst hF
        clear HPX HFX
        go_wp2_with fail
        go_ret2
        exact ⟨rfl, HB.out⟩
      · have hs2 : (x.s == 3) = false := by simpa using hs
        have hP : P = 0 := by rw [HPX, if_neg (by decide), if_neg (by rw [ht]; decide), if_neg hs]
        subst hP
        rw [if_neg (by decide)] at HFX
        clear HPX
        go_upto_region 8 with fail
        clear c0 c3
        refine wp_region_held_drew (S := fun w => Below W.heap.size W w) (by kernel_rfl) HB.out.drew (fun hHeld => ?_)
        refine tk 0 ⟨some 23, .move (.tmp 0), 45, "ref.go:77", #[], none⟩ (.pointer (some ⟨p.g, 0, none⟩)) ?_
        simp only [Act.put, List.setIfInBounds_toArray, List.set_cons_zero, List.set_cons_succ]
        refine tk 1 ⟨some 24, .nilCheck (.tmp 23), 0, "ref.go:77", #[⟨0, .data⟩], none⟩ (.pointer (some ⟨p.g, 0, none⟩)) ?_
        simp only [Act.put, List.setIfInBounds_toArray, List.set_cons_zero, List.set_cons_succ]
        refine tk 2 ⟨some 25, .fieldAddr 70 (.tmp 24) 0, 0, "ref.go:77", #[⟨1, .data⟩], none⟩ (.pointer (some ⟨p.g, 0, none⟩)) ?_
        simp only [Act.put, List.setIfInBounds_toArray, List.set_cons_zero, List.set_cons_succ]
        refine tk 3 ⟨some 26, .load 40 (.tmp 25), 40, "ref.go:77", #[⟨2, .data⟩], none⟩ (.pointer (some ⟨p.r.g, 0, none⟩)) ?_ (hy := Or.inl ⟨by rfl, by intro w hSw; have z := HZ.out w hSw; go_simp⟩)
        simp only [Act.put, List.setIfInBounds_toArray, List.set_cons_zero, List.set_cons_succ]
        refine tk 4 ⟨some 27, .move (.tmp 1), 3, "ref.go:77", #[], none⟩ (.int .i64 s) ?_
        simp only [Act.put, List.setIfInBounds_toArray, List.set_cons_zero, List.set_cons_succ]
        refine wpAnyH_ready (rs := [5]) (by kernel_rfl) (by simp) (AllReadyH.cons (o := ⟨some 28, .call { callee := .value (.func 74), args := #[.tmp 27], argTypes := #[3] }, 72, "ref.go:77", #[⟨4, .data⟩], none⟩) rfl (fun KQ hK => ?_) AllReadyH.nil)
        go_simp
        refine (rsec_any _ s).mono ?_
        rintro e w3 ⟨rfl, hb3⟩
        have HB3 := hid (Below.trans hHeld (hb3.mono hHeld.size))
        clear hb3
        go_wp2_with fail
        refine hK.out _ _ HB3.out (fun hHeld => ?_)
        clear hK KQ
        try simp only [Act.put, List.setIfInBounds_toArray, List.set_cons_zero, List.set_cons_succ]
        refine wpAnyH_ready (rs := [6]) (by kernel_rfl) (by simp) (AllReadyH.cons (o := ⟨some 29, .call { callee := .value (.func 51), args := #[.tmp 26, .tmp 28, .const (.int .i64 0)], argTypes := #[40, 72, 3] }, 29, "ref.go:77", #[⟨3, .data⟩, ⟨5, .data⟩, ⟨5, .chain⟩], none⟩) rfl (fun KQ hK => ?_) AllReadyH.nil)
        go_simp
        refine (HP.out _ HB3.out).mono ?_
        rintro e w4 ⟨rfl, hb4⟩
        have HB4 := hid (HB3.out.trans (hb4.mono HB3.out.size))
        clear hb4 HB3
        go_wp2_with fail
        refine hK.out _ _ HB4.out (fun hHeld => ?_)
        clear hK KQ
        try simp only [Act.put, List.setIfInBounds_toArray, List.set_cons_zero, List.set_cons_succ]
        refine tk 7 ⟨some 30, .convert 29 3 (.tmp 29), 3, "ref.go:77", #[⟨6, .data⟩], none⟩ (.int .i64 q) ?_
        simp only [Act.put, List.setIfInBounds_toArray, List.set_cons_zero, List.set_cons_succ]
        refine wpAnyH_ready (rs := [8]) (by kernel_rfl) (by simp) (AllReadyH.cons (o := ⟨some 8, .assign (.tmp 30), 3, "ref.go:77", #[⟨7, .data⟩, ⟨6, .chain⟩, ⟨0, .phase⟩, ⟨1, .phase⟩, ⟨2, .phase⟩, ⟨3, .phase⟩, ⟨4, .phase⟩, ⟨5, .phase⟩, ⟨6, .phase⟩, ⟨7, .phase⟩], none⟩) rfl (fun KQ hK => ?_) AllReadyH.nil)
        go_simp
        refine hK.out _ _ HB4.out (fun hHeld => ?_)
        clear hK KQ
        try simp only [Act.put, List.setIfInBounds_toArray, List.set_cons_zero, List.set_cons_succ]
        refine wpAnyH_done (by kernel_rfl) ?_ _
        cases b with
        | true =>
          rw [if_pos rfl] at HFX
          subst HFX
          go_wp2_with fail
          refine (HS.out _ HB4.out).mono ?_
          rintro e w5 ⟨rfl, hb5⟩
          have HB5 := hid (HB4.out.trans (hb5.mono HB4.out.size))
          clear hb5
          go_wp2_with fail
          go_ret2
          exact ⟨rfl, HB5.out⟩
        | false =>
          rw [if_neg (by decide)] at HFX
          subst HFX
          go_wp2_with fail
          refine (HS.out _ HB4.out).mono ?_
          rintro e w5 ⟨rfl, hb5⟩
          have HB5 := hid (HB4.out.trans (hb5.mono HB4.out.size))
          clear hb5
          go_wp2_with fail
          go_ret2
          exact ⟨rfl, HB5.out⟩
    · have ht2 : (x.t == 1) = false := by simpa using ht
      have hP : P = 124 := by rw [HPX, if_neg (by decide), if_pos ht]
      subst hP
      have hF : F = 124 := by rw [HFX, if_pos (by decide)]
      subst hF
      clear HPX HFX
      go_wp2_with fail
      go_ret2
      exact ⟨rfl, HB.out⟩
  · have hP : P = 5 := by rw [HPX, if_pos (by decide)]
    subst hP
    have hF : F = 5 := by rw [HFX, if_pos (by decide)]
    subst hF
    clear HPX HFX
    go_wp2_with fail
    go_ret2
    exact ⟨rfl, HB.out⟩
end Go.Proofs.YtgbpbfnpeeciaaaGreat
namespace Go.Proofs.YtgbpbfnpeeciaaaGreat
open Go.RowKit
set_option maxRecDepth 100000
set_option maxHeartbeats 8000000
theorem rplc_any (W : World) (p : Rp) (d : DS) (h : RDB W p d) (hU : d.m.U) (s va : Int) (v0 : 0 ≤ va) (v1 : va < 4294967296) :
    Calls Tryz.prog 86 #[ptr p.g, .int .i64 s, .int .u32 va] W fun x W' => x = .returned (.tuple #[.int .i64 (if d.fndE s va = 0 then pf (d.w1 s va) else 0), .int .i64 (if d.fndE s va = 0 then spJ va else 0), .int .i64 (d.fndE s va)]) ∧ Below W.heap.size W W' := by
  have HE := hid (rtable_any W p d h hU s)
  have HP := hid (fun (w : World) (hw : Below W.heap.size W w) => rpeek_any w p.r d.m (h.on hw).mem true (d.fst s) (spI va))
  have HS := hid (fun (w : World) (hw : Below W.heap.size W w) => rhas_any w p d (h.on hw) (pf (d.w1 s va)) 4 s (by decide))
  have HSp := hid (fun (w : World) => rsplit_any w va v0 v1)
  have HPf := hid (fun (w : World) => rpf_any w (d.w1 s va))
  have HZ := hid (fun (w : World) (hw : Below W.heap.size W w) => (h.on hw).c0)
  have HF : Hid (d.fndE s va = if d.folE s ≠ 0 then d.folE s else if spE va ≠ 0 then spE va else if d.isS s (d.w1 s va) = true then 0 else 141) := hid rfl
  have HI : Hid (d.isS s (d.w1 s va) = (decide (pfE (d.w1 s va) = 0) && d.own s (pf (d.w1 s va)) 4)) := hid rfl
  have HW : Hid (d.m.word true (d.fst s) (spI va) = d.w1 s va) := hid rfl
  have h9 : spE va = 0 ∨ spE va = 91 := by unfold spE; split <;> simp
  rw [HW.out] at HP
  clear h hU HW v0 v1
  have HFX := HF.out
  have HIX := HI.out
  clear HF HI
  generalize d.fndE s va = F at *
  generalize d.isS s (d.w1 s va) = I at *
  generalize d.w1 s va = w9 at *
  generalize pf w9 = pg at *
  generalize pfE w9 = pe at *
  generalize d.own s pg 4 = b at *
  generalize d.folE s = fo at *
  generalize d.fst s = t at *
  generalize spI va = i at *
  generalize spJ va = j at *
  generalize spE va = e9 at *
  simp only [ptr] at *
  by_cases hfo : fo = 0
  · subst hfo
    rw [if_neg (by decide)] at HFX
    rw [if_pos rfl] at HE
    rcases h9 with rfl | rfl
    · rw [if_neg (by decide)] at HFX
      go_enter Tryz.func86, Tryz.ntmps86
      go_wp2_with fail
      refine HE.out.mono ?_
      rintro e w1 ⟨rfl, hb1⟩
      have HB1 := hid hb1
      clear hb1 HE
      go_wp2_with fail
      refine (HSp.out _).mono ?_
      rintro e w2 ⟨rfl, rfl⟩
      go_upto_region 7 with fail
      refine wp_region_held_drew (S := fun w => Below W.heap.size W w) (by kernel_rfl) HB1.out.drew (fun hHeld => ?_)
      refine tk 0 ⟨some 34, .move (.tmp 0), 45, "ref.go:117", #[], none⟩ (.pointer (some ⟨p.g, 0, none⟩)) ?_
      simp only [Act.put, List.setIfInBounds_toArray, List.set_cons_zero, List.set_cons_succ]
      refine tk 1 ⟨some 35, .nilCheck (.tmp 34), 0, "ref.go:117", #[⟨0, .data⟩], none⟩ (.pointer (some ⟨p.g, 0, none⟩)) ?_
      simp only [Act.put, List.setIfInBounds_toArray, List.set_cons_zero, List.set_cons_succ]
      refine tk 2 ⟨some 36, .fieldAddr 70 (.tmp 35) 0, 0, "ref.go:117", #[⟨1, .data⟩], none⟩ (.pointer (some ⟨p.g, 0, none⟩)) ?_
      simp only [Act.put, List.setIfInBounds_toArray, List.set_cons_zero, List.set_cons_succ]
      refine tk 3 ⟨some 37, .load 40 (.tmp 36), 40, "ref.go:117", #[⟨2, .data⟩], none⟩ (.pointer (some ⟨p.r.g, 0, none⟩)) ?_ (hy := Or.inl ⟨by rfl, by intro w hSw; have z := HZ.out w hSw; go_simp⟩)
      simp only [Act.put, List.setIfInBounds_toArray, List.set_cons_zero, List.set_cons_succ]
      refine tk 4 ⟨some 38, .move (.tmp 9), 3, "ref.go:117", #[], none⟩ (.int .i64 t) ?_
      simp only [Act.put, List.setIfInBounds_toArray, List.set_cons_zero, List.set_cons_succ]
      refine tk 6 ⟨some 40, .move (.tmp 11), 3, "ref.go:117", #[], none⟩ (.int .i64 i) ?_
      simp only [Act.put, List.setIfInBounds_toArray, List.set_cons_zero, List.set_cons_succ]
      refine wpAnyH_ready (rs := [5]) (by kernel_rfl) (by simp) (AllReadyH.cons (o := ⟨some 39, .call { callee := .value (.func 74), args := #[.tmp 38], argTypes := #[3] }, 72, "ref.go:117", #[⟨4, .data⟩], none⟩) rfl (fun KQ hK => ?_) AllReadyH.nil)
      go_simp
      refine (rsec_any _ t).mono ?_
      rintro e w3 ⟨rfl, hb3⟩
      have HB3 := hid (Below.trans hHeld (hb3.mono hHeld.size))
      clear hb3
      go_wp2_with fail
      refine hK.out _ _ HB3.out (fun hHeld => ?_)
      clear hK KQ
      try simp only [Act.put, List.setIfInBounds_toArray, List.set_cons_zero, List.set_cons_succ]
      refine wpAnyH_ready (rs := [7]) (by kernel_rfl) (by simp) (AllReadyH.cons (o := ⟨some 41, .call { callee := .value (.func 51), args := #[.tmp 37, .tmp 39, .tmp 40], argTypes := #[40, 72, 3] }, 29, "ref.go:117", #[⟨3, .data⟩, ⟨5, .data⟩, ⟨6, .data⟩, ⟨5, .chain⟩], none⟩) rfl (fun KQ hK => ?_) AllReadyH.nil)
      go_simp
      refine (HP.out _ HB3.out).mono ?_
      rintro e w4 ⟨rfl, hb4⟩
      have HB4 := hid (HB3.out.trans (hb4.mono HB3.out.size))
      clear hb4 HB3
      go_wp2_with fail
      refine hK.out _ _ HB4.out (fun hHeld => ?_)
      clear hK KQ
      try simp only [Act.put, List.setIfInBounds_toArray, List.set_cons_zero, List.set_cons_succ]
      refine wpAnyH_ready (rs := [8]) (by kernel_rfl) (by simp) (AllReadyH.cons (o := ⟨some 42, .call { callee := .value (.func 113), args := #[.tmp 41], argTypes := #[29] }, 80, "ref.go:117", #[⟨7, .data⟩, ⟨7, .chain⟩], none⟩) rfl (fun KQ hK => ?_) AllReadyH.nil)
      go_simp
      refine (HPf.out _).mono ?_
      rintro e w5 ⟨rfl, rfl⟩
      have HB5 := HB4
      clear HB4
      go_wp2_with fail
      refine hK.out _ _ HB5.out (fun hHeld => ?_)
      clear hK KQ
      try simp only [Act.put, List.setIfInBounds_toArray, List.set_cons_zero, List.set_cons_succ]
      refine tk 9 ⟨some 33, .move (.tmp 42), 80, "ref.go:117", #[⟨8, .data⟩], none⟩ (.tuple #[.int .i64 pg, .int .i64 pe]) ?_
      simp only [Act.put, List.setIfInBounds_toArray, List.set_cons_zero, List.set_cons_succ]
      refine tk 10 ⟨some 43, .extract (.tmp 33) 0, 3, "ref.go:117", #[⟨9, .data⟩], none⟩ (.int .i64 pg) ?_
      simp only [Act.put, List.setIfInBounds_toArray, List.set_cons_zero, List.set_cons_succ]
      refine tk 11 ⟨some 44, .extract (.tmp 33) 1, 3, "ref.go:117", #[⟨9, .data⟩, { on := 12, ground := .gcOnly Departure.lateStores }], none⟩ (.int .i64 pe) ?_
      simp only [Act.put, List.setIfInBounds_toArray, List.set_cons_zero, List.set_cons_succ]
      refine wpAnyH_ready (rs := [12]) (by kernel_rfl) (by simp) (AllReadyH.cons (o := ⟨some 14, .assign (.tmp 43), 3, "ref.go:117", #[⟨10, .data⟩, ⟨8, .chain⟩, ⟨0, .phase⟩, ⟨1, .phase⟩, ⟨2, .phase⟩, ⟨3, .phase⟩, ⟨4, .phase⟩, ⟨5, .phase⟩, ⟨6, .phase⟩, ⟨7, .phase⟩, ⟨8, .phase⟩, ⟨9, .phase⟩, ⟨10, .phase⟩, { on := 11, ground := .textOnly Departure.lateStores }], none⟩) rfl (fun KQ hK => ?_) AllReadyH.nil)
      go_simp
      refine hK.out _ _ HB5.out (fun hHeld => ?_)
      clear hK KQ
      try simp only [Act.put, List.setIfInBounds_toArray, List.set_cons_zero, List.set_cons_succ]
      refine wpAnyH_ready (rs := [13]) (by kernel_rfl) (by simp) (AllReadyH.cons (o := ⟨some 10, .assign (.tmp 44), 3, "ref.go:117", #[⟨11, .data⟩, ⟨12, .chain⟩, ⟨0, .phase⟩, ⟨1, .phase⟩, ⟨2, .phase⟩, ⟨3, .phase⟩, ⟨4, .phase⟩, ⟨5, .phase⟩, ⟨6, .phase⟩, ⟨7, .phase⟩, ⟨8, .phase⟩, ⟨9, .phase⟩, ⟨10, .phase⟩, ⟨11, .phase⟩, ⟨12, .phase⟩], none⟩) rfl (fun KQ hK => ?_) AllReadyH.nil)
      go_simp
      refine hK.out _ _ HB5.out (fun hHeld => ?_)
      clear hK KQ
      try simp only [Act.put, List.setIfInBounds_toArray, List.set_cons_zero, List.set_cons_succ]
      refine wpAnyH_done (by kernel_rfl) ?_ _
      by_cases hpe : pe = 0
      · subst hpe
        rw [show decide ((0 : Int) = 0) = true from rfl, Bool.true_and] at HIX
        subst HIX
        cases I with
        | true =>
          rw [if_pos rfl] at HFX
          subst HFX
          go_wp2_with fail
          refine (HS.out _ HB5.out).mono ?_
          rintro e w7 ⟨rfl, hb7⟩
          have HB7 := hid (HB5.out.trans (hb7.mono HB5.out.size))
          clear hb7
          go_wp2_with fail
          go_ret3
          exact ⟨rfl, HB7.out⟩
        | false =>
          rw [if_neg (by decide)] at HFX
          subst HFX
          go_wp2_with fail
          refine (HS.out _ HB5.out).mono ?_
          rintro e w7 ⟨rfl, hb7⟩
          have HB7 := hid (HB5.out.trans (hb7.mono HB5.out.size))
          clear hb7
          go_wp2_with fail
          go_ret3
          exact ⟨rfl, HB7.out⟩
      · have hI : I = false := by rw [HIX, decide_eq_false hpe]; rfl
        subst hI
        rw [if_neg (by decide)] at HFX
        subst HFX
        have hpe2 : (pe == 0) = false := by simpa using hpe
        clear HIX
        go_wp2_with fail
        go_ret3
        exact ⟨rfl, HB5.out⟩
    · rw [if_pos (by decide)] at HFX
      subst HFX
      clear HIX
      go_enter Tryz.func86, Tryz.ntmps86
      go_wp2_with fail
      refine HE.out.mono ?_
      rintro e w1 ⟨rfl, hb1⟩
      have HB1 := hid hb1
      clear hb1 HE
      go_wp2_with fail
      refine (HSp.out _).mono ?_
      rintro e w2 ⟨rfl, rfl⟩
      go_wp2_with fail
      go_ret3
      exact ⟨rfl, HB1.out⟩
  · rw [if_pos hfo] at HFX
    subst HFX
    have h8 : (F == 0) = false := by simpa using hfo
    rw [if_neg hfo] at HE
    rw [if_neg hfo, if_neg hfo]
    clear HIX
    go_enter Tryz.func86, Tryz.ntmps86
    go_wp2_with fail
    refine HE.out.mono ?_
    rintro e w1 ⟨rfl, hb1⟩
    have HB1 := hid hb1
    clear hb1 HE
    go_wp2_with fail
    go_ret3
    exact ⟨rfl, HB1.out⟩
end Go.Proofs.YtgbpbfnpeeciaaaGreat
namespace Go.Proofs.YtgbpbfnpeeciaaaGreat
open Go.RowKit
set_option maxRecDepth 100000
set_option maxHeartbeats 8000000
theorem rslot_any (W : World) (p : Rp) (d : DS) (h : RDB W p d) (hU : d.m.U) (s va : Int) (v0 : 0 ≤ va) (v1 : va < 4294967296) :
    Calls Tryz.prog 34 #[ptr p.g, .int .i64 s, .int .u32 va] W fun x W' => x = .returned (.int .i64 (d.slotE s va)) ∧ Below W.heap.size W W' := by
  have HE := hid (rplc_any W p d h hU s va v0 v1)
  have HP := hid (fun (w : World) (hw : Below W.heap.size W w) => rpeek_any w p.r d.m (h.on hw).mem true (pf (d.w1 s va)) (spJ va))
  have HZ := hid (fun (w : World) (hw : Below W.heap.size W w) => (h.on hw).c0)
  have HF : Hid (d.slotE s va = if d.fndE s va = 0 then (if d.w2 s va = 0 then 0 else 140) else d.fndE s va) := hid rfl
  have HW : Hid (d.m.word true (pf (d.w1 s va)) (spJ va) = d.w2 s va) := hid rfl
  rw [HW.out] at HP
  have HFX := HF.out
  clear h hU HW v0 v1 HF
  generalize d.slotE s va = F at *
  generalize d.w2 s va = w9 at *
  generalize pf (d.w1 s va) = pg at *
  generalize spJ va = j at *
  generalize d.fndE s va = fo at *
  simp only [ptr] at *
  by_cases hfo : fo = 0
  · subst hfo
    rw [if_pos rfl] at HFX
    rw [if_pos rfl, if_pos rfl] at HE
    go_enter Tryz.func34, Tryz.ntmps34
    go_wp2_with fail
    refine HE.out.mono ?_
    rintro e w1 ⟨rfl, hb1⟩
    have HB1 := hid hb1
    clear hb1 HE
    go_upto_region 4 with fail
    by_cases hw9 : w9 = 0
    · subst hw9
      rw [if_pos rfl] at HFX
      subst HFX
      refine wp_region_held_drew (S := fun w => Below W.heap.size W w) (by kernel_rfl) HB1.out.drew (fun hHeld => ?_)
      refine tk 0 ⟨some 21, .move (.tmp 0), 45, "ref.go:130", #[], none⟩ (.pointer (some ⟨p.g, 0, none⟩)) ?_
      simp only [Act.put, List.setIfInBounds_toArray, List.set_cons_zero, List.set_cons_succ]
      refine tk 1 ⟨some 22, .nilCheck (.tmp 21), 0, "ref.go:130", #[⟨0, .data⟩], none⟩ (.pointer (some ⟨p.g, 0, none⟩)) ?_
      simp only [Act.put, List.setIfInBounds_toArray, List.set_cons_zero, List.set_cons_succ]
      refine tk 2 ⟨some 23, .fieldAddr 70 (.tmp 22) 0, 0, "ref.go:130", #[⟨1, .data⟩], none⟩ (.pointer (some ⟨p.g, 0, none⟩)) ?_
      simp only [Act.put, List.setIfInBounds_toArray, List.set_cons_zero, List.set_cons_succ]
      refine tk 3 ⟨some 24, .load 40 (.tmp 23), 40, "ref.go:130", #[⟨2, .data⟩], none⟩ (.pointer (some ⟨p.r.g, 0, none⟩)) ?_ (hy := Or.inl ⟨by rfl, by intro w hSw; have z := HZ.out w hSw; go_simp⟩)
      simp only [Act.put, List.setIfInBounds_toArray, List.set_cons_zero, List.set_cons_succ]
      refine tk 4 ⟨some 25, .move (.tmp 7), 3, "ref.go:130", #[], none⟩ (.int .i64 pg) ?_
      simp only [Act.put, List.setIfInBounds_toArray, List.set_cons_zero, List.set_cons_succ]
      refine tk 6 ⟨some 27, .move (.tmp 8), 3, "ref.go:130", #[], none⟩ (.int .i64 j) ?_
      simp only [Act.put, List.setIfInBounds_toArray, List.set_cons_zero, List.set_cons_succ]
      refine wpAnyH_ready (rs := [5]) (by kernel_rfl) (by simp) (AllReadyH.cons (o := ⟨some 26, .call { callee := .value (.func 74), args := #[.tmp 25], argTypes := #[3] }, 72, "ref.go:130", #[⟨4, .data⟩], none⟩) rfl (fun KQ hK => ?_) AllReadyH.nil)
      go_simp
      refine (rsec_any _ pg).mono ?_
      rintro e w3 ⟨rfl, hb3⟩
      have HB3 := hid (Below.trans hHeld (hb3.mono hHeld.size))
      clear hb3
      go_wp2_with fail
      refine hK.out _ _ HB3.out (fun hHeld => ?_)
      clear hK KQ
      try simp only [Act.put, List.setIfInBounds_toArray, List.set_cons_zero, List.set_cons_succ]
      refine wpAnyH_ready (rs := [7]) (by kernel_rfl) (by simp) (AllReadyH.cons (o := ⟨some 28, .call { callee := .value (.func 51), args := #[.tmp 24, .tmp 26, .tmp 27], argTypes := #[40, 72, 3] }, 29, "ref.go:130", #[⟨3, .data⟩, ⟨5, .data⟩, ⟨6, .data⟩, ⟨5, .chain⟩], none⟩) rfl (fun KQ hK => ?_) AllReadyH.nil)
      go_simp
      refine (HP.out _ HB3.out).mono ?_
      rintro e w4 ⟨rfl, hb4⟩
      have HB4 := hid (HB3.out.trans (hb4.mono HB3.out.size))
      clear hb4 HB3
      go_wp2_with fail
      refine hK.out _ _ HB4.out (fun hHeld => ?_)
      clear hK KQ
      try simp only [Act.put, List.setIfInBounds_toArray, List.set_cons_zero, List.set_cons_succ]
      refine tk 8 ⟨some 29, .binOp .neq 29 (.tmp 28) (.const (.int .u32 0)) 29, 4, "ref.go:130", #[⟨7, .data⟩], none⟩ (.bool false) ?_
      simp only [Act.put, List.setIfInBounds_toArray, List.set_cons_zero, List.set_cons_succ]
      refine wpAnyH_done (by kernel_rfl) ?_ _
      go_wp2_with fail
      go_ret
      exact ⟨rfl, HB4.out⟩
    · rw [if_neg hw9] at HFX
      subst HFX
      have hw8 : (w9 == 0) = false := by simpa using hw9
      refine wp_region_held_drew (S := fun w => Below W.heap.size W w) (by kernel_rfl) HB1.out.drew (fun hHeld => ?_)
      refine tk 0 ⟨some 21, .move (.tmp 0), 45, "ref.go:130", #[], none⟩ (.pointer (some ⟨p.g, 0, none⟩)) ?_
      simp only [Act.put, List.setIfInBounds_toArray, List.set_cons_zero, List.set_cons_succ]
      refine tk 1 ⟨some 22, .nilCheck (.tmp 21), 0, "ref.go:130", #[⟨0, .data⟩], none⟩ (.pointer (some ⟨p.g, 0, none⟩)) ?_
      simp only [Act.put, List.setIfInBounds_toArray, List.set_cons_zero, List.set_cons_succ]
      refine tk 2 ⟨some 23, .fieldAddr 70 (.tmp 22) 0, 0, "ref.go:130", #[⟨1, .data⟩], none⟩ (.pointer (some ⟨p.g, 0, none⟩)) ?_
      simp only [Act.put, List.setIfInBounds_toArray, List.set_cons_zero, List.set_cons_succ]
      refine tk 3 ⟨some 24, .load 40 (.tmp 23), 40, "ref.go:130", #[⟨2, .data⟩], none⟩ (.pointer (some ⟨p.r.g, 0, none⟩)) ?_ (hy := Or.inl ⟨by rfl, by intro w hSw; have z := HZ.out w hSw; go_simp⟩)
      simp only [Act.put, List.setIfInBounds_toArray, List.set_cons_zero, List.set_cons_succ]
      refine tk 4 ⟨some 25, .move (.tmp 7), 3, "ref.go:130", #[], none⟩ (.int .i64 pg) ?_
      simp only [Act.put, List.setIfInBounds_toArray, List.set_cons_zero, List.set_cons_succ]
      refine tk 6 ⟨some 27, .move (.tmp 8), 3, "ref.go:130", #[], none⟩ (.int .i64 j) ?_
      simp only [Act.put, List.setIfInBounds_toArray, List.set_cons_zero, List.set_cons_succ]
      refine wpAnyH_ready (rs := [5]) (by kernel_rfl) (by simp) (AllReadyH.cons (o := ⟨some 26, .call { callee := .value (.func 74), args := #[.tmp 25], argTypes := #[3] }, 72, "ref.go:130", #[⟨4, .data⟩], none⟩) rfl (fun KQ hK => ?_) AllReadyH.nil)
      go_simp
      refine (rsec_any _ pg).mono ?_
      rintro e w3 ⟨rfl, hb3⟩
      have HB3 := hid (Below.trans hHeld (hb3.mono hHeld.size))
      clear hb3
      go_wp2_with fail
      refine hK.out _ _ HB3.out (fun hHeld => ?_)
      clear hK KQ
      try simp only [Act.put, List.setIfInBounds_toArray, List.set_cons_zero, List.set_cons_succ]
      refine wpAnyH_ready (rs := [7]) (by kernel_rfl) (by simp) (AllReadyH.cons (o := ⟨some 28, .call { callee := .value (.func 51), args := #[.tmp 24, .tmp 26, .tmp 27], argTypes := #[40, 72, 3] }, 29, "ref.go:130", #[⟨3, .data⟩, ⟨5, .data⟩, ⟨6, .data⟩, ⟨5, .chain⟩], none⟩) rfl (fun KQ hK => ?_) AllReadyH.nil)
      go_simp
      refine (HP.out _ HB3.out).mono ?_
      rintro e w4 ⟨rfl, hb4⟩
      have HB4 := hid (HB3.out.trans (hb4.mono HB3.out.size))
      clear hb4 HB3
      go_wp2_with fail
      refine hK.out _ _ HB4.out (fun hHeld => ?_)
      clear hK KQ
      try simp only [Act.put, List.setIfInBounds_toArray, List.set_cons_zero, List.set_cons_succ]
      refine tk 8 ⟨some 29, .binOp .neq 29 (.tmp 28) (.const (.int .u32 0)) 29, 4, "ref.go:130", #[⟨7, .data⟩], none⟩ (.bool true) ?_ (hy := Or.inl ⟨by rfl, by intro w hSw; skip; go_simp⟩)
      simp only [Act.put, List.setIfInBounds_toArray, List.set_cons_zero, List.set_cons_succ]
      refine wpAnyH_done (by kernel_rfl) ?_ _
      go_wp2_with fail
      go_ret
      exact ⟨rfl, HB4.out⟩
  · rw [if_neg hfo] at HFX
    subst HFX
    have h8 : (F == 0) = false := by simpa using hfo
    rw [if_neg hfo, if_neg hfo] at HE
    go_enter Tryz.func34, Tryz.ntmps34
    go_wp2_with fail
    refine HE.out.mono ?_
    rintro e w1 ⟨rfl, hb1⟩
    have HB1 := hid hb1
    clear hb1 HE
    go_wp2_with fail
    go_ret
    exact ⟨rfl, HB1.out⟩
end Go.Proofs.YtgbpbfnpeeciaaaGreat
