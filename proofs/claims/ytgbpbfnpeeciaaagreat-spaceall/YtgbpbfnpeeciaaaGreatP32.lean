import Derived.Test.YtgbpbfnpeeciaaaGreatP31
import Derived.Test.YtgbpbfnpeeciaaaGreatP01
import Derived.Test.YtgbpbfnpeeciaaaGreatP12
namespace Go.Proofs.YtgbpbfnpeeciaaaGreat
open Go.RowKit
set_option maxRecDepth 100000
set_option maxHeartbeats 8000000
def DS.cutS (d : DS) (s va : Int) : DS := if d.cutE s va = 0 then d.wr (pf (d.w1 s va)) (spJ va) 0 else d
theorem rcut_any (W : World) (p : Rp) (d : DS) (h : RDB W p d) (hU : d.m.U) (s va : Int) (v0 : 0 ≤ va) (v1 : va < 4294967296) :
    Calls Tryz.prog 39 #[ptr p.g, .int .i64 s, .int .u32 va] W fun x W' => x = .returned (.int .i64 (d.cutE s va)) ∧ ∃ r', RG W W' p ⟨p.g, p.ge, p.cap, r'⟩ (d.cutS s va) := by
  have HE := hid (rplc_any W p d h hU s va v0 v1)
  have HP := hid (fun (w : World) (hw : Below W.heap.size W w) => rpeek_any w p.r d.m (h.on hw).mem true (pf (d.w1 s va)) (spJ va))
  have HZ := hid (fun (w : World) (hw : Below W.heap.size W w) => (h.on hw).c0)
  have HG := hid (RG.start h)
  have HF : Hid (d.cutE s va = if d.fndE s va = 0 then empE (d.w2 s va) else d.fndE s va) := hid rfl
  have HC : Hid (d.cutS s va = if d.cutE s va = 0 then d.wr (pf (d.w1 s va)) (spJ va) 0 else d) := hid rfl
  have HW : Hid (d.m.word true (pf (d.w1 s va)) (spJ va) = d.w2 s va) := hid rfl
  rw [HW.out] at HP
  rw [HC.out]
  have HFX := HF.out
  clear h hU HW v0 v1 HF HC
  generalize d.cutE s va = F at *
  generalize d.w2 s va = w9 at *
  generalize pf (d.w1 s va) = pg at *
  generalize spJ va = j at *
  generalize d.fndE s va = fo at *
  simp only [ptr] at *
  by_cases hfo : fo = 0
  · subst hfo
    rw [if_pos rfl] at HFX
    rw [if_pos rfl, if_pos rfl] at HE
    go_enter Tryz.func39, Tryz.ntmps39
    go_wp2_with fail
    refine HE.out.mono ?_
    rintro e w1 ⟨rfl, hb1⟩
    have HB1 := hid hb1
    have HG1 := hid (HG.out.on hb1)
    clear hb1 HE HG
    go_upto_region 4 with fail
    by_cases hw9 : w9 = 0
    · subst hw9
      have hF : F = 92 := HFX
      subst hF
      clear HFX
      have HG2 := hid (HG1.out.on (Below.refl _ _).drew)
      refine wp_region_held_drew (S := fun w => Below W.heap.size W w) (by kernel_rfl) HB1.out.drew (fun hHeld => ?_)
      refine tk 0 ⟨some 21, .move (.tmp 0), 45, "ref.go:157", #[], none⟩ (.pointer (some ⟨p.g, 0, none⟩)) ?_
      simp only [Act.put, List.setIfInBounds_toArray, List.set_cons_zero, List.set_cons_succ]
      refine tk 1 ⟨some 22, .nilCheck (.tmp 21), 0, "ref.go:157", #[⟨0, .data⟩], none⟩ (.pointer (some ⟨p.g, 0, none⟩)) ?_
      simp only [Act.put, List.setIfInBounds_toArray, List.set_cons_zero, List.set_cons_succ]
      refine tk 2 ⟨some 23, .fieldAddr 70 (.tmp 22) 0, 0, "ref.go:157", #[⟨1, .data⟩], none⟩ (.pointer (some ⟨p.g, 0, none⟩)) ?_
      simp only [Act.put, List.setIfInBounds_toArray, List.set_cons_zero, List.set_cons_succ]
      refine tk 3 ⟨some 24, .load 40 (.tmp 23), 40, "ref.go:157", #[⟨2, .data⟩], none⟩ (.pointer (some ⟨p.r.g, 0, none⟩)) ?_ (hy := Or.inl ⟨by rfl, by intro w hSw; have z := HZ.out w hSw; go_simp⟩)
      simp only [Act.put, List.setIfInBounds_toArray, List.set_cons_zero, List.set_cons_succ]
      refine tk 4 ⟨some 25, .move (.tmp 7), 3, "ref.go:157", #[], none⟩ (.int .i64 pg) ?_
      simp only [Act.put, List.setIfInBounds_toArray, List.set_cons_zero, List.set_cons_succ]
      refine tk 6 ⟨some 27, .move (.tmp 8), 3, "ref.go:157", #[], none⟩ (.int .i64 j) ?_
      simp only [Act.put, List.setIfInBounds_toArray, List.set_cons_zero, List.set_cons_succ]
      refine wpAnyH_ready (rs := [5]) (by kernel_rfl) (by simp) (AllReadyH.cons (o := ⟨some 26, .call { callee := .value (.func 74), args := #[.tmp 25], argTypes := #[3] }, 72, "ref.go:157", #[⟨4, .data⟩], none⟩) rfl (fun KQ hK => ?_) AllReadyH.nil)
      go_simp
      refine (rsec_any _ pg).mono ?_
      rintro e w3 ⟨rfl, hb3⟩
      have HG3 := hid (HG2.out.on hb3)
      clear HG2
      have HB3 := hid (Below.trans hHeld (hb3.mono hHeld.size))
      clear hb3
      go_wp2_with fail
      refine hK.out _ _ HB3.out (fun hHeld => ?_)
      clear hK KQ
      try simp only [Act.put, List.setIfInBounds_toArray, List.set_cons_zero, List.set_cons_succ]
      refine wpAnyH_ready (rs := [7]) (by kernel_rfl) (by simp) (AllReadyH.cons (o := ⟨some 28, .call { callee := .value (.func 51), args := #[.tmp 24, .tmp 26, .tmp 27], argTypes := #[40, 72, 3] }, 29, "ref.go:157", #[⟨3, .data⟩, ⟨5, .data⟩, ⟨6, .data⟩, ⟨5, .chain⟩], none⟩) rfl (fun KQ hK => ?_) AllReadyH.nil)
      go_simp
      refine (HP.out _ HB3.out).mono ?_
      rintro e w4 ⟨rfl, hb4⟩
      have HGX := hid (HG3.out.on hb4)
      clear HG3
      have HB4 := hid (HB3.out.trans (hb4.mono HB3.out.size))
      clear hb4 HB3
      go_wp2_with fail
      refine hK.out _ _ HB4.out (fun hHeld => ?_)
      clear hK KQ
      try simp only [Act.put, List.setIfInBounds_toArray, List.set_cons_zero, List.set_cons_succ]
      refine tk 8 ⟨some 29, .binOp .eql 29 (.tmp 28) (.const (.int .u32 0)) 29, 4, "ref.go:157", #[⟨7, .data⟩], none⟩ (.bool true) ?_
      simp only [Act.put, List.setIfInBounds_toArray, List.set_cons_zero, List.set_cons_succ]
      refine wpAnyH_done (by kernel_rfl) ?_ _
      go_wp2_with fail
      go_ret
      exact ⟨rfl, p.r, HGX.out⟩
    · have hF : F = 0 := by rw [HFX]; exact if_neg hw9
      subst hF
      clear HFX
      have hw8 : (w9 == 0) = false := by simpa using hw9
      have HG2 := hid (HG1.out.on (Below.refl _ _).drew)
      refine wp_region_held_drew (S := fun w => Below W.heap.size W w) (by kernel_rfl) HB1.out.drew (fun hHeld => ?_)
      refine tk 0 ⟨some 21, .move (.tmp 0), 45, "ref.go:157", #[], none⟩ (.pointer (some ⟨p.g, 0, none⟩)) ?_
      simp only [Act.put, List.setIfInBounds_toArray, List.set_cons_zero, List.set_cons_succ]
      refine tk 1 ⟨some 22, .nilCheck (.tmp 21), 0, "ref.go:157", #[⟨0, .data⟩], none⟩ (.pointer (some ⟨p.g, 0, none⟩)) ?_
      simp only [Act.put, List.setIfInBounds_toArray, List.set_cons_zero, List.set_cons_succ]
      refine tk 2 ⟨some 23, .fieldAddr 70 (.tmp 22) 0, 0, "ref.go:157", #[⟨1, .data⟩], none⟩ (.pointer (some ⟨p.g, 0, none⟩)) ?_
      simp only [Act.put, List.setIfInBounds_toArray, List.set_cons_zero, List.set_cons_succ]
      refine tk 3 ⟨some 24, .load 40 (.tmp 23), 40, "ref.go:157", #[⟨2, .data⟩], none⟩ (.pointer (some ⟨p.r.g, 0, none⟩)) ?_ (hy := Or.inl ⟨by rfl, by intro w hSw; have z := HZ.out w hSw; go_simp⟩)
      simp only [Act.put, List.setIfInBounds_toArray, List.set_cons_zero, List.set_cons_succ]
      refine tk 4 ⟨some 25, .move (.tmp 7), 3, "ref.go:157", #[], none⟩ (.int .i64 pg) ?_
      simp only [Act.put, List.setIfInBounds_toArray, List.set_cons_zero, List.set_cons_succ]
      refine tk 6 ⟨some 27, .move (.tmp 8), 3, "ref.go:157", #[], none⟩ (.int .i64 j) ?_
      simp only [Act.put, List.setIfInBounds_toArray, List.set_cons_zero, List.set_cons_succ]
      refine wpAnyH_ready (rs := [5]) (by kernel_rfl) (by simp) (AllReadyH.cons (o := ⟨some 26, .call { callee := .value (.func 74), args := #[.tmp 25], argTypes := #[3] }, 72, "ref.go:157", #[⟨4, .data⟩], none⟩) rfl (fun KQ hK => ?_) AllReadyH.nil)
      go_simp
      refine (rsec_any _ pg).mono ?_
      rintro e w3 ⟨rfl, hb3⟩
      have HG3 := hid (HG2.out.on hb3)
      clear HG2
      have HB3 := hid (Below.trans hHeld (hb3.mono hHeld.size))
      clear hb3
      go_wp2_with fail
      refine hK.out _ _ HB3.out (fun hHeld => ?_)
      clear hK KQ
      try simp only [Act.put, List.setIfInBounds_toArray, List.set_cons_zero, List.set_cons_succ]
      refine wpAnyH_ready (rs := [7]) (by kernel_rfl) (by simp) (AllReadyH.cons (o := ⟨some 28, .call { callee := .value (.func 51), args := #[.tmp 24, .tmp 26, .tmp 27], argTypes := #[40, 72, 3] }, 29, "ref.go:157", #[⟨3, .data⟩, ⟨5, .data⟩, ⟨6, .data⟩, ⟨5, .chain⟩], none⟩) rfl (fun KQ hK => ?_) AllReadyH.nil)
      go_simp
      refine (HP.out _ HB3.out).mono ?_
      rintro e w4 ⟨rfl, hb4⟩
      have HGX := hid (HG3.out.on hb4)
      clear HG3
      have HB4 := hid (HB3.out.trans (hb4.mono HB3.out.size))
      clear hb4 HB3
      go_wp2_with fail
      refine hK.out _ _ HB4.out (fun hHeld => ?_)
      clear hK KQ
      try simp only [Act.put, List.setIfInBounds_toArray, List.set_cons_zero, List.set_cons_succ]
      refine tk 8 ⟨some 29, .binOp .eql 29 (.tmp 28) (.const (.int .u32 0)) 29, 4, "ref.go:157", #[⟨7, .data⟩], none⟩ (.bool false) ?_ (hy := Or.inl ⟨by rfl, by intro w hSw; skip; go_simp⟩)
      simp only [Act.put, List.setIfInBounds_toArray, List.set_cons_zero, List.set_cons_succ]
      refine wpAnyH_done (by kernel_rfl) ?_ _
      go_upto_region 6 with fail
      have HG2 := hid (HGX.out.on (Below.refl _ _).drew)
      clear HGX
      refine wp_region_held_drew (S := fun w => w.cell? ⟨p.g, 0, none⟩ = some (.pointer (some ⟨p.r.g, 0, none⟩))) (by kernel_rfl) HG2.out.db.c0 (fun hHeld => ?_)
      refine tk 0 ⟨some 30, .move (.tmp 0), 45, "ref.go:160", #[], none⟩ (.pointer (some ⟨p.g, 0, none⟩)) ?_
      simp only [Act.put, List.setIfInBounds_toArray, List.set_cons_zero, List.set_cons_succ]
      refine tk 1 ⟨some 31, .nilCheck (.tmp 30), 0, "ref.go:160", #[⟨0, .data⟩], none⟩ (.pointer (some ⟨p.g, 0, none⟩)) ?_
      simp only [Act.put, List.setIfInBounds_toArray, List.set_cons_zero, List.set_cons_succ]
      refine tk 2 ⟨some 32, .fieldAddr 70 (.tmp 31) 0, 0, "ref.go:160", #[⟨1, .data⟩], none⟩ (.pointer (some ⟨p.g, 0, none⟩)) ?_
      simp only [Act.put, List.setIfInBounds_toArray, List.set_cons_zero, List.set_cons_succ]
      refine tk 3 ⟨some 33, .load 40 (.tmp 32), 40, "ref.go:160", #[⟨2, .data⟩], none⟩ (.pointer (some ⟨p.r.g, 0, none⟩)) ?_ (hy := Or.inl ⟨by rfl, by intro w hSw; have z := hSw; go_simp⟩)
      simp only [Act.put, List.setIfInBounds_toArray, List.set_cons_zero, List.set_cons_succ]
      refine tk 4 ⟨some 34, .move (.tmp 7), 3, "ref.go:160", #[], none⟩ (.int .i64 (pg)) ?_
      simp only [Act.put, List.setIfInBounds_toArray, List.set_cons_zero, List.set_cons_succ]
      refine tk 6 ⟨some 36, .move (.tmp 8), 3, "ref.go:160", #[], none⟩ (.int .i64 (j)) ?_
      simp only [Act.put, List.setIfInBounds_toArray, List.set_cons_zero, List.set_cons_succ]
      refine wpAnyH_ready (rs := [5]) (by kernel_rfl) (by simp) (AllReadyH.cons (o := ⟨some 35, .call { callee := .value (.func 74), args := #[.tmp 34], argTypes := #[3] }, 72, "ref.go:160", #[⟨4, .data⟩], none⟩) rfl (fun KQ hK => ?_) AllReadyH.nil)
      go_simp
      refine (rsec_any _ pg).mono ?_
      rintro e w3 ⟨rfl, hb3⟩
      have HG3 := hid (HG2.out.on hb3)
      clear hb3 HG2
      go_wp2_with fail
      refine hK.out _ _ HG3.out.db.c0 (fun hHeld => ?_)
      clear hK KQ
      try simp only [Act.put, List.setIfInBounds_toArray, List.set_cons_zero, List.set_cons_succ]
      refine wpAnyH_ready (rs := [7]) (by kernel_rfl) (by simp) (AllReadyH.cons (o := ⟨some 37, .call { callee := .value (.func 26), args := #[.tmp 33, .tmp 35, .tmp 36, .const (.int .u32 0)], argTypes := #[40, 72, 3, 29] }, 3, "ref.go:160", #[⟨3, .data⟩, ⟨5, .data⟩, ⟨6, .data⟩, ⟨5, .chain⟩], none⟩) rfl (fun KQ hK => ?_) AllReadyH.nil)
      go_simp
      refine (rwrite_any _ p.r d.m HG3.out.db.mem true pg j 0).mono ?_
      rintro e w4 ⟨rfl, r4, hs4⟩
      have HG4 : Hid (RG W w4 p ⟨p.g, p.ge, p.cap, r4⟩ (d.wr (pg) (j) (0))) := hid (HG3.out.mem hs4 (by rw [MS.write_ns]))
      have hr4 := hs4.g
      clear hs4 HG3
      go_wp2_with fail
      refine hK.out _ _ (by have h := HG4.out.db.c0; rw [hr4] at h; exact h) (fun hHeld => ?_)
      clear hK KQ
      try simp only [Act.put, List.setIfInBounds_toArray, List.set_cons_zero, List.set_cons_succ]
      refine wpAnyH_done (by kernel_rfl) ?_ _
      go_wp2_with fail
      go_ret
      exact ⟨rfl, r4, HG4.out⟩
  · rw [if_neg hfo] at HFX
    subst HFX
    have h8 : (F == 0) = false := by simpa using hfo
    rw [if_neg hfo, if_neg hfo] at HE
    rw [if_neg hfo]
    go_enter Tryz.func39, Tryz.ntmps39
    go_wp2_with fail
    refine HE.out.mono ?_
    rintro e w1 ⟨rfl, hb1⟩
    have HG1 := hid (HG.out.on hb1)
    clear hb1 HE
    go_wp2_with fail
    go_ret
    exact ⟨rfl, p.r, HG1.out⟩
end Go.Proofs.YtgbpbfnpeeciaaaGreat
namespace Go.Proofs.YtgbpbfnpeeciaaaGreat
open Go.RowKit
set_option maxRecDepth 100000
set_option maxHeartbeats 8000000
theorem cel31 (W : World) (m : Mp) : Cel (W.alloc (.cells #[.bool m.s, .int .i64 m.p, .bool m.wr, .bool m.ex] 31)) W.heap.size 31 [.bool m.s, .int .i64 m.p, .bool m.wr, .bool m.ex] := heap_alloc_new _ _
theorem rput_any (W : World) (p : Rp) (d : DS) (h : RDB W p d) (hU : d.m.U) (s va : Int) (m : Mp) (v0 : 0 ≤ va) (v1 : va < 4294967296) :
    Calls Tryz.prog 37 #[ptr p.g, .int .i64 s, .int .u32 va, m.v] W fun x W' => x = .returned (.int .i64 (d.putE s va m)) ∧ ∃ r', RG W W' p ⟨p.g, p.ge, p.cap, r'⟩ (d.putS s va m) := by
  have HE := hid (fun (w : World) (hw : Below W.heap.size W w) => rslot_any w p d (h.on hw) hU s va v0 v1)
  have HE2 := hid (fun (w : World) (hw : Below W.heap.size W w) => rplc_any w p d (h.on hw) hU s va v0 v1)
  have HM := hid (fun (w : World) => rsecond_any w m)
  have HZ := hid (fun (w : World) (hw : Below W.heap.size W w) => (h.on hw).c0)
  have HG := hid (RG.start h)
  have HF : Hid (d.putE s va m = if d.fndE s va = 0 then (if d.w2 s va = 0 then m.err else 140) else d.fndE s va) := hid rfl
  have HF2 : Hid (d.slotE s va = if d.fndE s va = 0 then (if d.w2 s va = 0 then 0 else 140) else d.fndE s va) := hid rfl
  have HC : Hid (d.putS s va m = if d.putE s va m = 0 then d.wr (pf (d.w1 s va)) (spJ va) m.enc else d) := hid rfl
  rw [HC.out]
  have HFX := HF.out
  have HFY := HF2.out
  have hc0 := cel31 W m
  have HB0 := hid (below_one W (.cells #[.bool m.s, .int .i64 m.p, .bool m.wr, .bool m.ex] 31))
  have hcl := hc0.lt
  have HCM := hid (fun (w : World) (hw : Below (W.alloc (.cells #[.bool m.s, .int .i64 m.p, .bool m.wr, .bool m.ex] 31)).heap.size (W.alloc (.cells #[.bool m.s, .int .i64 m.p, .bool m.wr, .bool m.ex] 31)) w) => hc0.below hw hcl)
  clear h hU v0 v1 HF HF2 HC hc0 hcl
  have HMV : Hid (m.v = .agg #[.bool m.s, .int .i64 m.p, .bool m.wr, .bool m.ex]) := hid rfl
  rw [HMV.out] at HM ⊢
  generalize d.putE s va m = F at *
  generalize d.slotE s va = L at *
  generalize d.w2 s va = w9 at *
  generalize pf (d.w1 s va) = pg at *
  generalize spJ va = j at *
  generalize d.fndE s va = fo at *
  generalize m.enc = en at *
  generalize m.err = er at *
  clear HMV
  generalize m.s = ms at *
  generalize m.p = mp at *
  generalize m.wr = mw at *
  generalize m.ex = mx at *
  simp only [ptr] at *
  go_enter Tryz.func37, Tryz.ntmps37
  go_wp2_with fail
  refine (HE.out _ HB0.out).mono ?_
  rintro e w1 ⟨rfl, hb1⟩
  have hcm := HCM.out w1 hb1
  have HG1 := hid (HG.out.on (HB0.out.trans (hb1.mono HB0.out.size)))
  have HB1 := hid (HB0.out.trans (hb1.mono HB0.out.size))
  have k0 := hcm.cell 0
  have k1 := hcm.cell 1
  have k2 := hcm.cell 2
  have k3 := hcm.cell 3
  simp only [List.getElem?_cons_zero, List.getElem?_cons_succ] at k0 k1 k2 k3
  clear hb1 HE HG HCM HB0 hcm
  by_cases hfo : fo = 0
  · subst hfo
    rw [if_pos rfl] at HFX HFY
    rw [if_pos rfl, if_pos rfl] at HE2
    by_cases hw9 : w9 = 0
    · rw [if_pos hw9] at HFX HFY
      subst HFX HFY
      go_wp2_with fail
      refine (HM.out _).mono ?_
      rintro e w2 ⟨rfl, hb2⟩
      have HG2 := hid (HG1.out.on hb2)
      have HB2 := hid (HB1.out.trans (hb2.mono HB1.out.size))
      clear hb2 k0 k1 k2 k3 HG1
      by_cases her : F = 0
      · subst her
        go_wp2_with fail
        refine (HE2.out _ HB2.out).mono ?_
        rintro e w3 ⟨rfl, hb3⟩
        have HG3 := hid (HG2.out.on hb3)
        clear hb3 HG2
        go_upto_region 8 with fail
        have HG2 := hid (HG3.out.on (Below.refl _ _).drew)
        clear HG3
        refine wp_region_held_drew (S := fun w => w.cell? ⟨p.g, 0, none⟩ = some (.pointer (some ⟨p.r.g, 0, none⟩))) (by kernel_rfl) HG2.out.db.c0 (fun hHeld => ?_)
        refine tk 0 ⟨some 37, .move (.tmp 0), 45, "ref.go:147", #[], none⟩ (.pointer (some ⟨p.g, 0, none⟩)) ?_
        simp only [Act.put, List.setIfInBounds_toArray, List.set_cons_zero, List.set_cons_succ]
        refine tk 1 ⟨some 38, .nilCheck (.tmp 37), 0, "ref.go:147", #[⟨0, .data⟩], none⟩ (.pointer (some ⟨p.g, 0, none⟩)) ?_
        simp only [Act.put, List.setIfInBounds_toArray, List.set_cons_zero, List.set_cons_succ]
        refine tk 2 ⟨some 39, .fieldAddr 70 (.tmp 38) 0, 0, "ref.go:147", #[⟨1, .data⟩], none⟩ (.pointer (some ⟨p.g, 0, none⟩)) ?_
        simp only [Act.put, List.setIfInBounds_toArray, List.set_cons_zero, List.set_cons_succ]
        refine tk 3 ⟨some 40, .load 40 (.tmp 39), 40, "ref.go:147", #[⟨2, .data⟩], none⟩ (.pointer (some ⟨p.r.g, 0, none⟩)) ?_ (hy := Or.inl ⟨by rfl, by intro w hSw; have z := hSw; go_simp⟩)
        simp only [Act.put, List.setIfInBounds_toArray, List.set_cons_zero, List.set_cons_succ]
        refine tk 4 ⟨some 41, .move (.tmp 11), 3, "ref.go:147", #[], none⟩ (.int .i64 (pg)) ?_
        simp only [Act.put, List.setIfInBounds_toArray, List.set_cons_zero, List.set_cons_succ]
        refine tk 6 ⟨some 43, .move (.tmp 12), 3, "ref.go:147", #[], none⟩ (.int .i64 (j)) ?_
        simp only [Act.put, List.setIfInBounds_toArray, List.set_cons_zero, List.set_cons_succ]
        refine tk 7 ⟨some 44, .move (.tmp 10), 29, "ref.go:147", #[], none⟩ (.int .u32 (en)) ?_
        simp only [Act.put, List.setIfInBounds_toArray, List.set_cons_zero, List.set_cons_succ]
        refine wpAnyH_ready (rs := [5]) (by kernel_rfl) (by simp) (AllReadyH.cons (o := ⟨some 42, .call { callee := .value (.func 74), args := #[.tmp 41], argTypes := #[3] }, 72, "ref.go:147", #[⟨4, .data⟩], none⟩) rfl (fun KQ hK => ?_) AllReadyH.nil)
        go_simp
        refine (rsec_any _ pg).mono ?_
        rintro e w3 ⟨rfl, hb3⟩
        have HG3 := hid (HG2.out.on hb3)
        clear hb3 HG2
        go_wp2_with fail
        refine hK.out _ _ HG3.out.db.c0 (fun hHeld => ?_)
        clear hK KQ
        try simp only [Act.put, List.setIfInBounds_toArray, List.set_cons_zero, List.set_cons_succ]
        refine wpAnyH_ready (rs := [8]) (by kernel_rfl) (by simp) (AllReadyH.cons (o := ⟨some 45, .call { callee := .value (.func 26), args := #[.tmp 40, .tmp 42, .tmp 43, .tmp 44], argTypes := #[40, 72, 3, 29] }, 3, "ref.go:147", #[⟨3, .data⟩, ⟨5, .data⟩, ⟨6, .data⟩, ⟨7, .data⟩, ⟨5, .chain⟩], none⟩) rfl (fun KQ hK => ?_) AllReadyH.nil)
        go_simp
        refine (rwrite_any _ p.r d.m HG3.out.db.mem true pg j en).mono ?_
        rintro e w4 ⟨rfl, r4, hs4⟩
        have HG4 : Hid (RG W w4 p ⟨p.g, p.ge, p.cap, r4⟩ (d.wr (pg) (j) (en))) := hid (HG3.out.mem hs4 (by rw [MS.write_ns]))
        have hr4 := hs4.g
        clear hs4 HG3
        go_wp2_with fail
        refine hK.out _ _ (by have h := HG4.out.db.c0; rw [hr4] at h; exact h) (fun hHeld => ?_)
        clear hK KQ
        try simp only [Act.put, List.setIfInBounds_toArray, List.set_cons_zero, List.set_cons_succ]
        refine wpAnyH_done (by kernel_rfl) ?_ _
        go_wp2_with fail
        go_ret
        exact ⟨rfl, r4, HG4.out⟩
      · have h8 : (F == 0) = false := by simpa using her
        go_wp2_with fail
        go_ret
        exact ⟨rfl, p.r, HG2.out⟩
    · rw [if_neg hw9] at HFX HFY
      subst HFX HFY
      clear HE2 hw9
      go_wp2_with fail
      go_ret
      exact ⟨rfl, p.r, HG1.out⟩
  · rw [if_neg hfo] at HFX HFY
    subst HFX HFY
    have h8 : (L == 0) = false := by simpa using hfo
    clear HE2
    go_wp2_with fail
    go_ret
    exact ⟨rfl, p.r, HG1.out⟩
end Go.Proofs.YtgbpbfnpeeciaaaGreat
namespace Go.Proofs.YtgbpbfnpeeciaaaGreat
open Go.RowKit
set_option maxRecDepth 100000
set_option maxHeartbeats 8000000
theorem fE_there {d : DS} (h : d.Ok) {q : Int} (hq : d.entE q = 0) : fE q = 0 := by
  have h6 := h.n64
  unfold DS.entE at hq
  split at hq
  · rename_i ht
    have := of_decide_eq_true ht
    unfold fE
    exact if_pos ⟨this.1, by omega⟩
  · cases hq
theorem raddTable_any (W : World) (p : Rp) (d : DS) (h : RDB W p d) (hU : d.m.U) (s i q : Int) :
    Calls Tryz.prog 32 #[ptr p.g, .int .i64 s, .int .i64 i, .int .i64 q] W fun x W' => x = .returned (.int .i64 (d.addE s i q)) ∧ ∃ r', RG W W' p ⟨p.g, p.ge, p.cap, r'⟩ (d.addS s i q) := by
  have HE := hid (rtable_any W p d h hU s)
  have HPg := hid (fun (w : World) (hw : Below W.heap.size W w) => rpages_any w p d (h.on hw))
  have HS := hid (fun (w : World) (hw : Below W.heap.size W w) => rhas_any w p d (h.on hw) q 4 s (by decide))
  have HP := hid (fun (w : World) (hw : Below W.heap.size W w) => rpeek_any w p.r d.m (h.on hw).mem true (d.fst s) i)
  have HFi := hid (fun (w : World) => rfirst_any w q)
  have HZ := hid (fun (w : World) (hw : Below W.heap.size W w) => (h.on hw).c0)
  have HG := hid (RG.start h)
  have HF : Hid (d.addE s i q = if d.folE s = 0 then (if 0 ≤ i ∧ i < 256 then (if d.entE q = 0 then (if d.own s q 4 = true then (if d.m.word true (d.fst s) i = 0 then fE q else 140) else 124) else d.entE q) else 4) else d.folE s) := hid rfl
  have HC : Hid (d.addS s i q = if d.addE s i q = 0 then d.wr (d.fst s) i (fW q) else d) := hid rfl
  have HQ0 : d.entE q = 0 → fE q = 0 := fun hq => fE_there h.ok hq
  have HQ : (0 ≤ q ∧ q < (d.m.ns : Int) ∧ d.entE q = 0) ∨ (q < 0 ∧ d.entE q = 5) ∨ (0 ≤ q ∧ (d.m.ns : Int) ≤ q ∧ d.entE q = 5) := by
    unfold DS.entE DS.there
    by_cases h1 : 0 ≤ q ∧ q < (d.m.ns : Int)
    · exact .inl ⟨h1.1, h1.2, by simp [h1]⟩
    · rcases Int.lt_or_le q 0 with h2 | h2
      · exact .inr (.inl ⟨h2, by simp [show ¬ (0 ≤ q) by omega]⟩)
      · exact .inr (.inr ⟨h2, by omega, by simp [show ¬ (q < (d.m.ns : Int)) by omega]⟩)
  rw [HC.out]
  have HFX := HF.out
  clear h hU HF HC
  generalize d.addE s i q = F at *
  generalize d.m.word true (d.fst s) i = w9 at *
  generalize d.own s q 4 = b at *
  generalize d.fst s = t at *
  generalize d.folE s = fo at *
  generalize d.entE q = f at *
  generalize fW q = fw at *
  generalize fE q = fe at *
  generalize d.m.ns = ns at *
  simp only [ptr] at *
  by_cases hfo : fo = 0
  · subst hfo
    rw [if_pos rfl] at HFX HE
    go_enter Tryz.func32, Tryz.ntmps32
    go_wp2_with fail
    refine HE.out.mono ?_
    rintro e w1 ⟨rfl, hb1⟩
    have HG1 := hid (HG.out.on hb1)
    have HB1 := hid hb1
    clear hb1 HE HG
    have HQH := hid HQ0
    clear HQ0
    by_cases hi : 0 ≤ i ∧ i < 256
    · rw [if_pos hi] at HFX
      obtain ⟨i0, i1⟩ := hi
      rcases HQ with ⟨a1, a2, a3⟩ | ⟨a1, a3⟩ | ⟨a1, a2, a3⟩
      · subst a3
        have hfe0 := HQH.out rfl
        subst hfe0
        rw [if_pos rfl] at HFX
        go_wp2_with fail
        refine (HPg.out _ HB1.out).mono ?_
        rintro e w2 ⟨rfl, rfl⟩
        cases b with
        | false =>
          have hF : F = 124 := by rw [HFX]; rfl
          subst hF
          clear HFX
          go_wp2_with fail
          refine (HS.out _ HB1.out).mono ?_
          rintro e w2 ⟨rfl, hb2⟩
          have HG2 := hid (HG1.out.on hb2)
          clear hb2
          go_wp2_with fail
          go_ret
          exact ⟨rfl, p.r, HG2.out⟩
        | true =>
          rw [if_pos rfl] at HFX
          go_wp2_with fail
          refine (HS.out _ HB1.out).mono ?_
          rintro e w2 ⟨rfl, hb2⟩
          have HG0 := hid (HG1.out.on hb2)
          have HB1 := hid (HB1.out.trans (hb2.mono HB1.out.size))
          clear hb2 HG1
          go_upto_region 10 with fail
          have HG2 := hid (HG0.out.on (Below.refl _ _).drew)
          clear HG0
          by_cases hw9 : w9 = 0
          · subst hw9
            have hF : F = 0 := HFX
            subst hF
            clear HFX
            refine wp_region_held_drew (S := fun w => Below W.heap.size W w) (by kernel_rfl) HB1.out.drew (fun hHeld => ?_)
            refine tk 0 ⟨some 41, .move (.tmp 0), 45, "ref.go:99", #[], none⟩ (.pointer (some ⟨p.g, 0, none⟩)) ?_
            simp only [Act.put, List.setIfInBounds_toArray, List.set_cons_zero, List.set_cons_succ]
            refine tk 1 ⟨some 42, .nilCheck (.tmp 41), 0, "ref.go:99", #[⟨0, .data⟩], none⟩ (.pointer (some ⟨p.g, 0, none⟩)) ?_
            simp only [Act.put, List.setIfInBounds_toArray, List.set_cons_zero, List.set_cons_succ]
            refine tk 2 ⟨some 43, .fieldAddr 70 (.tmp 42) 0, 0, "ref.go:99", #[⟨1, .data⟩], none⟩ (.pointer (some ⟨p.g, 0, none⟩)) ?_
            simp only [Act.put, List.setIfInBounds_toArray, List.set_cons_zero, List.set_cons_succ]
            refine tk 3 ⟨some 44, .load 40 (.tmp 43), 40, "ref.go:99", #[⟨2, .data⟩], none⟩ (.pointer (some ⟨p.r.g, 0, none⟩)) ?_ (hy := Or.inl ⟨by rfl, by intro w hSw; have z := HZ.out w hSw; go_simp⟩)
            simp only [Act.put, List.setIfInBounds_toArray, List.set_cons_zero, List.set_cons_succ]
            refine tk 4 ⟨some 45, .move (.tmp 9), 3, "ref.go:99", #[], none⟩ (.int .i64 t) ?_
            simp only [Act.put, List.setIfInBounds_toArray, List.set_cons_zero, List.set_cons_succ]
            refine tk 6 ⟨some 47, .move (.tmp 2), 3, "ref.go:99", #[], none⟩ (.int .i64 i) ?_
            simp only [Act.put, List.setIfInBounds_toArray, List.set_cons_zero, List.set_cons_succ]
            refine wpAnyH_ready (rs := [5]) (by kernel_rfl) (by simp) (AllReadyH.cons (o := ⟨some 46, .call { callee := .value (.func 74), args := #[.tmp 45], argTypes := #[3] }, 72, "ref.go:99", #[⟨4, .data⟩], none⟩) rfl (fun KQ hK => ?_) AllReadyH.nil)
            go_simp
            refine (rsec_any _ t).mono ?_
            rintro e w3 ⟨rfl, hb3⟩
            have HG3 := hid (HG2.out.on hb3)
            clear HG2
            have HB3 := hid (Below.trans hHeld (hb3.mono hHeld.size))
            clear hb3
            go_wp2_with fail
            refine hK.out _ _ HB3.out (fun hHeld => ?_)
            clear hK KQ
            try simp only [Act.put, List.setIfInBounds_toArray, List.set_cons_zero, List.set_cons_succ]
            refine wpAnyH_ready (rs := [7]) (by kernel_rfl) (by simp) (AllReadyH.cons (o := ⟨some 48, .call { callee := .value (.func 51), args := #[.tmp 44, .tmp 46, .tmp 47], argTypes := #[40, 72, 3] }, 29, "ref.go:99", #[⟨3, .data⟩, ⟨5, .data⟩, ⟨6, .data⟩, ⟨5, .chain⟩], none⟩) rfl (fun KQ hK => ?_) AllReadyH.nil)
            go_simp
            refine (HP.out _ HB3.out).mono ?_
            rintro e w4 ⟨rfl, hb4⟩
            have HGX := hid (HG3.out.on hb4)
            clear HG3
            have HB4 := hid (HB3.out.trans (hb4.mono HB3.out.size))
            clear hb4 HB3
            go_wp2_with fail
            refine hK.out _ _ HB4.out (fun hHeld => ?_)
            clear hK KQ
            try simp only [Act.put, List.setIfInBounds_toArray, List.set_cons_zero, List.set_cons_succ]
            refine tk 8 ⟨some 49, .binOp .neq 29 (.tmp 48) (.const (.int .u32 0)) 29, 4, "ref.go:99", #[⟨7, .data⟩], none⟩ (.bool false) ?_
            simp only [Act.put, List.setIfInBounds_toArray, List.set_cons_zero, List.set_cons_succ]
            refine wpAnyH_done (by kernel_rfl) ?_ _
            go_wp2_with fail
            refine (HFi.out _).mono ?_
            rintro e w5 ⟨rfl, rfl⟩
            go_upto_region 13 with fail
            have HG2 := hid (HGX.out.on (Below.refl _ _).drew)
            clear HGX
            refine wp_region_held_drew (S := fun w => w.cell? ⟨p.g, 0, none⟩ = some (.pointer (some ⟨p.r.g, 0, none⟩))) (by kernel_rfl) HG2.out.db.c0 (fun hHeld => ?_)
            refine tk 0 ⟨some 55, .move (.tmp 0), 45, "ref.go:103", #[], none⟩ (.pointer (some ⟨p.g, 0, none⟩)) ?_
            simp only [Act.put, List.setIfInBounds_toArray, List.set_cons_zero, List.set_cons_succ]
            refine tk 1 ⟨some 56, .nilCheck (.tmp 55), 0, "ref.go:103", #[⟨0, .data⟩], none⟩ (.pointer (some ⟨p.g, 0, none⟩)) ?_
            simp only [Act.put, List.setIfInBounds_toArray, List.set_cons_zero, List.set_cons_succ]
            refine tk 2 ⟨some 57, .fieldAddr 70 (.tmp 56) 0, 0, "ref.go:103", #[⟨1, .data⟩], none⟩ (.pointer (some ⟨p.g, 0, none⟩)) ?_
            simp only [Act.put, List.setIfInBounds_toArray, List.set_cons_zero, List.set_cons_succ]
            refine tk 3 ⟨some 58, .load 40 (.tmp 57), 40, "ref.go:103", #[⟨2, .data⟩], none⟩ (.pointer (some ⟨p.r.g, 0, none⟩)) ?_ (hy := Or.inl ⟨by rfl, by intro w hSw; have z := hSw; go_simp⟩)
            simp only [Act.put, List.setIfInBounds_toArray, List.set_cons_zero, List.set_cons_succ]
            refine tk 4 ⟨some 59, .move (.tmp 9), 3, "ref.go:103", #[], none⟩ (.int .i64 (t)) ?_
            simp only [Act.put, List.setIfInBounds_toArray, List.set_cons_zero, List.set_cons_succ]
            refine tk 6 ⟨some 61, .move (.tmp 2), 3, "ref.go:103", #[], none⟩ (.int .i64 (i)) ?_
            simp only [Act.put, List.setIfInBounds_toArray, List.set_cons_zero, List.set_cons_succ]
            refine tk 7 ⟨some 62, .move (.tmp 11), 29, "ref.go:103", #[], none⟩ (.int .u32 (fw)) ?_
            simp only [Act.put, List.setIfInBounds_toArray, List.set_cons_zero, List.set_cons_succ]
            refine wpAnyH_ready (rs := [5]) (by kernel_rfl) (by simp) (AllReadyH.cons (o := ⟨some 60, .call { callee := .value (.func 74), args := #[.tmp 59], argTypes := #[3] }, 72, "ref.go:103", #[⟨4, .data⟩], none⟩) rfl (fun KQ hK => ?_) AllReadyH.nil)
            go_simp
            refine (rsec_any _ t).mono ?_
            rintro e w3 ⟨rfl, hb3⟩
            have HG3 := hid (HG2.out.on hb3)
            clear hb3 HG2
            go_wp2_with fail
            refine hK.out _ _ HG3.out.db.c0 (fun hHeld => ?_)
            clear hK KQ
            try simp only [Act.put, List.setIfInBounds_toArray, List.set_cons_zero, List.set_cons_succ]
            refine wpAnyH_ready (rs := [8]) (by kernel_rfl) (by simp) (AllReadyH.cons (o := ⟨some 63, .call { callee := .value (.func 26), args := #[.tmp 58, .tmp 60, .tmp 61, .tmp 62], argTypes := #[40, 72, 3, 29] }, 3, "ref.go:103", #[⟨3, .data⟩, ⟨5, .data⟩, ⟨6, .data⟩, ⟨7, .data⟩, ⟨5, .chain⟩], none⟩) rfl (fun KQ hK => ?_) AllReadyH.nil)
            go_simp
            refine (rwrite_any _ p.r d.m HG3.out.db.mem true t i fw).mono ?_
            rintro e w4 ⟨rfl, r4, hs4⟩
            have HG4 : Hid (RG W w4 p ⟨p.g, p.ge, p.cap, r4⟩ (d.wr (t) (i) (fw))) := hid (HG3.out.mem hs4 (by rw [MS.write_ns]))
            have hr4 := hs4.g
            clear hs4 HG3
            go_wp2_with fail
            refine hK.out _ _ (by have h := HG4.out.db.c0; rw [hr4] at h; exact h) (fun hHeld => ?_)
            clear hK KQ
            try simp only [Act.put, List.setIfInBounds_toArray, List.set_cons_zero, List.set_cons_succ]
            refine wpAnyH_done (by kernel_rfl) ?_ _
            go_wp2_with fail
            go_ret
            exact ⟨rfl, r4, HG4.out⟩
          · have hF : F = 140 := by rw [HFX]; exact if_neg hw9
            subst hF
            clear HFX
            have hw8 : (w9 == 0) = false := by simpa using hw9
            refine wp_region_held_drew (S := fun w => Below W.heap.size W w) (by kernel_rfl) HB1.out.drew (fun hHeld => ?_)
            refine tk 0 ⟨some 41, .move (.tmp 0), 45, "ref.go:99", #[], none⟩ (.pointer (some ⟨p.g, 0, none⟩)) ?_
            simp only [Act.put, List.setIfInBounds_toArray, List.set_cons_zero, List.set_cons_succ]
            refine tk 1 ⟨some 42, .nilCheck (.tmp 41), 0, "ref.go:99", #[⟨0, .data⟩], none⟩ (.pointer (some ⟨p.g, 0, none⟩)) ?_
            simp only [Act.put, List.setIfInBounds_toArray, List.set_cons_zero, List.set_cons_succ]
            refine tk 2 ⟨some 43, .fieldAddr 70 (.tmp 42) 0, 0, "ref.go:99", #[⟨1, .data⟩], none⟩ (.pointer (some ⟨p.g, 0, none⟩)) ?_
            simp only [Act.put, List.setIfInBounds_toArray, List.set_cons_zero, List.set_cons_succ]
            refine tk 3 ⟨some 44, .load 40 (.tmp 43), 40, "ref.go:99", #[⟨2, .data⟩], none⟩ (.pointer (some ⟨p.r.g, 0, none⟩)) ?_ (hy := Or.inl ⟨by rfl, by intro w hSw; have z := HZ.out w hSw; go_simp⟩)
            simp only [Act.put, List.setIfInBounds_toArray, List.set_cons_zero, List.set_cons_succ]
            refine tk 4 ⟨some 45, .move (.tmp 9), 3, "ref.go:99", #[], none⟩ (.int .i64 t) ?_
            simp only [Act.put, List.setIfInBounds_toArray, List.set_cons_zero, List.set_cons_succ]
            refine tk 6 ⟨some 47, .move (.tmp 2), 3, "ref.go:99", #[], none⟩ (.int .i64 i) ?_
            simp only [Act.put, List.setIfInBounds_toArray, List.set_cons_zero, List.set_cons_succ]
            refine wpAnyH_ready (rs := [5]) (by kernel_rfl) (by simp) (AllReadyH.cons (o := ⟨some 46, .call { callee := .value (.func 74), args := #[.tmp 45], argTypes := #[3] }, 72, "ref.go:99", #[⟨4, .data⟩], none⟩) rfl (fun KQ hK => ?_) AllReadyH.nil)
            go_simp
            refine (rsec_any _ t).mono ?_
            rintro e w3 ⟨rfl, hb3⟩
            have HG3 := hid (HG2.out.on hb3)
            clear HG2
            have HB3 := hid (Below.trans hHeld (hb3.mono hHeld.size))
            clear hb3
            go_wp2_with fail
            refine hK.out _ _ HB3.out (fun hHeld => ?_)
            clear hK KQ
            try simp only [Act.put, List.setIfInBounds_toArray, List.set_cons_zero, List.set_cons_succ]
            refine wpAnyH_ready (rs := [7]) (by kernel_rfl) (by simp) (AllReadyH.cons (o := ⟨some 48, .call { callee := .value (.func 51), args := #[.tmp 44, .tmp 46, .tmp 47], argTypes := #[40, 72, 3] }, 29, "ref.go:99", #[⟨3, .data⟩, ⟨5, .data⟩, ⟨6, .data⟩, ⟨5, .chain⟩], none⟩) rfl (fun KQ hK => ?_) AllReadyH.nil)
            go_simp
            refine (HP.out _ HB3.out).mono ?_
            rintro e w4 ⟨rfl, hb4⟩
            have HGX := hid (HG3.out.on hb4)
            clear HG3
            have HB4 := hid (HB3.out.trans (hb4.mono HB3.out.size))
            clear hb4 HB3
            go_wp2_with fail
            refine hK.out _ _ HB4.out (fun hHeld => ?_)
            clear hK KQ
            try simp only [Act.put, List.setIfInBounds_toArray, List.set_cons_zero, List.set_cons_succ]
            refine tk 8 ⟨some 49, .binOp .neq 29 (.tmp 48) (.const (.int .u32 0)) 29, 4, "ref.go:99", #[⟨7, .data⟩], none⟩ (.bool true) ?_ (hy := Or.inl ⟨by rfl, by intro w hSw; skip; go_simp⟩)
            simp only [Act.put, List.setIfInBounds_toArray, List.set_cons_zero, List.set_cons_succ]
            refine wpAnyH_done (by kernel_rfl) ?_ _
            go_wp2_with fail
            go_ret
            exact ⟨rfl, p.r, HGX.out⟩
      · subst a3
        have hF : F = 5 := HFX
        subst hF
        clear HFX
        go_wp2_with fail
        go_ret
        exact ⟨rfl, p.r, HG1.out⟩
      · subst a3
        have hF : F = 5 := HFX
        subst hF
        clear HFX
        go_wp2_with fail
        refine (HPg.out _ HB1.out).mono ?_
        rintro e w2 ⟨rfl, rfl⟩
        go_wp2_with fail
        go_ret
        exact ⟨rfl, p.r, HG1.out⟩
    · rw [if_neg hi] at HFX
      subst HFX
      have hi2 : i < 0 ∨ (0 ≤ i ∧ 255 < i) := by omega
      clear HQ
      rcases hi2 with hi2 | ⟨hi2, hi3⟩
      · go_wp2_with fail
        go_ret
        exact ⟨rfl, p.r, HG1.out⟩
      · go_wp2_with fail
        go_ret
        exact ⟨rfl, p.r, HG1.out⟩
  · rw [if_neg hfo] at HFX HE
    subst HFX
    clear HQ HQ0
    have h8 : (F == 0) = false := by simpa using hfo
    go_enter Tryz.func32, Tryz.ntmps32
    go_wp2_with fail
    refine HE.out.mono ?_
    rintro e w1 ⟨rfl, hb1⟩
    have HG1 := hid (HG.out.on hb1)
    clear hb1 HE HG
    go_wp2_with fail
    go_ret
    exact ⟨rfl, p.r, HG1.out⟩
end Go.Proofs.YtgbpbfnpeeciaaaGreat
