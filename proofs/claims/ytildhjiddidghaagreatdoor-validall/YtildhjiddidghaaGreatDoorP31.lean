import Derived.Test.YtildhjiddidghaaGreatDoorP29
import Derived.Test.YtildhjiddidghaaGreatDoorP30
import Derived.Test.YtildhjiddidghaaGreatDoorP01
namespace Go.Proofs.YtildhjiddidghaaGreatDoor
open Go.RowKit
set_option maxHeartbeats 4000000
set_option maxRecDepth 100000
def DS.thr (d : DS) (k : Nat) : Bool := d.zr (k : Int) 18 1024 && (if (d.at k).e = true then R.gw (d.w k 17) && ((d.ownr k).s != 1) else d.zr (k : Int) 1 18)
theorem thread_v (w : World) (v : Vp) (p : Dp) (d : DS) (h : VS w v p d) (hu : d.m.U) (k : Nat) (hk : k < d.m.ns) :
    Calls Tryz.prog 106 #[.pointer (some ⟨v.g, 0, none⟩), .int .i64 (k : Int)] w fun e w' => e = .returned (.bool (d.thr k)) ∧ Below w.heap.size w w' := by
  have HV := hid h
  have HZr := hid (isZero_v w v p d h (k : Int) 18 1024 (by decide) (by decide))
  have HZ2 := hid (fun w h => isZero_v w v p d h (k : Int) 1 18 (by decide) (by decide))
  have HWd := hid (fun w h => words_v w v p d h (k : Int) 1 17 (by decide))
  have HO := hid (fun w h => owner_v w v p d h k hk)
  have HC2 := hid (fun w (h : VS w v p d) => And.intro h.c2 (h.row k hk).2.2.2.2)
  have HU := hid (hu.word true (k : Int) ((1 + 16 : Nat) : Int)).1
  have HAt : Hid (∀ i, i < 17 → (u32s (d.wds (k : Int) 1 17))[i]? = some (.int .u32 (d.m.word true (k : Int) ((1 + i : Nat) : Int)))) := hid (fun i hi => by
    rw [u32s, List.getElem?_map, DS.wds, List.getElem?_map, List.getElem?_range hi]; rfl)
  have HD : Hid (d.thr k = (d.zr (k : Int) 18 1024 && (if (d.at k).e = true then R.gw (d.m.word true (k : Int) ((1 + 16 : Nat) : Int)) && ((d.ownr k).s != 1) else d.zr (k : Int) 1 18))) := hid rfl
  have q1 : (k : Int) < (d.m.ns : Int) := by omega
  clear h hu hk
  generalize d.thr k = z at *
  generalize d.zr (k : Int) 1 18 = y at *
  generalize d.ownr k = X at *
  generalize d.m.ns = n at *
  generalize (d.at k).e = en at *
  simp only [En.cs] at HO
  cases hz : d.zr (k : Int) 18 1024
  · rw [hz] at HZr
    rw [hz, Bool.false_and] at HD
    clear hz
    go_enter Tryz.func106, Tryz.ntmps106
    go_wp2_with (go_at_call 141; refine HZr.out.mono ?_; rintro e w1 ⟨rfl, hb⟩; have B1 := hid hb; clear hb)
    go_ret
    rw [HD.out]
    exact ⟨rfl, B1.out⟩
  · rw [hz] at HZr
    rw [hz, Bool.true_and] at HD
    clear hz
    cases en
    · rw [if_neg (by decide)] at HD
      go_enter Tryz.func106, Tryz.ntmps106
      go_upto_region 3 with (go_at_call 141; refine HZr.out.mono ?_; rintro e w1 ⟨rfl, hb⟩; have B1 := hid hb; obtain ⟨x2, x3⟩ := HC2.out _ (HV.out.on hb); clear hb)
      go_wp2_with (go_at_call 141; refine (HZ2.out _ (HV.out.on B1.out)).mono ?_; rintro e w2 ⟨rfl, hb⟩; have B2 := hid (below_on B1.out hb); clear hb)
      go_ret
      rw [HD.out]
      exact ⟨rfl, B2.out⟩
    · rw [if_pos rfl] at HD
      have HUn : Hid (∀ w g, Cel w g 22 (u32s (d.wds (k : Int) 1 17)) → ∃ f : R.F, Calls Tryz.prog 150 #[.slice (some ⟨g, 0, none⟩) 17 17] w fun e W' => e = .returned (.tuple #[.agg f.cs.toArray, .int .i64 (if R.gw (d.m.word true (k : Int) ((1 + 16 : Nat) : Int)) = true then 0 else 80)]) ∧ Below w.heap.size w W') := hid (fun w g hc => by
        have hu := R.unpack_yes w g 0 17 (fun i => d.m.word true (k : Int) ((1 + i : Nat) : Int)) ⟨hc.lt, fun i hi => by rw [Nat.zero_add, hc.cell]; exact HAt.out i hi⟩ HU.out
        unfold R.unpackV R.flaggedV at hu
        by_cases hg : R.gw (d.m.word true (k : Int) ((1 + 16 : Nat) : Int)) = true
        · rw [if_pos hg] at hu
          rw [if_pos hg]
          exact ⟨_, hu⟩
        · rw [if_neg hg] at hu
          rw [if_neg hg]
          exact ⟨_, hu⟩)
      clear HU HAt
      have f3 := fld3 X.t X.o X.r X.s X.e
      generalize hG : R.gw (d.m.word true (k : Int) ((1 + 16 : Nat) : Int)) = G at *
      clear hG
      generalize d.wds (k : Int) 1 17 = L at *
      simp only [show ((1 + 17 : Nat) : Int) = 18 from rfl] at HWd
      cases G
      · rw [Bool.false_and] at HD
        simp only [Bool.false_eq_true, if_false] at HUn
        go_enter Tryz.func106, Tryz.ntmps106
        go_upto_region 3 with (go_at_call 141; refine HZr.out.mono ?_; rintro e w1 ⟨rfl, hb⟩; have B1 := hid hb; obtain ⟨x2, x3⟩ := HC2.out _ (HV.out.on hb); clear hb)
        go_upto_region 6 with (first | (go_at_call 137; refine (HWd.out _ (HV.out.on B1.out)).mono ?_; rintro e w2 ⟨g, rfl, hc, _, hb⟩; obtain ⟨f, hf⟩ := HUn.out _ _ hc; have HF := hid hf; have B2 := hid (below_on B1.out hb); clear hc hb hf x2 x3) | (go_at_call 150; refine HF.out.mono ?_; rintro e w3 ⟨rfl, hb⟩; have B3 := hid (below_on B2.out hb); clear hb HF) | (refine wpList_store_st rfl 191 _ _ rfl w3.heap.size f.cs rfl rfl (Cel.new w3 191 [.int .u32 0, .int .u32 0, .int .u32 0, .int .u32 0, .int .u32 0, .int .u32 0, .int .u32 0, .int .u32 0, .int .u32 0, .int .u32 0, .int .u32 0, .int .u32 0, .int .u32 0, .int .u32 0, .int .u32 0, .int .u32 0, .bool false, .bool false, .bool false]) (by rw [R.size27, R.F.len]) (by rw [R.F.len]; rfl) f.all ?_; intro w4 hc hb hs; have B4 := hid (below_on B3.out ((below_one w3 _).trans (hb.below (B := w3.heap.size) (by simp) (by simp)))); clear hc hb hs))
        go_wp2_with fail
        go_ret
        rw [HD.out]
        exact ⟨rfl, B4.out⟩
      · rw [Bool.true_and] at HD
        simp only [if_true] at HUn
        go_enter Tryz.func106, Tryz.ntmps106
        go_upto_region 3 with (go_at_call 141; refine HZr.out.mono ?_; rintro e w1 ⟨rfl, hb⟩; have B1 := hid hb; obtain ⟨x2, x3⟩ := HC2.out _ (HV.out.on hb); clear hb)
        go_upto_region 6 with (first | (go_at_call 137; refine (HWd.out _ (HV.out.on B1.out)).mono ?_; rintro e w2 ⟨g, rfl, hc, _, hb⟩; obtain ⟨f, hf⟩ := HUn.out _ _ hc; have HF := hid hf; have B2 := hid (below_on B1.out hb); clear hc hb hf x2 x3) | (go_at_call 150; refine HF.out.mono ?_; rintro e w3 ⟨rfl, hb⟩; have B3 := hid (below_on B2.out hb); clear hb HF) | (refine wpList_store_st rfl 191 _ _ rfl w3.heap.size f.cs rfl rfl (Cel.new w3 191 [.int .u32 0, .int .u32 0, .int .u32 0, .int .u32 0, .int .u32 0, .int .u32 0, .int .u32 0, .int .u32 0, .int .u32 0, .int .u32 0, .int .u32 0, .int .u32 0, .int .u32 0, .int .u32 0, .int .u32 0, .int .u32 0, .bool false, .bool false, .bool false]) (by rw [R.size27, R.F.len]) (by rw [R.F.len]; rfl) f.all ?_; intro w4 hc hb hs; have B4 := hid (below_on B3.out ((below_one w3 _).trans (hb.below (B := w3.heap.size) (by simp) (by simp)))); clear hc hb hs))
        go_wp2_with (go_at_call 142; refine (HO.out _ (HV.out.on B4.out)).mono ?_; rintro e w5 ⟨rfl, hb⟩; have B5 := hid (below_on B4.out hb); clear hb)
        go_ret
        rw [HD.out]
        exact ⟨by simp, B5.out⟩
end Go.Proofs.YtildhjiddidghaaGreatDoor
namespace Go.Proofs.YtildhjiddidghaaGreatDoor
open Go.RowKit
set_option maxHeartbeats 4000000
set_option maxRecDepth 100000
def Tells (r : Nat) (W0 : World) (fv : Value) (n : Nat) (F : Nat → Bool) : Prop := ∃ fn bs fs, fv = .func (.func fn) bs fs ∧ (∀ args w, (callFunc fn args).run Tryz.prog w = .ok (.enter fn args) w) ∧ ∀ w, ButL [r] W0 w → ∀ k, k < n → Calls Tryz.prog fn (bs.push (.int .i64 (k : Int)) ++ fs) w fun e w' => e = .returned (.bool (F k)) ∧ Below w.heap.size w w'
theorem Tells.st {r : Nat} {W0 W1 : World} {fv : Value} {n : Nat} {F : Nat → Bool} (h : Tells r W0 fv n F) (hb : ButL [r] W0 W1) : Tells r W1 fv n F := by
  obtain ⟨fn, bs, fs, e, he, h⟩ := h
  exact ⟨fn, bs, fs, e, he, fun w hw => h w (hb.trans hw)⟩
theorem Tells.on {r : Nat} {W0 W1 : World} {fv : Value} {n : Nat} {F : Nat → Bool} (h : Tells r W0 fv n F) (hb : Below W0.heap.size W0 W1) : Tells r W1 fv n F := h.st (.of hb)
theorem below_r {W w0 w : World} {r : Nat} (hbW : Below W.heap.size W w0) (hr : W.heap.size ≤ r) (hb : ButL [r] w0 w) : Below W.heap.size W w := hbW.trans (hb.below (B := W.heap.size) (fun k hk => by rw [List.mem_singleton] at hk; omega) hbW.size)
theorem at1_v (w : World) (v : Vp) (p : Dp) (d : DS) (h : VS w v p d) (t : Int) (g3 g4 g5 : Nat) (fv : Value) (F : Nat → Bool) (h3 : Cel w g3 102 [.pointer (some ⟨v.g, 0, none⟩)]) (h4 : Cel w g4 76 [.int .i64 t]) (h5 : Cel w g5 50 [fv]) (r : Nat) (hF : Tells r w fv d.m.ns F) (k : Nat) (hk : k < d.m.ns) :
    Calls Tryz.prog 140 #[.int .i64 (k : Int), .pointer (some ⟨g3, 0, none⟩), .pointer (some ⟨g4, 0, none⟩), .pointer (some ⟨g5, 0, none⟩)] w fun e w' => e = .returned (.bool ((d.at k).t != t || F k)) ∧ Below w.heap.size w w' := by
  obtain ⟨fn, bs, fs, rfl, hen, hc⟩ := hF
  have HC := hid (fun w' (hb : Below w.heap.size w w') => hc w' (.of hb) k hk)
  have HX := hid (And.intro (h.on (Below.refl _ _).drew) (And.intro (h3.on (Below.refl _ _).drew) (And.intro (h4.on (Below.refl _ _).drew) (h5.on (Below.refl _ _).drew))))
  have HB : Hid (Below w.heap.size w w.drew) := hid (Below.refl _ _).drew
  have HA : Hid (∀ w, VS w v p d → w.cell? ⟨v.g, 2, none⟩ = some (.slice (some ⟨v.ge, 0, none⟩) d.m.ns v.ce) ∧ w.cell? ⟨v.ge, k * 5, none⟩ = some (.int .i64 (d.at k).t)) := hid (fun w hw => ⟨hw.c2, (hw.row k hk).1⟩)
  have q1 : (k : Int) < (d.m.ns : Int) := by omega
  clear h h3 h4 h5 hc hk
  generalize (d.at k).t = a at *
  generalize d.m.ns = n at *
  generalize F k = y at *
  cases ha : (a != t)
  · rw [Bool.false_or]
    go_enter Tryz.func140, Tryz.ntmps140
    go_upto_region 1 with fail
    refine wp_region_held_drew (S := fun w => VS w v p d ∧ Cel w g3 102 [.pointer (some ⟨v.g, 0, none⟩)] ∧ Cel w g4 76 [.int .i64 t] ∧ Cel w g5 50 [.func (.func fn) bs fs]) (by kernel_rfl) HX.out (fun hHeld => ?_)
    generalize World.drew _ = x1 at *
    refine tk 0 (some 6) (.pointer (some ⟨v.g, 0, none⟩)) ?_ (hy := Or.inl ⟨by rfl, by intro w hSw; have hc : w.cell? ⟨g3, 0, none⟩ = some (.pointer (some ⟨v.g, 0, none⟩)) := hSw.2.1.cell 0; go_simp⟩)
    simp only [Act.put, tqA, tqZ, tqS]
    refine tk 1 (some 7) (.pointer (some ⟨v.g, 0, none⟩)) ?_
    simp only [Act.put, tqA, tqZ, tqS]
    refine tk 2 (some 8) (.pointer (some ⟨v.g, 2, none⟩)) ?_
    simp only [Act.put, tqA, tqZ, tqS]
    refine tk 3 (some 9) (.slice (some ⟨v.ge, 0, none⟩) n v.ce) ?_ (hy := Or.inl ⟨by rfl, by intro w hSw; have hc := (HA.out w hSw.1).1; go_simp⟩)
    simp only [Act.put, tqA, tqZ, tqS]
    refine tk 4 (some 10) (.int .i64 (k : Int)) ?_
    simp only [Act.put, tqA, tqZ, tqS]
    refine tk 5 (some 11) (.pointer (some ⟨v.ge, k * 5, none⟩)) ?_
    simp only [Act.put, tqA, tqZ, tqS]
    refine tk 6 (some 12) (.pointer (some ⟨v.ge, k * 5, none⟩)) ?_
    simp only [Act.put, tqA, tqZ, tqS]
    refine tk 7 (some 13) (.int .i64 a) ?_ (hy := Or.inl ⟨by rfl, by intro w hSw; have hc := (HA.out w hSw.1).2; go_simp⟩)
    simp only [Act.put, tqA, tqZ, tqS]
    refine tk 8 (some 14) (.int .i64 t) ?_ (hy := Or.inl ⟨by rfl, by intro w hSw; have hc : w.cell? ⟨g4, 0, none⟩ = some (.int .i64 t) := hSw.2.2.1.cell 0; go_simp⟩)
    simp only [Act.put, tqA, tqZ, tqS]
    refine tk 9 (some 15) (.bool false) ?_
    simp only [Act.put, tqA, tqZ, tqS]
    refine tk 10 (some 16) (.bool false) ?_
    simp only [Act.put, tqA, tqZ, tqS]
    refine tk 11 (some 17) (.func (.func fn) bs fs) ?_ (hy := Or.inl ⟨by rfl, by intro w hSw; have hc : w.cell? ⟨g5, 0, none⟩ = some (.func (.func fn) bs fs) := hSw.2.2.2.cell 0; go_simp⟩)
    simp only [Act.put, tqA, tqZ, tqS]
    refine tk 12 (some 18) (.int .i64 (k : Int)) ?_
    simp only [Act.put, tqA, tqZ, tqS]
    refine wpAnyH_ready (rs := [13]) (by kernel_rfl) (by simp) (AllReadyH.cons (o := ⟨some 19, .call { callee := .value (.tmp 17), args := #[.tmp 18], argTypes := #[3] }, 4, "clauses.go:32", #[⟨11, .data⟩, ⟨12, .data⟩, ⟨10, .chain⟩, ⟨10, .guard⟩], some (10, false)⟩) rfl (fun KQ hK => ?_) AllReadyH.nil)
    go_simp
    refine (HC.out _ HB.out).mono ?_
    rintro e w1 ⟨rfl, hb⟩
    have HX1 := hid (And.intro (HX.out.1.on hb) (And.intro (HX.out.2.1.on hb) (And.intro (HX.out.2.2.1.on hb) (HX.out.2.2.2.on hb))))
    have HB1 := hid (below_on HB.out hb)
    clear hb HX HB
    go_wp2_with fail
    refine hK.out _ _ HX1.out (fun hHeld => ?_)
    clear hK KQ
    try simp only [Act.put, tqA, tqZ, tqS]
    refine tk 14 (some 20) (.bool y) ?_
    simp only [Act.put, tqA, tqZ, tqS]
    refine wpAnyH_ready (rs := [15]) (by kernel_rfl) (by simp) (AllReadyH.cons (o := ⟨some 5, .assign (.tmp 20), 4, "clauses.go:32", #[⟨14, .data⟩, ⟨13, .chain⟩, ⟨0, .phase⟩, ⟨1, .phase⟩, ⟨2, .phase⟩, ⟨3, .phase⟩, ⟨4, .phase⟩, ⟨5, .phase⟩, ⟨6, .phase⟩, ⟨7, .phase⟩, ⟨8, .phase⟩, ⟨9, .phase⟩, ⟨10, .phase⟩, ⟨11, .phase⟩, ⟨12, .phase⟩, ⟨13, .phase⟩, ⟨14, .phase⟩], none⟩) rfl (fun KQ hK => ?_) AllReadyH.nil)
    go_simp
    refine hK.out _ _ HX1.out (fun hHeld => ?_)
    clear hK KQ
    try simp only [Act.put, tqA, tqZ, tqS]
    refine wpAnyH_done (by kernel_rfl) ?_ _
    go_wp2_with fail
    go_ret
    exact ⟨rfl, HB1.out⟩
  · rw [Bool.true_or]
    go_enter Tryz.func140, Tryz.ntmps140
    go_upto_region 1 with fail
    refine wp_region_held_drew (S := fun w => VS w v p d ∧ Cel w g3 102 [.pointer (some ⟨v.g, 0, none⟩)] ∧ Cel w g4 76 [.int .i64 t] ∧ Cel w g5 50 [.func (.func fn) bs fs]) (by kernel_rfl) HX.out (fun hHeld => ?_)
    generalize World.drew _ = x1 at *
    refine tk 0 (some 6) (.pointer (some ⟨v.g, 0, none⟩)) ?_ (hy := Or.inl ⟨by rfl, by intro w hSw; have hc : w.cell? ⟨g3, 0, none⟩ = some (.pointer (some ⟨v.g, 0, none⟩)) := hSw.2.1.cell 0; go_simp⟩)
    simp only [Act.put, tqA, tqZ, tqS]
    refine tk 1 (some 7) (.pointer (some ⟨v.g, 0, none⟩)) ?_
    simp only [Act.put, tqA, tqZ, tqS]
    refine tk 2 (some 8) (.pointer (some ⟨v.g, 2, none⟩)) ?_
    simp only [Act.put, tqA, tqZ, tqS]
    refine tk 3 (some 9) (.slice (some ⟨v.ge, 0, none⟩) n v.ce) ?_ (hy := Or.inl ⟨by rfl, by intro w hSw; have hc := (HA.out w hSw.1).1; go_simp⟩)
    simp only [Act.put, tqA, tqZ, tqS]
    refine tk 4 (some 10) (.int .i64 (k : Int)) ?_
    simp only [Act.put, tqA, tqZ, tqS]
    refine tk 5 (some 11) (.pointer (some ⟨v.ge, k * 5, none⟩)) ?_
    simp only [Act.put, tqA, tqZ, tqS]
    refine tk 6 (some 12) (.pointer (some ⟨v.ge, k * 5, none⟩)) ?_
    simp only [Act.put, tqA, tqZ, tqS]
    refine tk 7 (some 13) (.int .i64 a) ?_ (hy := Or.inl ⟨by rfl, by intro w hSw; have hc := (HA.out w hSw.1).2; go_simp⟩)
    simp only [Act.put, tqA, tqZ, tqS]
    refine tk 8 (some 14) (.int .i64 t) ?_ (hy := Or.inl ⟨by rfl, by intro w hSw; have hc : w.cell? ⟨g4, 0, none⟩ = some (.int .i64 t) := hSw.2.2.1.cell 0; go_simp⟩)
    simp only [Act.put, tqA, tqZ, tqS]
    refine tk 9 (some 15) (.bool true) ?_
    simp only [Act.put, tqA, tqZ, tqS]
    refine tk 10 (some 16) (.bool true) ?_
    simp only [Act.put, tqA, tqZ, tqS]
    refine tk 11 (some 17) undef ?_ (hy := Or.inr ⟨by rfl, rfl⟩)
    simp only [Act.put, tqA, tqZ, tqS]
    refine tk 12 (some 18) undef ?_ (hy := Or.inr ⟨by rfl, rfl⟩)
    simp only [Act.put, tqA, tqZ, tqS]
    refine tk 13 (some 19) undef ?_ (hy := Or.inr ⟨by rfl, rfl⟩)
    simp only [Act.put, tqA, tqZ, tqS]
    refine tk 14 (some 20) (.bool true) ?_
    simp only [Act.put, tqA, tqZ, tqS]
    refine wpAnyH_ready (rs := [15]) (by kernel_rfl) (by simp) (AllReadyH.cons (o := ⟨some 5, .assign (.tmp 20), 4, "clauses.go:32", #[⟨14, .data⟩, ⟨13, .chain⟩, ⟨0, .phase⟩, ⟨1, .phase⟩, ⟨2, .phase⟩, ⟨3, .phase⟩, ⟨4, .phase⟩, ⟨5, .phase⟩, ⟨6, .phase⟩, ⟨7, .phase⟩, ⟨8, .phase⟩, ⟨9, .phase⟩, ⟨10, .phase⟩, ⟨11, .phase⟩, ⟨12, .phase⟩, ⟨13, .phase⟩, ⟨14, .phase⟩], none⟩) rfl (fun KQ hK => ?_) AllReadyH.nil)
    go_simp
    refine hK.out _ _ HX.out (fun hHeld => ?_)
    clear hK KQ
    try simp only [Act.put, tqA, tqZ, tqS]
    refine wpAnyH_done (by kernel_rfl) ?_ _
    go_wp2_with fail
    go_ret
    exact ⟨rfl, HB.out⟩
theorem at_v (W : World) (v : Vp) (p : Dp) (d : DS) (h : VS W v p d) (r : Nat) (hr : W.heap.size ≤ r) (w : World) (hbW : Below W.heap.size W w) (hr2 : r < w.heap.size) (t : Int) (fv : Value) (F : Nat → Bool) (hF : Tells r w fv d.m.ns F) :
    Calls Tryz.prog 93 #[.pointer (some ⟨v.g, 0, none⟩), .int .i64 t, fv] w fun e w' => ∃ f, e = .returned f ∧ Tells r w' f d.m.ns (fun k => (d.at k).t != t || F k) ∧ Below w.heap.size w w' := by
  have hb3 := below_on (below_on (below_one w (.cells #[.pointer (some ⟨v.g, 0, none⟩)] 102)) (below_one _ (.cells #[.int .i64 t] 76))) (below_one _ (.cells #[fv] 50))
  have c3 := ((Cel.new w 102 [.pointer (some ⟨v.g, 0, none⟩)]).on (below_one _ (.cells #[.int .i64 t] 76))).on (below_one _ (.cells #[fv] 50))
  have c4 := (Cel.new (w.alloc (.cells #[.pointer (some ⟨v.g, 0, none⟩)] 102)) 76 [.int .i64 t]).on (below_one _ (.cells #[fv] 50))
  have c5 := Cel.new ((w.alloc (.cells #[.pointer (some ⟨v.g, 0, none⟩)] 102)).alloc (.cells #[.int .i64 t] 76)) 50 [fv]
  have s1 : (w.alloc (.cells #[.pointer (some ⟨v.g, 0, none⟩)] 102)).heap.size = w.heap.size + 1 := Array.size_push ..
  have s2 : ((w.alloc (.cells #[.pointer (some ⟨v.g, 0, none⟩)] 102)).alloc (.cells #[.int .i64 t] 76)).heap.size = w.heap.size + 1 + 1 := by rw [← s1]; exact Array.size_push ..
  rw [s1] at c4
  rw [s2] at c5
  have HT : Hid (Tells r (((w.alloc (.cells #[.pointer (some ⟨v.g, 0, none⟩)] 102)).alloc (.cells #[.int .i64 t] 76)).alloc (.cells #[fv] 50)) (.func (.func 140) #[] #[.pointer (some ⟨w.heap.size, 0, none⟩), .pointer (some ⟨w.heap.size + 1, 0, none⟩), .pointer (some ⟨w.heap.size + 1 + 1, 0, none⟩)]) d.m.ns (fun k => (d.at k).t != t || F k)) := hid ⟨140, _, _, rfl, enters_of Tryz.func140 (by kernel_rfl) rfl, fun w' hb k hk => at1_v w' v p d (h.on (below_r (below_on hbW hb3) hr hb)) t _ _ _ fv F (c3.but hb (by rw [List.mem_singleton]; omega)) (c4.but hb (by rw [List.mem_singleton]; omega)) (c5.but hb (by rw [List.mem_singleton]; omega)) r ((hF.on hb3).st hb) k hk⟩
  have HB := hid hb3
  obtain ⟨fn, bs, fs, e, _⟩ := hF
  subst e
  clear h hb3 c3 c4 c5 s1 s2 hbW hr hr2
  go_enter Tryz.func93, Tryz.ntmps93
  go_wp2_with fail
  go_ret
  exact ⟨_, rfl, HT.out, HB.out⟩
end Go.Proofs.YtildhjiddidghaaGreatDoor
namespace Go.Proofs.YtildhjiddidghaaGreatDoor
open Go.RowKit
set_option maxHeartbeats 8000000
set_option maxRecDepth 100000
theorem alive1_v (w : World) (v : Vp) (p : Dp) (d : DS) (h : VS w v p d) (g3 g5 : Nat) (fv : Value) (F : Nat → Bool) (h3 : Cel w g3 102 [.pointer (some ⟨v.g, 0, none⟩)]) (h5 : Cel w g5 50 [fv]) (r : Nat) (hF : Tells r w fv d.m.ns F) (k : Nat) (hk : k < d.m.ns) :
    Calls Tryz.prog 146 #[.int .i64 (k : Int), .pointer (some ⟨g3, 0, none⟩), .pointer (some ⟨g5, 0, none⟩)] w fun e w' => e = .returned (.bool (!(d.alive k) || F k)) ∧ Below w.heap.size w w' := by
  obtain ⟨fn, bs, fs, rfl, hen, hc⟩ := hF
  have HC := hid (fun w' (hb : Below w.heap.size w w') => hc w' (.of hb) k hk)
  have HA := hid (isAlive_v w v p d h k hk)
  have c3 : w.cell? ⟨g3, 0, none⟩ = some (.pointer (some ⟨v.g, 0, none⟩)) := h3.cell 0
  have H5 := hid (fun (w' : World) (hb : Below w.heap.size w w') => (h5.on hb).cell 0)
  simp only [List.getElem?_cons_zero] at H5
  clear h h3 h5 hc hk
  generalize F k = y at *
  cases ha : d.alive k
  · rw [ha] at HA
    rw [Bool.not_false, Bool.true_or]
    clear ha
    go_enter Tryz.func146, Tryz.ntmps146
    go_wp2_with (go_at_call 147; refine HA.out.mono ?_; rintro e w1 ⟨rfl, hb⟩; have B1 := hid hb; clear hb)
    go_ret
    exact ⟨rfl, B1.out⟩
  · rw [ha] at HA
    rw [Bool.not_true, Bool.false_or]
    clear ha
    go_enter Tryz.func146, Tryz.ntmps146
    go_wp2_with (go_at_call 147; refine HA.out.mono ?_; rintro e w1 ⟨rfl, hb⟩; have B1 := hid hb; have c5 := H5.out _ hb; clear hb)
    refine (HC.out _ B1.out).mono ?_
    rintro e w2 ⟨rfl, hb⟩
    have B2 := hid (below_on B1.out hb)
    clear hb
    go_wp2_with fail
    go_ret
    exact ⟨rfl, B2.out⟩
theorem atAlive_v (W : World) (v : Vp) (p : Dp) (d : DS) (h : VS W v p d) (r : Nat) (hr : W.heap.size ≤ r) (w : World) (hbW : Below W.heap.size W w) (hr2 : r < w.heap.size) (t : Int) (fv : Value) (F : Nat → Bool) (hF : Tells r w fv d.m.ns F) :
    Calls Tryz.prog 102 #[.pointer (some ⟨v.g, 0, none⟩), .int .i64 t, fv] w fun e w' => ∃ f, e = .returned f ∧ Tells r w' f d.m.ns (fun k => (d.at k).t != t || (!(d.alive k) || F k)) ∧ Below w.heap.size w w' := by
  have hb3 := below_on (below_one w (.cells #[.pointer (some ⟨v.g, 0, none⟩)] 102)) (below_one _ (.cells #[fv] 50))
  have c3 := (Cel.new w 102 [.pointer (some ⟨v.g, 0, none⟩)]).on (below_one _ (.cells #[fv] 50))
  have c5 := Cel.new (w.alloc (.cells #[.pointer (some ⟨v.g, 0, none⟩)] 102)) 50 [fv]
  have s1 : (w.alloc (.cells #[.pointer (some ⟨v.g, 0, none⟩)] 102)).heap.size = w.heap.size + 1 := Array.size_push ..
  rw [s1] at c5
  have hT : Tells r ((w.alloc (.cells #[.pointer (some ⟨v.g, 0, none⟩)] 102)).alloc (.cells #[fv] 50)) (.func (.func 146) #[] #[.pointer (some ⟨w.heap.size, 0, none⟩), .pointer (some ⟨w.heap.size + 1, 0, none⟩)]) d.m.ns (fun k => !(d.alive k) || F k) := ⟨146, _, _, rfl, enters_of Tryz.func146 (by kernel_rfl) rfl, fun w' hb k hk => alive1_v w' v p d (h.on (below_r (below_on hbW hb3) hr hb)) _ _ fv F (c3.but hb (by rw [List.mem_singleton]; omega)) (c5.but hb (by rw [List.mem_singleton]; omega)) r ((hF.on hb3).st hb) k hk⟩
  have HAt := hid (at_v W v p d h r hr _ (below_on hbW hb3) (by have := hb3.size; omega) t _ _ hT)
  have HB := hid hb3
  have y3 : ((w.alloc (.cells #[.pointer (some ⟨v.g, 0, none⟩)] 102)).alloc (.cells #[fv] 50)).cell? ⟨w.heap.size, 0, none⟩ = some (.pointer (some ⟨v.g, 0, none⟩)) := c3.cell 0
  obtain ⟨fn, bs, fs, e, _⟩ := hF
  subst e
  clear h hb3 c3 c5 s1 hT hbW hr hr2
  go_enter Tryz.func102, Tryz.ntmps102
  go_upto_region 1 with fail
  generalize World.alloc _ _ = X at *
  go_wp2_with (go_at_call 93; refine HAt.out.mono ?_; rintro e w1 ⟨f, rfl, hf, hb⟩; have K1 := hid (And.intro hf (below_on HB.out hb)); clear hf hb)
  go_ret
  exact ⟨_, rfl, K1.out.1, K1.out.2⟩
end Go.Proofs.YtildhjiddidghaaGreatDoor
