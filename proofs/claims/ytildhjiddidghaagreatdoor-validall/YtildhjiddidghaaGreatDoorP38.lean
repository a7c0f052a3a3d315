import Derived.Test.YtildhjiddidghaaGreatDoorP37
import Derived.Test.YtildhjiddidghaaGreatDoorP01
namespace Go.Proofs.YtildhjiddidghaaGreatDoor
open Go.RowKit
set_option maxHeartbeats 4000000
set_option maxRecDepth 100000
theorem act_6 (W w : World) (g : Nat) (p : Dp) (r : Rp) (d : DS) (h : SS W w g p r d d) (a b c v : Int) (u : Value) :
    Calls Tryz.prog 11 #[.pointer (some ⟨g, 0, none⟩), .agg #[.int .i64 6, .int .i64 a, .int .i64 b, .int .i64 c, .int .u32 v, u]] w fun e w' => e = .returned (.bool true) ∧ ∃ q, SS W w' g p q (d.entered a (b.tmod 2 != 0)) (d.entered a (b.tmod 2 != 0)) := by
  have X0 : Hid (SX W (w.alloc (.cells #[.int .i64 6, .int .i64 a, .int .i64 b, .int .i64 c, .int .u32 v, u] 42)) g p r d d w.heap.size [.int .i64 6, .int .i64 a, .int .i64 b, .int .i64 c, .int .u32 v, u]) := hid ⟨h.on (below_one _ _), Cel.new w 42 [.int .i64 6, .int .i64 a, .int .i64 b, .int .i64 c, .int .u32 v, u]⟩
  have HA := hid (fun w (hw : DB w p d) => setEntered_any w p d hw a (b.tmod 2 != 0))
  have HR := hid (fun w (hw : RDB w r d) => rsetEntered_any w r d hw a (b.tmod 2 != 0))
  have HNm := hid (fun w x => num_l w x)
  clear h
  simp only [ptr] at *
  generalize hon : (b.tmod 2 != 0) = on at *
  generalize hd2 : d.entered a on = d2 at *
  clear hd2
  generalize d.enteredE a = ff at *
  go_enter Tryz.func11, Tryz.ntmps11
  go_upto_region 1 with fail
  generalize World.alloc _ _ = X at *
  generalize w.heap.size = g3 at *
  have y0 : X.cell? ⟨g3, 0, none⟩ = some (.int .i64 6) := X0.out.bx.cell 0
  go_upto_region 13 with fail
  clear y0
  have X1 := hid (X0.out.on (Below.refl _ _).drew)
  clear X0
  refine wp_region_held_drew (S := fun w => Cel w g3 42 [.int .i64 6, .int .i64 a, .int .i64 b, .int .i64 c, .int .u32 v, u] ∧ w.cell? ⟨g, 1, none⟩ = some (.pointer (some ⟨p.g, 0, none⟩)) ∧ w.cell? ⟨g, 2, none⟩ = some (.pointer (some ⟨r.g, 0, none⟩))) (by kernel_rfl) (X1.out.hold rfl) (fun hHeld => ?_)
  generalize World.drew _ = w1 at *
  refine tk 0 (some 119) (.pointer (some ⟨g, 0, none⟩)) ?_
  simp only [Act.put, tqA, tqZ, tqS]
  refine tk 1 (some 120) (.pointer (some ⟨g, 0, none⟩)) ?_
  simp only [Act.put, tqA, tqZ, tqS]
  refine tk 2 (some 121) (.pointer (some ⟨g, 1, none⟩)) ?_
  simp only [Act.put, tqA, tqZ, tqS]
  refine tk 3 (some 122) (.pointer (some ⟨p.g, 0, none⟩)) ?_ (hy := Or.inl ⟨by rfl, by intro w hSw; have hc := hSw.2.1; go_simp⟩)
  simp only [Act.put, tqA, tqZ, tqS]
  refine tk 4 (some 123) (.pointer (some ⟨g3, 1, none⟩)) ?_
  simp only [Act.put, tqA, tqZ, tqS]
  refine tk 5 (some 124) (.int .i64 a) ?_ (hy := Or.inl ⟨by rfl, by intro w hSw; have hc : w.cell? ⟨g3, 1, none⟩ = some (.int .i64 a) := hSw.1.cell 1; go_simp⟩)
  simp only [Act.put, tqA, tqZ, tqS]
  refine tk 6 (some 125) (.pointer (some ⟨g3, 2, none⟩)) ?_
  simp only [Act.put, tqA, tqZ, tqS]
  refine tk 7 (some 126) (.int .i64 b) ?_ (hy := Or.inl ⟨by rfl, by intro w hSw; have hc : w.cell? ⟨g3, 2, none⟩ = some (.int .i64 b) := hSw.1.cell 2; go_simp⟩)
  simp only [Act.put, tqA, tqZ, tqS]
  refine tk 8 (some 127) (.int .i64 (b.tmod 2)) ?_
  simp only [Act.put, tqA, tqZ, tqS]
  refine tk 9 (some 128) (.bool on) ?_
  simp only [Act.put, tqA, tqZ, tqS]
  refine tk 12 (some 131) (.pointer (some ⟨g, 0, none⟩)) ?_
  simp only [Act.put, tqA, tqZ, tqS]
  refine tk 13 (some 132) (.pointer (some ⟨g, 0, none⟩)) ?_
  simp only [Act.put, tqA, tqZ, tqS]
  refine tk 14 (some 133) (.pointer (some ⟨g, 2, none⟩)) ?_
  simp only [Act.put, tqA, tqZ, tqS]
  refine tk 15 (some 134) (.pointer (some ⟨r.g, 0, none⟩)) ?_ (hy := Or.inl ⟨by rfl, by intro w hSw; have hc := hSw.2.2; go_simp⟩)
  simp only [Act.put, tqA, tqZ, tqS]
  refine tk 16 (some 135) (.pointer (some ⟨g3, 1, none⟩)) ?_
  simp only [Act.put, tqA, tqZ, tqS]
  refine tk 17 (some 136) (.int .i64 a) ?_ (hy := Or.inl ⟨by rfl, by intro w hSw; have hc : w.cell? ⟨g3, 1, none⟩ = some (.int .i64 a) := hSw.1.cell 1; go_simp⟩)
  simp only [Act.put, tqA, tqZ, tqS]
  refine tk 18 (some 137) (.pointer (some ⟨g3, 2, none⟩)) ?_
  simp only [Act.put, tqA, tqZ, tqS]
  refine tk 19 (some 138) (.int .i64 b) ?_ (hy := Or.inl ⟨by rfl, by intro w hSw; have hc : w.cell? ⟨g3, 2, none⟩ = some (.int .i64 b) := hSw.1.cell 2; go_simp⟩)
  simp only [Act.put, tqA, tqZ, tqS]
  refine tk 20 (some 139) (.int .i64 (b.tmod 2)) ?_
  simp only [Act.put, tqA, tqZ, tqS]
  refine tk 21 (some 140) (.bool on) ?_
  simp only [Act.put, tqA, tqZ, tqS]
  refine wpAnyH_ready (rs := [10]) (by kernel_rfl) (by simp) (AllReadyH.cons (o := ⟨some 129, .call { callee := .value (.func 41), args := #[.tmp 122, .tmp 124, .tmp 128], argTypes := #[31, 3, 4] }, 54, "law.go:133", #[⟨3, .data⟩, ⟨5, .data⟩, ⟨9, .data⟩], none⟩) rfl (fun KQ hK => ?_) AllReadyH.nil)
  go_simp
  refine (HA.out _ X1.out.ss.own).mono ?_
  rintro e w2 ⟨rfl, hd, hb⟩
  have X2 := hid (X1.out.stepA hd hb)
  clear hd hb X1
  go_wp2_with fail
  refine hK.out _ _ (X2.out.hold rfl) (fun hHeld => ?_)
  clear hK KQ
  try simp only [Act.put, tqA, tqZ, tqS]
  refine wpAnyH_ready (rs := [11]) (by kernel_rfl) (by simp) (AllReadyH.cons (o := ⟨some 130, .call { callee := .value (.func 25), args := #[.tmp 129], argTypes := #[54] }, 3, "law.go:133", #[⟨10, .data⟩, ⟨10, .chain⟩], none⟩) rfl (fun KQ hK => ?_) AllReadyH.nil)
  go_simp
  refine (HNm.out _ _).mono ?_
  rintro e wx ⟨rfl, hw⟩
  subst wx
  go_wp2_with fail
  refine hK.out _ _ (X2.out.hold rfl) (fun hHeld => ?_)
  clear hK KQ
  try simp only [Act.put, tqA, tqZ, tqS]
  refine wpAnyH_ready (rs := [22]) (by kernel_rfl) (by simp) (AllReadyH.cons (o := ⟨some 141, .call { callee := .value (.func 42), args := #[.tmp 134, .tmp 136, .tmp 140], argTypes := #[32, 3, 4] }, 3, "law.go:133", #[⟨15, .data⟩, ⟨17, .data⟩, ⟨21, .data⟩, ⟨11, .chain⟩], none⟩) rfl (fun KQ hK => ?_) AllReadyH.nil)
  go_simp
  refine (HR.out _ X2.out.ss.doc).mono ?_
  rintro e w3 ⟨rfl, hg⟩
  have X3 := hid (X2.out.stepR hg)
  clear hg X2
  go_wp2_with fail
  refine hK.out _ _ (X3.out.hold rfl) (fun hHeld => ?_)
  clear hK KQ
  try simp only [Act.put, tqA, tqZ, tqS]
  refine tk 23 (some 142) (.bool true) ?_
  simp only [Act.put, tqA, tqZ, tqS]
  refine wpAnyH_ready (rs := [24]) (by kernel_rfl) (by simp) (AllReadyH.cons (o := ⟨some 4, .assign (.tmp 142), 4, "law.go:133", #[⟨23, .data⟩, ⟨22, .chain⟩, ⟨0, .phase⟩, ⟨1, .phase⟩, ⟨2, .phase⟩, ⟨3, .phase⟩, ⟨4, .phase⟩, ⟨5, .phase⟩, ⟨6, .phase⟩, ⟨7, .phase⟩, ⟨8, .phase⟩, ⟨9, .phase⟩, ⟨10, .phase⟩, ⟨11, .phase⟩, ⟨12, .phase⟩, ⟨13, .phase⟩, ⟨14, .phase⟩, ⟨15, .phase⟩, ⟨16, .phase⟩, ⟨17, .phase⟩, ⟨18, .phase⟩, ⟨19, .phase⟩, ⟨20, .phase⟩, ⟨21, .phase⟩, ⟨22, .phase⟩, ⟨23, .phase⟩], none⟩) rfl (fun KQ hK => ?_) AllReadyH.nil)
  go_simp
  refine hK.out _ _ (X3.out.hold rfl) (fun hHeld => ?_)
  clear hK KQ
  try simp only [Act.put, tqA, tqZ, tqS]
  refine wpAnyH_done (by kernel_rfl) ?_ _
  go_wp2_with fail
  go_ret
  exact ⟨rfl, _, X3.out.ss⟩
end Go.Proofs.YtildhjiddidghaaGreatDoor
namespace Go.Proofs.YtildhjiddidghaaGreatDoor
open Go.RowKit
theorem wd_set2 (L : List Int) (i j : Nat) (v : Int) : wd (L.set i v) j = if i = j ∧ j < L.length then v else wd L j := by
  unfold wd
  rw [List.getD_eq_getElem?_getD, List.getD_eq_getElem?_getD, List.getElem?_set]
  by_cases e : i = j
  · subst e
    by_cases h : i < L.length
    · simp [h]
    · simp [h]
  · simp [e]
theorem MS.p_set (m : MS) (k i : Nat) (L : List Int) (c : Int) : (MS.mk m.ns (m.P.set k L) c).p i = if k = i ∧ i < m.P.length then L else m.p i := by
  unfold MS.p
  simp only [List.getD_eq_getElem?_getD, List.getElem?_set]
  by_cases e : k = i
  · subst e
    by_cases h : k < m.P.length
    · simp [h]
    · simp [h]
  · simp [e]
theorem MS.zero_w (m : MS) (s : Bool) (p : Int) (i j : Nat) : wd ((m.zero s p).p i) j = 0 ∨ wd ((m.zero s p).p i) j = wd (m.p i) j := by
  unfold MS.zero
  split
  · exact .inr rfl
  · rename_i k _
    have := MS.p_set m k i zs (m.tick 1024).c
    show wd ((MS.mk m.ns (m.P.set k zs) (m.tick 1024).c).p i) j = 0 ∨ wd ((MS.mk m.ns (m.P.set k zs) (m.tick 1024).c).p i) j = wd (m.p i) j
    rw [this]
    split
    · exact .inl (wd_zsR j)
    · exact .inr rfl
theorem MS.write_w (m : MS) (s : Bool) (p off v : Int) (i j : Nat) : wd ((m.write s p off v).p i) j = v ∨ wd ((m.write s p off v).p i) j = wd (m.p i) j := by
  unfold MS.write
  split
  · exact .inr rfl
  · rename_i k _
    split
    · show wd ((MS.mk m.ns (m.P.set k ((m.p k).set off.toNat v)) (m.tick 1).c).p i) j = v ∨ wd ((MS.mk m.ns (m.P.set k ((m.p k).set off.toNat v)) (m.tick 1).c).p i) j = wd (m.p i) j
      rw [MS.p_set]
      split
      · rename_i h
        rw [wd_set2]
        split
        · exact .inl rfl
        · rw [h.1]; exact .inr rfl
      · exact .inr rfl
    · exact .inr rfl
theorem MS.U.write {m : MS} (h : m.U) (s : Bool) (p o v : Int) (h0 : 0 ≤ v) (h1 : v < 4294967296) : (m.write s p o v).U := fun k j => by
  rcases m.write_w s p o v k j with e | e <;> rw [e]
  · exact ⟨h0, h1⟩
  · exact h k j
theorem MS.U.zero {m : MS} (h : m.U) (s : Bool) (p : Int) : (m.zero s p).U := fun k j => by
  rcases m.zero_w s p k j with e | e <;> rw [e]
  · decide
  · exact h k j
def MS.Z (m : MS) : Prop := ∀ k j, wd (m.p k) j = 0
theorem MS.Z.u {m : MS} (h : m.Z) : m.U := fun k j => by rw [h k j]; decide
theorem MS.Z.new (s n : Nat) : (MS.new s n).Z := fun k j => by
  unfold MS.new MS.p
  simp only [List.getD_eq_getElem?_getD, List.getElem?_replicate]
  split
  · exact wd_zsR j
  · simp [wd]
theorem MS.Z.zero {m : MS} (h : m.Z) (s : Bool) (p : Int) : (m.zero s p).Z := fun k j => by
  rcases m.zero_w s p k j with e | e <;> rw [e]
  exact h k j
theorem MS.Z.zall {m : MS} (h : m.Z) : ∀ k, (m.zall k).Z
  | 0 => h
  | k + 1 => (MS.Z.zall h k).zero true (k : Int)
theorem MS.Z.word {m : MS} (h : m.Z) (s : Bool) (p off : Int) : m.word s p off = 0 := by
  unfold MS.word
  split
  · rfl
  · split
    · exact h _ _
    · rfl
theorem begun_Z (a b : Int) : (DS.begun a b).m.Z := (MS.Z.new (sz a) (sz b)).zall _
theorem begun_ns (a b : Int) : (DS.begun a b).m.ns = sz a := by
  show (MS.zall _ _).ns = _
  rw [MS.zall_ns]
  rfl
theorem begun_at (a b : Int) (k : Nat) : (DS.begun a b).at k = En.zero := rep_at _ k
theorem fb_none {d : DS} : ∀ (n c : Nat), (∀ i, c ≤ i → i < c + n → ∀ q, q < d.m.ns → d.at12 i q = true) → d.fb c n = (0, 0)
  | 0, _, _ => rfl
  | n + 1, c, h => by
    have h1 : d.bad c = none := bad_none (fun j hj => h c (Nat.le_refl _) (by omega) j hj)
    unfold DS.fb
    rw [h1]
    exact fb_none n (c + 1) (fun i hi hi' q hq => h i (by omega) (by omega) q hq)
theorem begun_fb (a b : Int) : (DS.begun a b).fb 1 12 = (0, 0) := by
  refine fb_none 12 1 (fun i h1 h2 q hq => ?_)
  have hz : (DS.begun a b).zr (q : Int) 0 1024 = true := DS.zr_yes (fun k _ _ => (begun_Z a b).word true _ _)
  have he := begun_at a b q
  unfold DS.at12
  have hc : i - 1 = 0 ∨ i - 1 = 1 ∨ i - 1 = 2 ∨ i - 1 = 3 ∨ i - 1 = 4 ∨ i - 1 = 5 ∨ i - 1 = 6 ∨ i - 1 = 7 ∨ i - 1 = 8 ∨ i - 1 = 9 ∨ i - 1 = 10 ∨ i - 1 = 11 := by omega
  rcases hc with e | e | e | e | e | e | e | e | e | e | e | e <;> rw [e] <;> simp [DS.cl, he, En.zero, hz]
end Go.Proofs.YtildhjiddidghaaGreatDoor
