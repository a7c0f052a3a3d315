import Derived.Test.YtgbpbfnpeeciaaaGreatP01
namespace Go.Proofs.YtgbpbfnpeeciaaaGreat
open Go.RowKit
def In (off : Int) : Prop := 0 ≤ off ∧ off < 1024
instance (off : Int) : Decidable (In off) := by unfold In; exact inferInstance
def MS.err (m : MS) (s : Bool) (p off : Int) : Int := match m.at s p with
  | none => 5
  | some _ => if In off then 0 else 70
def pa (f : Fp) (o : Option Nat) (off : Int) : Value := match o with
  | none => .pointer none
  | some k => if In off then .pointer (some ⟨f.b k, off.toNat, none⟩) else .pointer none
theorem at_any (w : World) (f : Fp) (m : MS) (h : Mem w f m) (s : Bool) (p off : Int) :
    Calls Tryz.prog 70 #[ptr f.gm, fr s p, .int .i64 off] w fun x w' => x = .returned (.tuple #[pa f (m.at s p) off, .int .i64 (m.err s p off)]) ∧ Below w.heap.size w w' := by
  have hX := h.on (below_one w (.cells #[.bool s, .int .i64 p] 67))
  have hB := hid (below_one w (.cells #[.bool s, .int .i64 p] 67))
  have HF := hid (find_any _ f m hX s p)
  have h1 := h.ns0
  have hlt : Hid (∀ k, m.at s p = some k → k < m.P.length) := fun k hk => MS.at_lt h1 hk
  have H := hid hX
  clear h hX h1
  unfold MS.err
  generalize hr : m.at s p = r at *
  cases r with
  | none =>
    simp only [fr, ptr, pv, pa] at *
    go_enter Tryz.func70, Tryz.ntmps70
    go_wp2_with fail
    refine HF.out.mono ?_
    rintro x w1 ⟨rfl, hb1⟩
    have HB1 := hid (below_on hB.out hb1)
    clear hb1
    go_wp2_with fail
    go_ret2
    exact ⟨rfl, HB1.out⟩
  | some k =>
    have hk := hlt.out k rfl
    by_cases ho : In off
    · simp only [fr, ptr, pv, pa, if_pos ho] at *
      obtain ⟨o0, o1⟩ := ho
      go_enter Tryz.func70, Tryz.ntmps70
      go_wp2_with fail
      refine HF.out.mono ?_
      rintro x w1 ⟨rfl, hb1⟩
      have HB1 := hid (below_on hB.out hb1)
      clear hb1
      go_wp2_with fail
      go_ret2
      exact ⟨rfl, HB1.out⟩
    · simp only [fr, ptr, pv, pa, if_neg ho] at *
      have ho' : off < 0 ∨ 1024 ≤ off := by unfold In at ho; omega
      clear ho
      go_enter Tryz.func70, Tryz.ntmps70
      go_wp2_with fail
      refine HF.out.mono ?_
      rintro x w1 ⟨rfl, hb1⟩
      have HB1 := hid (below_on hB.out hb1)
      clear hb1
      rcases ho' with ho | ho
      all_goals go_wp2_with fail
      all_goals go_ret2
      all_goals exact ⟨rfl, HB1.out⟩
def MS.word (m : MS) (s : Bool) (p off : Int) : Int := match m.at s p with
  | none => 0
  | some k => if In off then wd (m.p k) off.toNat else 0
theorem Mem.word {w : World} {f : Fp} {m : MS} (h : Mem w f m) (k : Nat) (hk : k < m.P.length) (j : Nat) (hj : j < 1024) : w.cell? ⟨f.b k, j, none⟩ = some (.int .u32 (wd (m.p k) j)) := by
  have := h.full k hk
  rw [(h.pg k hk).cell j, u32s, List.getElem?_map, List.getElem?_eq_getElem (by omega)]
  simp [wd, List.getD_eq_getElem?_getD, List.getElem?_eq_getElem (show j < (m.p k).length by omega)]
theorem peek_any (w : World) (f : Fp) (m : MS) (h : Mem w f m) (s : Bool) (p off : Int) :
    Calls Tryz.prog 50 #[ptr f.gm, fr s p, .int .i64 off] w fun x w' => x = .returned (.int .u32 (m.word s p off)) ∧ Below w.heap.size w w' := by
  have hX := h.on (below_one w (.cells #[.bool s, .int .i64 p] 67))
  have hB := hid (below_one w (.cells #[.bool s, .int .i64 p] 67))
  have HF := hid (at_any _ f m hX s p off)
  have h1 := h.ns0
  have hlt : Hid (∀ k, m.at s p = some k → k < m.P.length) := fun k hk => MS.at_lt h1 hk
  have H := hid hX
  clear h hX h1
  unfold MS.err at HF
  unfold MS.word
  generalize hr : m.at s p = r at *
  cases r with
  | none =>
    simp only [fr, ptr, pa] at *
    go_enter Tryz.func50, Tryz.ntmps50
    go_wp2_with fail
    refine HF.out.mono ?_
    rintro x w1 ⟨rfl, hb1⟩
    have HB1 := hid (below_on hB.out hb1)
    clear hb1
    go_wp2_with fail
    go_ret
    exact ⟨rfl, HB1.out⟩
  | some k =>
    have hk := hlt.out k rfl
    by_cases ho : In off
    · simp only [fr, ptr, pa, if_pos ho] at *
      obtain ⟨o0, o1⟩ := ho
      go_enter Tryz.func50, Tryz.ntmps50
      go_wp2_with fail
      refine HF.out.mono ?_
      rintro x w1 ⟨rfl, hb1⟩
      have HB1 := hid (below_on hB.out hb1)
      have cc := (H.out.on hb1).word k hk off.toNat (by omega)
      clear hb1
      go_wp2_with fail
      go_ret
      exact ⟨rfl, HB1.out⟩
    · simp only [fr, ptr, pa, if_neg ho] at *
      clear ho
      go_enter Tryz.func50, Tryz.ntmps50
      go_wp2_with fail
      refine HF.out.mono ?_
      rintro x w1 ⟨rfl, hb1⟩
      have HB1 := hid (below_on hB.out hb1)
      clear hb1
      go_wp2_with fail
      go_ret
      exact ⟨rfl, HB1.out⟩
end Go.Proofs.YtgbpbfnpeeciaaaGreat
namespace Go.Proofs.YtgbpbfnpeeciaaaGreat
open Go.RowKit
def MS.tick (m : MS) (n : Int) : MS := { m with c := wrap64 (m.c + n) }
theorem Mem.tick {w : World} {f : Fp} {m : MS} (h : Mem w f m) (n : Int) : Mem (w.setCell ⟨f.gm, 2, none⟩ (.int .i64 (wrap64 (m.c + n)))) f (m.tick n) := h.meter _
def MS.read (m : MS) (s : Bool) (p off : Int) : MS := match m.at s p with
  | none => m
  | some _ => if In off then m.tick 1 else m
theorem u32s_set (L : List Int) (j : Nat) (v : Int) : (u32s L).set j (.int .u32 v) = u32s (L.set j v) := by simp [u32s, List.map_set]
theorem Mem.put {w : World} {f : Fp} {m : MS} (h : Mem w f m) (k : Nat) (hk : k < m.P.length) (j : Nat) (v : Int) : Mem (w.setCell ⟨f.b k, j, none⟩ (.int .u32 v)) f { m with P := m.P.set k ((m.p k).set j v) } :=
  h.page k hk _ (by rw [List.length_set]; exact h.full k hk) (.setCell _ _ _ _ (by simp)) (by rw [← u32s_set]; exact (h.pg k hk).setCell j _)
def MS.write (m : MS) (s : Bool) (p off v : Int) : MS := match m.at s p with
  | none => m
  | some k => if In off then { m.tick 1 with P := m.P.set k ((m.p k).set off.toNat v) } else m
theorem write_any (w : World) (f : Fp) (m : MS) (h : Mem w f m) (s : Bool) (p off v : Int) :
    Calls Tryz.prog 25 #[ptr f.gm, fr s p, .int .i64 off, .int .u32 v] w fun x w' => x = .returned (.int .i64 (m.err s p off)) ∧ Mem w' f (m.write s p off v) ∧ ButL f.w w w' := by
  have hX := h.on (below_one w (.cells #[.bool s, .int .i64 p] 67))
  have hB := hid (below_one w (.cells #[.bool s, .int .i64 p] 67))
  have HF := hid (at_any _ f m hX s p off)
  have h1 := h.ns0
  have hlt : Hid (∀ k, m.at s p = some k → k < m.P.length) := fun k hk => MS.at_lt h1 hk
  have H := hid hX
  clear h hX h1
  unfold MS.err at HF ⊢
  unfold MS.write
  generalize hr : m.at s p = r at *
  cases r with
  | none =>
    simp only [fr, ptr, pa] at *
    go_enter Tryz.func25, Tryz.ntmps25
    go_wp2_with fail
    refine HF.out.mono ?_
    rintro x w1 ⟨rfl, hb1⟩
    have HB1 := hid (below_on hB.out hb1)
    have HM := hid (H.out.on hb1)
    clear hb1
    go_wp2_with fail
    go_ret
    exact ⟨rfl, HM.out, .of HB1.out⟩
  | some k =>
    have hk := hlt.out k rfl
    by_cases ho : In off
    · simp only [fr, ptr, pa, if_pos ho] at *
      obtain ⟨o0, o1⟩ := ho
      go_enter Tryz.func25, Tryz.ntmps25
      go_wp2_with fail
      refine HF.out.mono ?_
      rintro x w1 ⟨rfl, hb1⟩
      have HB1 := hid (below_on hB.out hb1)
      have HM := hid (H.out.on hb1)
      have c2 := HM.out.cm
      have f2 := HM.out.cel.free 2
      have cc : (w1.setCell ⟨f.gm, 2, none⟩ (.int .i64 (wrap64 (m.c + 1)))).cell? ⟨f.b k, off.toNat, none⟩ = some (.int .u32 (wd (m.p k) off.toNat)) := (HM.out.tick 1).word k hk off.toNat (by omega)
      have cf : (w1.setCell ⟨f.gm, 2, none⟩ (.int .i64 (wrap64 (m.c + 1)))).frozen? ⟨f.b k, off.toNat, none⟩ = false := ((HM.out.tick 1).pg k hk).free _
      have HT := hid ((HM.out.tick 1).put k hk off.toNat v)
      have HG := hid (HM.out.mem k hk)
      clear hb1
      go_wp2_with fail
      go_ret
      exact ⟨rfl, HT.out, ((ButL.of HB1.out).trans (.setCell _ _ _ _ (by simp [Fp.w]))).trans (.setCell _ _ _ _ (by simp only [Fp.w, List.mem_cons]; exact .inr HG.out))⟩
    · simp only [fr, ptr, pa, if_neg ho] at *
      clear ho
      go_enter Tryz.func25, Tryz.ntmps25
      go_wp2_with fail
      refine HF.out.mono ?_
      rintro x w1 ⟨rfl, hb1⟩
      have HB1 := hid (below_on hB.out hb1)
      have HM := hid (H.out.on hb1)
      clear hb1
      go_wp2_with fail
      go_ret
      exact ⟨rfl, HM.out, .of HB1.out⟩
end Go.Proofs.YtgbpbfnpeeciaaaGreat
