/- Read 12, Write 9. -/
import Derived.Test.YtajkhkaidjjioaaM2
namespace Go.Proofs.Ytajkhkaidjjioaa
open Go.RowKit
def MS.tick (m : MS) (n : Int) : MS := { m with c := wrap64 (m.c + n) }
theorem Mem.tick {w : World} {f : Fp} {m : MS} (h : Mem w f m) (n : Int) : Mem (w.setCell ⟨f.gm, 2, none⟩ (.int .i64 (wrap64 (m.c + n)))) f (m.tick n) := h.meter _
def MS.read (m : MS) (s : Bool) (p off : Int) : MS := match m.at s p with
  | none => m
  | some _ => if In off then m.tick 1 else m
theorem u32s_set (L : List Int) (j : Nat) (v : Int) : (u32s L).set j (.int .u32 v) = u32s (L.set j v) := by simp [u32s, List.map_set]
/-- A word of a page is written. -/
theorem Mem.put {w : World} {f : Fp} {m : MS} (h : Mem w f m) (k : Nat) (hk : k < m.P.length) (j : Nat) (v : Int) : Mem (w.setCell ⟨f.b k, j, none⟩ (.int .u32 v)) f { m with P := m.P.set k ((m.p k).set j v) } :=
  h.page k hk _ (by rw [List.length_set]; exact h.full k hk) (.setCell _ _ _ _ (by simp)) (by rw [← u32s_set]; exact (h.pg k hk).setCell j _)
def MS.write (m : MS) (s : Bool) (p off v : Int) : MS := match m.at s p with
  | none => m
  | some k => if In off then { m.tick 1 with P := m.P.set k ((m.p k).set off.toNat v) } else m
theorem write_any (w : World) (f : Fp) (m : MS) (h : Mem w f m) (s : Bool) (p off v : Int) :
    Calls Try.prog 23 #[ptr f.gm, fr s p, .int .i64 off, .int .u32 v] w fun x w' => x = .returned (.int .i64 (m.err s p off)) ∧ Mem w' f (m.write s p off v) ∧ ButL f.w w w' := by
  have hX := h.on (below_one w (.cells #[.bool s, .int .i64 p] 54))
  have hB := hid (below_one w (.cells #[.bool s, .int .i64 p] 54))
  have HF := hid (at_any _ f m hX s p off)
  have h1 := h.ns0
  have hlt : Hid (∀ k, m.at s p = some k → k < m.P.length) := fun k hk => MS.at_lt h1 hk
  have H := hid hX
  clear h hX h1
  unfold MS.err at HF ⊢
  unfold MS.write
  generalize hr : m.at s p = r at *
  cases r with
  | none =>
    simp only [fr, ptr, pa] at *
    go_enter Try.func23, Try.ntmps23
    go_wp2_with fail
    refine HF.out.mono ?_
    rintro x w1 ⟨rfl, hb1⟩
    have HB1 := hid (below_on hB.out hb1)
    have HM := hid (H.out.on hb1)
    clear hb1
    go_wp2_with fail
    go_ret
    exact ⟨rfl, HM.out, .of HB1.out⟩
  | some k =>
    have hk := hlt.out k rfl
    by_cases ho : In off
    · simp only [fr, ptr, pa, if_pos ho] at *
      obtain ⟨o0, o1⟩ := ho
      go_enter Try.func23, Try.ntmps23
      go_wp2_with fail
      refine HF.out.mono ?_
      rintro x w1 ⟨rfl, hb1⟩
      have HB1 := hid (below_on hB.out hb1)
      have HM := hid (H.out.on hb1)
      have c2 := HM.out.cm
      have f2 := HM.out.cel.free 2
      have cc : (w1.setCell ⟨f.gm, 2, none⟩ (.int .i64 (wrap64 (m.c + 1)))).cell? ⟨f.b k, off.toNat, none⟩ = some (.int .u32 (wd (m.p k) off.toNat)) := (HM.out.tick 1).word k hk off.toNat (by omega)
      have cf : (w1.setCell ⟨f.gm, 2, none⟩ (.int .i64 (wrap64 (m.c + 1)))).frozen? ⟨f.b k, off.toNat, none⟩ = false := ((HM.out.tick 1).pg k hk).free _
      have HT := hid ((HM.out.tick 1).put k hk off.toNat v)
      have HG := hid (HM.out.mem k hk)
      clear hb1
      go_wp2_with fail
      go_ret
      exact ⟨rfl, HT.out, ((ButL.of HB1.out).trans (.setCell _ _ _ _ (by simp [Fp.w]))).trans (.setCell _ _ _ _ (by simp only [Fp.w, List.mem_cons]; exact .inr HG.out))⟩
    · simp only [fr, ptr, pa, if_neg ho] at *
      clear ho
      go_enter Try.func23, Try.ntmps23
      go_wp2_with fail
      refine HF.out.mono ?_
      rintro x w1 ⟨rfl, hb1⟩
      have HB1 := hid (below_on hB.out hb1)
      have HM := hid (H.out.on hb1)
      clear hb1
      go_wp2_with fail
      go_ret
      exact ⟨rfl, HM.out, .of HB1.out⟩
end Go.Proofs.Ytajkhkaidjjioaa
