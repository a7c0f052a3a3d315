import Derived.Test.YtllcbgdcepfdkaaGreatDoorP03
namespace Go.Proofs.YtllcbgdcepfdkaaGreatDoor
open Go.RowKit
end Go.Proofs.YtllcbgdcepfdkaaGreatDoor
namespace Go.Proofs.YtllcbgdcepfdkaaGreatDoor
open Go.RowKit
end Go.Proofs.YtllcbgdcepfdkaaGreatDoor
namespace Go.Proofs.YtllcbgdcepfdkaaGreatDoor
open Go.RowKit
end Go.Proofs.YtllcbgdcepfdkaaGreatDoor
namespace Go.Proofs.YtllcbgdcepfdkaaGreatDoor
open Go.RowKit
theorem read_any (w : World) (f : Fp) (m : MS) (h : Mem w f m) (s : Bool) (p off : Int) :
    Calls Tryz.prog 171 #[ptr f.gm, fr s p, .int .i64 off] w fun x w' => x = .returned (.tuple #[.int .u32 (m.word s p off), .int .i64 (m.err s p off)]) ∧ Mem w' f (m.read s p off) ∧ ButL f.w w w' := by
  have hX := h.on (below_one w (.cells #[.bool s, .int .i64 p] 82))
  have hB := hid (below_one w (.cells #[.bool s, .int .i64 p] 82))
  have HF := hid (at_any _ f m hX s p off)
  have h1 := h.ns0
  have hlt : Hid (∀ k, m.at s p = some k → k < m.P.length) := fun k hk => MS.at_lt h1 hk
  have H := hid hX
  clear h hX h1
  unfold MS.err at HF ⊢
  unfold MS.word MS.read
  generalize hr : m.at s p = r at *
  cases r with
  | none =>
    simp only [fr, ptr, pa] at *
    go_enter Tryz.func171, Tryz.ntmps171
    go_wp2_with fail
    refine HF.out.mono ?_
    rintro x w1 ⟨rfl, hb1⟩
    have HB1 := hid (below_on hB.out hb1)
    have HM := hid (H.out.on hb1)
    clear hb1
    go_wp2_with fail
    go_ret2
    exact ⟨rfl, HM.out, .of HB1.out⟩
  | some k =>
    have hk := hlt.out k rfl
    by_cases ho : In off
    · simp only [fr, ptr, pa, if_pos ho] at *
      obtain ⟨o0, o1⟩ := ho
      go_enter Tryz.func171, Tryz.ntmps171
      go_wp2_with fail
      refine HF.out.mono ?_
      rintro x w1 ⟨rfl, hb1⟩
      have HB1 := hid (below_on hB.out hb1)
      have HM := hid (H.out.on hb1)
      have c2 := HM.out.cm
      have f2 := HM.out.cel.free 2
      have cc : (w1.setCell ⟨f.gm, 2, none⟩ (.int .i64 (wrap64 (m.c + 1)))).cell? ⟨f.b k, off.toNat, none⟩ = some (.int .u32 (wd (m.p k) off.toNat)) := (HM.out.tick 1).word k hk off.toNat (by omega)
      have HT := hid (HM.out.tick 1)
      clear hb1
      go_wp2_with fail
      go_ret2
      exact ⟨rfl, HT.out, (ButL.of HB1.out).trans (.setCell _ _ _ _ (by simp [Fp.w]))⟩
    · simp only [fr, ptr, pa, if_neg ho] at *
      clear ho
      go_enter Tryz.func171, Tryz.ntmps171
      go_wp2_with fail
      refine HF.out.mono ?_
      rintro x w1 ⟨rfl, hb1⟩
      have HB1 := hid (below_on hB.out hb1)
      have HM := hid (H.out.on hb1)
      clear hb1
      go_wp2_with fail
      go_ret2
      exact ⟨rfl, HM.out, .of HB1.out⟩
end Go.Proofs.YtllcbgdcepfdkaaGreatDoor
namespace Go.Proofs.YtllcbgdcepfdkaaGreatDoor
open Go.RowKit
end Go.Proofs.YtllcbgdcepfdkaaGreatDoor
