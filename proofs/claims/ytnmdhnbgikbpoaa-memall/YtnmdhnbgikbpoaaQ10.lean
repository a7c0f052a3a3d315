/- The law's fresh 28 over a bench that is not full yet. -/
import Derived.Test.YtnmdhnbgikbpoaaQ4
namespace Go.Proofs.Ytnmdhnbgikbpoaa
open Go.RowKit
/-- A memory of the program and one of the document, both new, in the same state. -/
structure Pair (w w' : World) (fn : Fp) (rn : Rf) (m : MS) : Prop where
  f : Mem w' fn m
  r : RMem w' rn m
  pos : 0 < m.P.length
  flo : ∀ k ∈ fn.all, w.heap.size ≤ k
  rlo : ∀ k ∈ rn.all, w.heap.size ≤ k
theorem Pair.on {w w' w2 : World} {fn : Fp} {rn : Rf} {m : MS} (h : Pair w w' fn rn m) (hb : Below w'.heap.size w' w2) : Pair w w2 fn rn m := ⟨h.f.on hb, h.r.on hb, h.pos, h.flo, h.rlo⟩
theorem Pair.set {w w' : World} {fn : Fp} {rn : Rf} {m : MS} {gb : Nat} {cs : List Value} (h : Pair w w' fn rn m) (hc : Cel w' gb 68 cs) (j : Nat) (u : Value) : Pair w (w'.setCell ⟨gb, j, none⟩ u) fn rn m := by
  have hb := ButL.setCell (G := [gb]) w' gb j u (by simp)
  have no : ∀ k t, TyAt w' k t → t ≠ 68 → k ∉ [gb] := fun k t ht hn hk => by rw [List.mem_singleton] at hk; subst hk; exact hn (ht.eq hc.tyAt)
  refine ⟨h.f.frame hb (fun k hk => ?_), h.r.frame hb (fun k hk => ?_), h.pos, h.flo, h.rlo⟩
  · rcases h.f.tys k hk with a | a | a <;> exact no k _ a (by decide)
  · rcases h.r.tys k hk with a | a | a <;> exact no k _ a (by decide)
set_option maxRecDepth 40000 in
set_option maxHeartbeats 4000000 in
theorem fresh_raw {wr : World} {gb : Nat} {cs : List Value} (h : Cel wr gb 68 cs) (h9 : cs.length = 9) (i : Nat) (hi : i < 4) (s n : Int) :
    Calls Try.prog 28 #[.pointer (some ⟨gb, 0, none⟩), .int .i64 (i : Int), .int .i64 s, .int .i64 n] wr fun x w' => x = .returned (.bool true) ∧ ButL [gb] wr w' ∧ ((¬ (1 ≤ s ∧ s ≤ 64 ∧ 1 ≤ n ∧ n ≤ 64) ∧ Cel w' gb 68 cs) ∨ ((1 ≤ s ∧ s ≤ 64 ∧ 1 ≤ n ∧ n ≤ 64) ∧ ∃ fn rn m, Pair wr w' fn rn m ∧ Cel w' gb 68 ((cs.set i (ptr fn.gm)).set (4 + i) (ptr rn.g)))) := by
  have i4 : (i : Int) < 4 := by omega
  have H := hid h
  have H9 := hid h9
  clear h h9
  by_cases hf : 1 ≤ s ∧ s ≤ 64 ∧ 1 ≤ n ∧ n ≤ 64
  · have HF := hid hf
    obtain ⟨h1, h2, h3, h4⟩ := hf
    obtain ⟨a, rfl⟩ := Int.eq_ofNat_of_zero_le (show 0 ≤ s by omega)
    obtain ⟨b, rfl⟩ := Int.eq_ofNat_of_zero_le (show 0 ≤ n by omega)
    have HP := hid (new_pos a b (by omega))
    have N1 := hid (new_any wr a b (by omega) (by omega) (by omega) (by omega))
    have N2 : Hid (∀ x, Calls Try.prog 40 #[.int .i64 (a : Int), .int .i64 (b : Int)] x fun y w' => ∃ r, y = .returned (.tuple #[ptr r.g, .int .i64 0]) ∧ NewR x w' r (MS.new a b)) := hid (fun x => rnew_any x a b (by omega) (by omega) (by omega) (by omega))
    clear h1 h2 h3 h4
    go_enter Try.func28, Try.ntmps28
    go_wp2_with fail
    refine N1.out.mono ?_
    rintro x w1 ⟨f', rfl, hm⟩
    have HM := hid hm
    clear hm N1
    simp only [ptr]
    go_wp2_with fail
    refine (N2.out _).mono ?_
    rintro x w2 ⟨r', rfl, hr⟩
    have HB := hid (below_on HM.out.below hr.below)
    have HPR : Hid (Pair wr w2 f' r' (MS.new a b)) := hid ⟨HM.out.mem.on hr.below, hr.mem, HP.out, HM.out.new, fun k hk => Nat.le_trans HM.out.below.size (hr.new k hk)⟩
    have C2 := hid (H.out.on HB.out)
    obtain ⟨o1, ho1⟩ : ∃ o, w2.cell? ⟨gb, i, none⟩ = some o := ⟨cs[i]'(by have := H9.out; omega), by rw [C2.out.cell i, List.getElem?_eq_getElem]⟩
    have y2 := C2.out.free i
    have C3 := hid (C2.out.setCell i (.pointer (some ⟨f'.gm, 0, none⟩)))
    obtain ⟨o2, ho2⟩ : ∃ o, (w2.setCell ⟨gb, i, none⟩ (.pointer (some ⟨f'.gm, 0, none⟩))).cell? ⟨gb, 4 + i, none⟩ = some o := ⟨(cs.set i (.pointer (some ⟨f'.gm, 0, none⟩)))[4 + i]'(by rw [List.length_set]; have := H9.out; omega), by rw [C3.out.cell (4 + i), List.getElem?_eq_getElem]⟩
    have y4 := C3.out.free (4 + i)
    have C4 := hid (C3.out.setCell (4 + i) (.pointer (some ⟨r'.g, 0, none⟩)))
    have P4 := hid ((HPR.out.set C2.out i (.pointer (some ⟨f'.gm, 0, none⟩))).set C3.out (4 + i) (.pointer (some ⟨r'.g, 0, none⟩)))
    have HBB := hid (((ButL.of (G := [gb]) HB.out).trans (.setCell w2 gb i (.pointer (some ⟨f'.gm, 0, none⟩)) (by simp))).trans (.setCell _ gb (4 + i) (.pointer (some ⟨r'.g, 0, none⟩)) (by simp)))
    clear hr HM N2 HPR
    simp only [ptr]
    go_wp2_with fail
    refine (num_any _ _).mono ?_
    rintro x wk ⟨rfl, rfl⟩
    go_wp2_with fail
    go_ret
    exact ⟨rfl, HBB.out, .inr ⟨HF.out, f', r', _, P4.out, C4.out⟩⟩
  · have N1 := hid (new_no wr s n hf)
    have N2 := hid (rnew_no wr s n hf)
    have HF := hid hf
    clear hf
    go_enter Try.func28, Try.ntmps28
    go_wp2_with fail
    refine N1.out.mono ?_
    rintro x w1 ⟨rfl, rfl⟩
    go_wp2_with fail
    refine N2.out.mono ?_
    rintro x w2 ⟨rfl, rfl⟩
    go_wp2_with fail
    refine (num_any _ _).mono ?_
    rintro x wk ⟨rfl, rfl⟩
    go_wp2_with fail
    go_ret
    exact ⟨rfl, .refl _ _, .inl ⟨HF.out, H.out⟩⟩
end Go.Proofs.Ytnmdhnbgikbpoaa
