/- places 36 and its closure 79. -/
import Derived.Test.YtgbpbfnpeeciaaaJq
namespace Go.Proofs.Ytgbpbfnpeeciaaa
open Go.RowKit Go.Shelf
set_option maxHeartbeats 8000000
set_option maxRecDepth 100000
theorem places_any (W : World) (p : Dp) (s t tb n : Int) :
    Calls Try.prog 36 #[tbV p s t, .int .i64 tb, .int .i64 n] W fun x W' => ∃ b3 b4 b5, x = .returned (.func (.func 79) #[] #[ptr b5, ptr b3, ptr b4]) ∧ Bag W W' [(b5, 3, [.int .i64 n]), (b4, 3, [.int .i64 tb]), (b3, 90, tbC p s t)] ∧ W.heap.size ≤ b3 ∧ W.heap.size ≤ b4 ∧ W.heap.size ≤ b5 := by
  have B0 := hid ((Bag.two W 90 3 (tbC p s t) [.int .i64 tb]).add (u := 3) (ds := [.int .i64 n]) (es := [.int .i64 n]) (Cel.new _ 3 [.int .i64 n]) (.refl _ _))
  simp only [World.size_alloc] at B0
  unfold tbC ptr at B0
  unfold tbV tbC ptr
  go_enter Try.func36, Try.ntmps36
  go_wp2_with fail
  go_returns
  exact ⟨W.heap.size, W.heap.size + 1, W.heap.size + 1 + 1, rfl, B0.out, Nat.le_refl _, Nat.le_succ _, by omega⟩
theorem plc_in (n l b5 b3 b4 : Nat) (p : Dp) (s t tb : Int) (words : Nat) (hw : words ≤ 1024) (J : Nat → World → Prop)
    (hJ : ∀ k W, J k W → (∃ d, DB W p d) ∧ W.cell? ⟨b5, 0, none⟩ = some (.int .i64 (words : Int)) ∧ Cel W b3 90 (tbC p s t) ∧ W.cell? ⟨b4, 0, none⟩ = some (.int .i64 tb))
    (hS : ∀ (k : Nat) W W', k < words → J k W → Below W.heap.size W W' → YieldAt .wide (n - 1) Try.prog l #[.int .i64 (k : Int), plV p.f tb (k : Int)] W' (fun e W'' => e = .returned (.bool true) ∧ J (k + 1) W''))
    (W : World) (h0 : J 0 W) :
    CallsIn .wide n Try.prog 79 #[.func (.yield l) #[] #[], .pointer (some ⟨b5, 0, none⟩), .pointer (some ⟨b3, 0, none⟩), .pointer (some ⟨b4, 0, none⟩)] W fun e W' => (∃ v, e = .returned v) ∧ J words W' := by
  have wq : (words : Int) ≤ 1024 := by omega
  have w0 := (hJ 0 W h0).2.1
  refine callsIn_of_wp Try.func79 rfl trivial ?_ rfl
  simp only [Try.ntmps79, List.size_toArray, List.length_cons, List.length_nil, Nat.reduceAdd, Nat.reduceSub, Array.replicate_succ, Array.replicate_zero, List.push_toArray, List.append_toArray, List.nil_append, List.cons_append]
  gi_wp2
  clear w0
  gi_loopw [7] (fun p wr => ∃ (k : Nat), k ≤ words ∧ p = .int .i64 (k : Int) ∧ Hid (J k wr)) (fun p _ => words - (intOf p).toNat)
  case atStart => exact ⟨0, Nat.zero_le _, rfl, hid h0⟩
  case round =>
    obtain ⟨k, hk, rfl, HQ⟩ := hrel
    by_cases hlt : k < words
    · have q1 : (k : Int) < (words : Int) := by omega
      have q2 : (k : Int) ≤ 1024 := by omega
      obtain ⟨⟨d, hd⟩, _, hb3, e4⟩ := hJ k _ HQ.out
      have HP := hid (placep_any wr p d hd s t tb (k : Int))
      have e1 := hb3.cell 0
      have e2 := hb3.cell 1
      have e3 := hb3.cell 2
      have HSk := hid (fun w1 (h2 : Below wr.heap.size wr w1) => hS k wr w1 hlt HQ.out h2)
      clear hd hb3
      simp only [tbC, List.getElem?_cons_zero, List.getElem?_cons_succ] at e1 e2 e3
      unfold tbV at HP
      unfold plV at HP HSk
      simp only [ptr] at *
      gi_wp2
      refine ⟨trivial, (fun h => by cases h), CallsIn.mono (callsIn_wide.2 HP.out) ?_⟩
      rintro x w1 ⟨rfl, hb1⟩
      have HS1 := hid (HSk.out w1 hb1)
      clear hb1 HP HSk e1 e2 e3 e4
      obtain ⟨fn, tmps, assign, body, hy, hR⟩ := HS1.out
      have HR := hid hR
      clear hR
      gi_wp2
      refine ⟨(fun h => by cases h), RoundIn.mono HR.out ?_⟩
      rintro x w2 ⟨rfl, hJ2⟩
      have HJ2 := hid hJ2
      clear hJ2 HR hy
      gi_wp2
      go_roundw
      case rel => exact ⟨k + 1, by omega, by simp, HJ2⟩
      case measure => simp [intOf] <;> omega
    · have hkw : k = words := by omega
      subst hkw
      gi_wp2
      go_end0
      exact ⟨⟨_, rfl⟩, HQ.out⟩
end Go.Proofs.Ytgbpbfnpeeciaaa
