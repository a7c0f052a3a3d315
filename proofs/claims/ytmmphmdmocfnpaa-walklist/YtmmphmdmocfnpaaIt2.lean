/- entries' closure 77. -/
import Derived.Test.YtmmphmdmocfnpaaIt1
namespace Go.Proofs.Ytmmphmdmocfnpaa
open Go.RowKit Go.Shelf
set_option maxHeartbeats 8000000
set_option maxRecDepth 100000
theorem ent2_in (n l bw bm bt bp bf : Nat) (f : Fp) (m : MS) (hU : m.U) (t : Int) (words : Nat) (hw : words ≤ 1024) (J : Nat → Int → World → Prop)
    (hJ : ∀ k c W, J k c W → Mem W f (m.wc c) ∧ EB W bw bm bt bp bf f.gm t words 14 59)
    (hS : ∀ (k : Nat) c W W', k < words → J k c W → Mem W' f ((m.wc c).read true t (k : Int)) → ButL f.w W W' →
      if m.f2E t (k : Int) = 0 then YieldAt .wide (n - 1) Try.prog l #[.int .i64 (k : Int), (m.f2 t (k : Int)).v] W' (fun e W'' => e = .returned (.bool true) ∧ ∃ c', J (k + 1) c' W'') else J (k + 1) ((m.wc c).read true t (k : Int)).c W')
    (W : World) (c0 : Int) (h0 : J 0 c0 W) :
    CallsIn .wide n Try.prog 77 #[.func (.yield l) #[] #[], .pointer (some ⟨bw, 0, none⟩), .pointer (some ⟨bm, 0, none⟩), .pointer (some ⟨bt, 0, none⟩), .pointer (some ⟨bp, 0, none⟩), .pointer (some ⟨bf, 0, none⟩)] W fun e W' => (∃ v, e = .returned v) ∧ ∃ c, J words c W' := by
  have wq : (words : Int) ≤ 1024 := by omega
  have w0 := (hJ 0 c0 W h0).2.w
  refine callsIn_of_wp Try.func77 rfl trivial ?_ rfl
  simp only [Try.ntmps77, List.size_toArray, List.length_cons, List.length_nil, Nat.reduceAdd, Nat.reduceSub, Array.replicate_succ, Array.replicate_zero, List.push_toArray, List.append_toArray, List.nil_append, List.cons_append]
  gi_wp2
  clear w0
  gi_loopw [11] (fun p wr => ∃ (k : Nat) (c : Int), k ≤ words ∧ p = .int .i64 (k : Int) ∧ Hid (J k c wr)) (fun p _ => words - (intOf p).toNat)
  case atStart => exact ⟨0, c0, Nat.zero_le _, rfl, hid h0⟩
  case round =>
    obtain ⟨k, c, hk, rfl, HQ⟩ := hrel
    by_cases hlt : k < words
    · have q1 : (k : Int) < (words : Int) := by omega
      have q2 : (k : Int) ≤ 1024 := by omega
      obtain ⟨hm, hb⟩ := hJ k c _ HQ.out
      obtain ⟨e1, e2, e3, e4, e5⟩ := hb
      have HF : Hid (Calls Try.prog 58 #[ptr f.gm, .int .i64 t, .int .i64 (k : Int), fnV 14, fnV 59] wr fun x w' => x = .returned (.tuple #[(m.f2 t (k : Int)).v, .int .i64 (m.f2E t (k : Int))]) ∧ Rd wr w' f ((m.wc c).read true t (k : Int))) := hid (follow2_any _ f (m.wc c) hm hU t (k : Int))
      unfold fnV ptr at HF
      have HSk := hid (fun w1 (h1 : Mem w1 f ((m.wc c).read true t (k : Int))) (h2 : ButL f.w wr w1) => hS k c wr w1 hlt HQ.out h1 h2)
      clear hm
      generalize m.f2E t (k : Int) = e at *
      generalize m.f2 t (k : Int) = p at *
      unfold Mp.v at *
      gi_wp2
      refine ⟨trivial, (fun h => by cases h), CallsIn.mono (callsIn_wide.2 HF.out) ?_⟩
      rintro x w1 ⟨rfl, hr1⟩
      have HS1 := hid (HSk.out _ (hr1.mem.on (below_one w1 (.cells #[.bool p.s, .int .i64 p.p, .bool p.wr, .bool p.ex] 35))) (hr1.but.on (below_one w1 (.cells #[.bool p.s, .int .i64 p.p, .bool p.wr, .bool p.ex] 35))))
      clear hr1 HF HSk e1 e2 e3 e4 e5
      by_cases he : e = 0
      · subst he
        rw [if_pos rfl] at HS1
        obtain ⟨fn, tmps, assign, body, hy, hR⟩ := HS1.out
        have HR := hid hR
        clear hR
        gi_wp2
        refine ⟨(fun h => by cases h), RoundIn.mono HR.out ?_⟩
        rintro x w2 ⟨rfl, c', hJ2⟩
        have HJ2 := hid hJ2
        clear hJ2 HR hy
        gi_wp2
        go_roundw
        case rel => exact ⟨k + 1, c', by omega, by simp, HJ2⟩
        case measure => simp [intOf] <;> omega
      · rw [if_neg he] at HS1
        have heb : (e == 0) = false := by simp [he]
        gi_wp2
        refine ⟨(fun _ h => by cases h), ?_⟩
        gi_wp2
        go_roundw
        case rel => exact ⟨k + 1, _, by omega, by simp, HS1⟩
        case measure => simp [intOf] <;> omega
    · have hkw : k = words := by omega
      subst hkw
      gi_wp2
      go_end0
      exact ⟨⟨_, rfl⟩, c, HQ.out⟩
end Go.Proofs.Ytmmphmdmocfnpaa
