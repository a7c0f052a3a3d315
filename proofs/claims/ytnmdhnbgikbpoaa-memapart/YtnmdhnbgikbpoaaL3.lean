/- The law's source 37, word 23. -/
import Derived.Test.YtnmdhnbgikbpoaaL2
namespace Go.Proofs.Ytnmdhnbgikbpoaa
open Go.RowKit
def AtA (W : World) (ao : Option Addr) (ac : List Ac) : Prop := ac = [] ∨ ∃ b off, ao = some ⟨b, off, none⟩ ∧ b < W.heap.size ∧ ∀ k (h : k < ac.length), W.rangeAt b (off + k * 5) ac[k].cs
theorem AtA.below {W w : World} {ao : Option Addr} {ac : List Ac} (h : AtA W ao ac) (hb : Below W.heap.size W w) : AtA w ao ac := by
  rcases h with h | ⟨b, off, h1, h2, h3⟩
  · exact .inl h
  · refine .inr ⟨b, off, h1, by have := hb.size; omega, fun k hk j v hv => ?_⟩
    rw [hb.cell (p := ⟨b, off + k * 5 + j, none⟩) h2]
    exact h3 k hk j v hv
theorem size50 : (Try.prog.info? 50).map (·.size) = some 5 := by kernel_rfl
theorem under50' : Try.prog.underlying 50 = some (.struct (Try.prog.fieldsOf 50)) := by kernel_rfl
theorem wpList_store_st {ops : Array Oper} {rest : List Oper} {o : Oper} {a : Act} {w : World} {Q : Exit → Act → World → Prop} (hgd : o.guard = none) (ty : TypeId) (x y : Operand) (ho : o.op = .store ty x y)
    (g : Nat) (vs : List Value) (hx : a.eval x = .pointer (some ⟨g, 0, none⟩)) (hy : a.eval y = .agg vs.toArray) {e : TypeId} {cs : List Value} (hg : Cel w g e cs) (hi : (Try.prog.info? ty).map (·.size) = some vs.length) (hl : cs.length = vs.length) (h1 : vs.all (·.oneCell') = true)
    (h : ∀ w', Cel w' g e vs → ButL [g] w w' → w'.heap.size = w.heap.size → wpList Try.prog ops Q rest (a.put o.dst undef) w') : wpList Try.prog ops Q (o :: rest) a w :=
  wpList_store_row hgd ty x y ho g _ hx hy e _ hg (by rw [hi]; simp) (by simp [hl]) (by simpa using h1) (h _ (hg.set _) (.setRow _ _ _ (by simp)) (by simp))
theorem wordN_succ (ac : List Ac) (j : Nat) (hj : j < ac.length) (f o : Int) : wordN ac (j + 1) f o = if ac[j].f % 4 ≠ f then wordN ac j f o
      else if ac[j].k = 1 then (if ac[j].o % 1024 = o then ac[j].v else wordN ac j f o)
      else if ac[j].k = 2 then 0
      else if ac[j].k = 4 then (ac[j].v + o) % 4294967296
      else if ac[j].k = 3 then wordN ac j (ac[j].g % 4) o
      else wordN ac j f o := by
  rw [wordN, List.getElem?_eq_getElem hj]
theorem below_st {W : World} {w w2 : World} {o : Obj} (hb : ButL [w.heap.size] (w.alloc o) w2) (hs : W.heap.size ≤ w.heap.size) : Below W.heap.size w w2 :=
  ((below_one w o).mono hs).trans (hb.below (fun k hk => by rw [List.mem_singleton] at hk; omega) (by simp; omega))
def SrcIs (ac : List Ac) (q : Nat) (f o i k : Int) : Prop := (i = -1 ∧ wordN ac q f o = 0) ∨
  ∃ (j : Nat) (hj : j < ac.length), i = (j : Int) ∧ k = o ∧ ((ac[j].k = 1 ∧ wordN ac q f o = ac[j].v) ∨ (ac[j].k = 2 ∧ wordN ac q f o = 0) ∨ (ac[j].k = 4 ∧ wordN ac q f o = (ac[j].v + o) % 4294967296))
set_option maxRecDepth 40000 in
set_option maxHeartbeats 4000000 in
theorem source_any (W : World) (ao : Option Addr) (c : Nat) (ac : List Ac) (ha : AtA W ao ac) (hn : ac.length ≤ 140737488351232) (q0 : Nat) (hq : q0 ≤ ac.length) (f o : Int) :
    Calls Try.prog 37 #[.slice ao ac.length c, .int .i64 (q0 : Int), .int .i64 f, .int .i64 o] W fun x W' => ∃ i k, x = .returned (.tuple #[.int .i64 i, .int .i64 k]) ∧ SrcIs ac q0 f o i k ∧ Below W.heap.size W W' := by
  have n1 : (ac.length : Int) ≤ 140737488351232 := by omega
  have q1 : (q0 : Int) ≤ (ac.length : Int) := by omega
  have HA := hid ha
  clear ha hn
  go_enter Try.func37, Try.ntmps37
  go_wp2_with fail
  go_loopw [2, 10, 11] (fun p i _ wr => ∃ (q : Nat) (f' : Int), q ≤ q0 ∧ p = .int .i64 f' ∧ i = .int .i64 ((q : Int) - 1) ∧ Hid (wordN ac q0 f o = wordN ac q f' o) ∧ Hid (Below W.heap.size W wr)) (fun _ i _ _ => (intOf i + 1).toNat)
  case atStart => exact ⟨q0, f, Nat.le_refl _, rfl, rfl, hid rfl, hid (Below.refl _ _)⟩
  case round =>
    obtain ⟨q, f', hqq, rfl, rfl, HW, HB⟩ := hrel
    by_cases h0 : q = 0
    · subst h0
      go_wp2_with fail
      go_ret2
      exact ⟨_, _, rfl, .inl ⟨rfl, HW.out⟩, HB.out⟩
    · obtain ⟨j, rfl⟩ : ∃ j, q = j + 1 := ⟨q - 1, by omega⟩
      have hj : j < ac.length := by omega
      rcases HA.out.below HB.out with h | ⟨b, off, rfl, hb, hr⟩
      · rw [h] at hj; simp at hj
      have HR := hid (hr j hj)
      have HS := hid (wordN_succ ac j hj f' o)
      have e1 : ((j + 1 : Nat) : Int) - 1 = (j : Int) := by omega
      have HJ : Hid (∀ i k w', i = (j : Int) → k = o → ((ac[j].k = 1 ∧ wordN ac q0 f o = ac[j].v) ∨ (ac[j].k = 2 ∧ wordN ac q0 f o = 0) ∨ (ac[j].k = 4 ∧ wordN ac q0 f o = (ac[j].v + o) % 4294967296)) → Below W.heap.size W w' → SrcIs ac q0 f o i k ∧ Below W.heap.size W w') := hid (fun i k w' hi hk hh hb => ⟨.inr ⟨j, hj, hi, hk, hh⟩, hb⟩)
      have j1 : (j : Int) < (ac.length : Int) := by omega
      rw [e1]
      clear hr e1
      generalize ac[j] = a at *
      obtain ⟨ak, af, ag, ao, av⟩ := a
      simp only [Ac.cs] at *
      go_wp2_with (first | (refine wpList_load_mid rfl 50 _ rfl b (off + j * 5) rfl [.int .i64 ak, .int .i64 af, .int .i64 ag, .int .i64 ao, .int .u32 av] _ HR.out under50' rfl size50 ?_) | (refine wpList_store_st rfl 50 _ _ rfl wr.heap.size [.int .i64 ak, .int .i64 af, .int .i64 ag, .int .i64 ao, .int .u32 av] rfl rfl (Cel.new _ 50 [.int .i64 0, .int .i64 0, .int .i64 0, .int .i64 0, .int .u32 0]) size50 rfl rfl ?_; intro w2 hc2 hb2 hs2; have z0 : w2.cell? ⟨wr.heap.size, 0, none⟩ = some (.int .i64 ak) := hc2.cell 0; have z1 : w2.cell? ⟨wr.heap.size, 1, none⟩ = some (.int .i64 af) := hc2.cell 1; have z2 : w2.cell? ⟨wr.heap.size, 2, none⟩ = some (.int .i64 ag) := hc2.cell 2; have z3 : w2.cell? ⟨wr.heap.size, 3, none⟩ = some (.int .i64 ao) := hc2.cell 3; have HB2 := hid (HB.out.trans (below_st hb2 HB.out.size)); clear hc2 hb2 hs2))
      refine (page4_any _ _).mono ?_
      rintro x w3 ⟨rfl, rfl⟩
      by_cases hf : af % 4 = f'
      · rw [if_neg (by simpa using hf)] at HS
        by_cases h1 : ak = 1
        · subst h1
          rw [if_pos rfl] at HS
          go_wp2_with fail
          refine (off_any _ _).mono ?_
          rintro x w3 ⟨rfl, rfl⟩
          by_cases ho : ao % 1024 = o
          · rw [if_pos ho] at HS
            go_wp2_with fail
            go_ret2
            exact ⟨_, _, rfl, HJ.out _ _ _ rfl rfl (.inl ⟨trivial, HW.out.trans HS.out⟩) HB2.out⟩
          · rw [if_neg ho] at HS
            go_wp2_with fail
            go_roundw
            case measure => simp [intOf] <;> omega
            case rel => exact ⟨j, f', by omega, rfl, rfl, hid (HW.out.trans HS.out), HB2⟩
        rw [if_neg h1] at HS
        by_cases h2 : ak = 2
        · subst h2
          rw [if_pos rfl] at HS
          go_wp2_with fail
          go_ret2
          exact ⟨_, _, rfl, HJ.out _ _ _ rfl rfl (.inr (.inl ⟨trivial, HW.out.trans HS.out⟩)) HB2.out⟩
        rw [if_neg h2] at HS
        by_cases h4 : ak = 4
        · subst h4
          rw [if_pos rfl] at HS
          go_wp2_with fail
          go_ret2
          exact ⟨_, _, rfl, HJ.out _ _ _ rfl rfl (.inr (.inr ⟨trivial, HW.out.trans HS.out⟩)) HB2.out⟩
        rw [if_neg h4] at HS
        by_cases h3 : ak = 3
        · subst h3
          rw [if_pos rfl] at HS
          go_wp2_with fail
          refine (page4_any _ _).mono ?_
          rintro x w3 ⟨rfl, rfl⟩
          go_wp2_with fail
          go_roundw
          case measure => simp [intOf] <;> omega
          case rel => exact ⟨j, ag % 4, by omega, rfl, rfl, hid (HW.out.trans HS.out), HB2⟩
        rw [if_neg h3] at HS
        go_wp2_with fail
        go_roundw
        case measure => simp [intOf] <;> omega
        case rel => exact ⟨j, f', by omega, rfl, rfl, hid (HW.out.trans HS.out), HB2⟩
      · rw [if_pos hf] at HS
        go_wp2_with fail
        go_roundw
        case measure => simp [intOf] <;> omega
        case rel => exact ⟨j, f', by omega, rfl, rfl, hid (HW.out.trans HS.out), HB2⟩
set_option maxRecDepth 40000 in
set_option maxHeartbeats 4000000 in
theorem word_any (W : World) (ao : Option Addr) (c : Nat) (ac : List Ac) (ha : AtA W ao ac) (hn : ac.length ≤ 140737488351232) (q0 : Nat) (hq : q0 ≤ ac.length) (f o : Int) (o0 : 0 ≤ o) (o1 : o < 1024) :
    Calls Try.prog 23 #[.slice ao ac.length c, .int .i64 (q0 : Int), .int .i64 f, .int .i64 o] W fun x W' => x = .returned (.int .u32 (wordN ac q0 f o)) ∧ Below W.heap.size W W' := by
  have HS := hid (source_any W ao c ac ha hn q0 hq f o)
  have n1 : (ac.length : Int) ≤ 140737488351232 := by omega
  have HA := hid ha
  clear ha hn
  go_enter Try.func23, Try.ntmps23
  go_wp2_with fail
  refine HS.out.mono ?_
  rintro x w1 ⟨i, k, rfl, hs, hb⟩
  have HB := hid hb
  clear HS
  rcases hs with ⟨rfl, hw⟩ | ⟨j, hj, rfl, rfl, hh⟩
  · have HW := hid hw
    clear hw hb
    go_wp2_with fail
    go_ret
    exact ⟨ret_int HW.out.symm, HB.out⟩
  · rcases HA.out.below hb with h | ⟨b, off, rfl, hbb, hr⟩
    · rw [h] at hj; simp at hj
    have HR := hid (hr j hj)
    have j1 : (j : Int) < (ac.length : Int) := by omega
    generalize ac[j] = a at *
    obtain ⟨ak, af, ag, ao, av⟩ := a
    simp only [Ac.cs] at *
    have z0 : w1.cell? ⟨b, off + j * 5, none⟩ = some (.int .i64 ak) := by have := HR.out 0 _ rfl; simpa using this
    have z4 : w1.cell? ⟨b, off + j * 5 + 4, none⟩ = some (.int .u32 av) := HR.out 4 _ rfl
    clear hr hb HR
    have e1 : k % 4294967296 = k := by omega
    rcases hh with ⟨rfl, hw⟩ | ⟨rfl, hw⟩ | ⟨rfl, hw⟩
    all_goals have HW := hid hw
    all_goals clear hw
    all_goals go_wp2_with fail
    all_goals go_ret
    all_goals exact ⟨ret_int HW.out.symm, HB.out⟩
end Go.Proofs.Ytnmdhnbgikbpoaa
