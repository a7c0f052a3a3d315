/- The law's num 8, in 10, off 22, page 24, cost 21. -/
import Derived.Test.YtnmdhnbgikbpoaaM6
namespace Go.Proofs.Ytnmdhnbgikbpoaa
open Go.RowKit
theorem num_any (w : World) (e : Int) : Calls Try.prog 8 #[.int .i64 e] w fun x w' => x = .returned (.int .i64 e) ∧ w' = w := by
  go_enter Try.func8, Try.ntmps8
  go_wp2_with fail
  go_ret
  exact ⟨rfl, rfl⟩
theorem tmod_form (n k : Int) : (0 ≤ n ∧ n.tmod k = n % k) ∨ (n ≤ 0 ∧ n.tmod k = -((-n) % k)) := by
  rcases Int.le_total 0 n with h | h
  · exact .inl ⟨h, Int.tmod_eq_emod_of_nonneg h⟩
  · refine .inr ⟨h, ?_⟩
    have e : n.tmod k = -((-n).tmod k) := by rw [Int.neg_tmod]; simp
    rw [e, Int.tmod_eq_emod_of_nonneg (by omega)]
theorem wrap_in (n : Int) (h : -9223372036854775808 ≤ n ∧ n ≤ 9223372036854775807) : wrap64 n = n := by unfold wrap64; omega
theorem mod4 (n : Int) : (wrap64 (n.tmod 4 + 4)).tmod 4 = n % 4 := by
  have h := tmod_form n 4
  rw [wrap_in _ (by omega), Int.tmod_eq_emod_of_nonneg (by omega)]
  omega
theorem mod42 (n : Int) : (wrap64 (n.tmod 4 + 4)).tmod 2 = n % 4 % 2 := by
  have h := tmod_form n 4
  rw [wrap_in _ (by omega), Int.tmod_eq_emod_of_nonneg (by omega)]
  omega
theorem mod1024 (n : Int) : (wrap64 (n.tmod 1024 + 1024)).tmod 1024 = n % 1024 := by
  have h := tmod_form n 1024
  rw [wrap_in _ (by omega), Int.tmod_eq_emod_of_nonneg (by omega)]
  omega
theorem off_any (w : World) (n : Int) : Calls Try.prog 22 #[.int .i64 n] w fun x w' => x = .returned (.int .i64 (n % 1024)) ∧ w' = w := by
  go_enter Try.func22, Try.ntmps22
  go_wp2_with fail
  go_ret
  exact ⟨ret_int (mod1024 n), rfl⟩
theorem page4_any (w : World) (n : Int) : Calls Try.prog 24 #[.int .i64 n] w fun x w' => x = .returned (.int .i64 (n % 4)) ∧ w' = w := by
  go_enter Try.func24, Try.ntmps24
  go_wp2_with fail
  go_ret
  exact ⟨ret_int (mod4 n), rfl⟩
theorem under23 : Try.prog.underlying 23 = some (.struct (Try.prog.fieldsOf 23)) := by kernel_rfl
theorem size23 : (Try.prog.info? 23).map (·.size) = some 2 := by kernel_rfl
theorem ret_st {P : Program} {fn : Func} {p : Tmp} {ty e : TypeId} {fr : Nat × Nat} {d : TypeDesc} {a : Act} {w : World} {post : Ending → World → Prop} (hr : fn.results = #[.cell p ty]) (hd : a.defers = []) (g : Nat) (cs : Array Value)
    (hp : a.tmps.getD p undef = .pointer (some ⟨g, 0, none⟩)) (hg : w.heap[g]? = some (.cells cs e fr)) (hu : P.underlying ty = some d) (hdd : (match d with | .struct _ | .array _ _ => true | _ => false) = true) (hi : (P.info? ty).map (·.size) = some cs.size) (h : post (.returned (.agg cs)) w) :
    bodyPost P fn post .ret a w := bodyPost_ret (results_cell_row hr _ _ g e _ fr _ hp hg hu hdd hi) hd h
theorem in_any (w : World) (n : Int) : Calls Try.prog 10 #[.int .i64 n] w fun x w' => x = .returned (fr (decide (n % 4 < 2)) (n % 4 % 2)) ∧ Below w.heap.size w w' := by
  go_enter Try.func10, Try.ntmps10
  go_wp2_with fail
  rw [mod4, mod42]
  exact ret_st rfl rfl w.heap.size _ rfl (heap_alloc_new _ _) under23 rfl size23 ⟨rfl, below_one _ _⟩
def costN (k : Int) : Int := if k = 1 then 1 else if k = 2 ∨ k = 4 then 1024 else if k = 3 then 2048 else 0
theorem cost_any (w : World) (k : Int) : Calls Try.prog 21 #[.int .i64 k] w fun x w' => x = .returned (.int .i64 (costN k)) ∧ w' = w := by
  unfold costN
  go_enter Try.func21, Try.ntmps21
  by_cases h1 : k = 1
  · subst h1
    go_wp2_with fail
    go_ret
    exact ⟨rfl, rfl⟩
  by_cases h2 : k = 2
  · subst h2
    go_wp2_with fail
    go_ret
    exact ⟨rfl, rfl⟩
  by_cases h4 : k = 4
  · subst h4
    go_wp2_with fail
    go_ret
    exact ⟨rfl, rfl⟩
  by_cases h3 : k = 3
  · subst h3
    go_wp2_with fail
    go_ret
    exact ⟨rfl, rfl⟩
  simp only [h1, h2, h3, h4, if_false, false_or]
  go_wp2_with fail
  go_ret
  exact ⟨rfl, rfl⟩
/-- The place of a frame by number. -/
theorem at_in (m : MS) (n : Int) (h2 : m.ns = 2) (h4 : m.P.length = 4) : m.at (decide (n % 4 < 2)) (n % 4 % 2) = some (n % 4).toNat := by
  unfold MS.at
  rw [if_pos (by omega)]
  by_cases h : n % 4 < 2
  · rw [if_pos (by simpa using h), if_pos (by omega)]; congr 1; omega
  · rw [if_neg (by simpa using h), if_pos (by omega)]; congr 1; omega
end Go.Proofs.Ytnmdhnbgikbpoaa
