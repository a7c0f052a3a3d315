/- isFree 51, isOf 60, its closure 94, pages 50; counts. -/
import Derived.Test.YtajkhkaidjjioaaIa
namespace Go.Proofs.Ytajkhkaidjjioaa
open Go.RowKit
set_option maxHeartbeats 2000000
set_option maxRecDepth 100000
def cntN (f : Nat → Bool) : Nat → Nat
  | 0 => 0
  | k + 1 => cntN f k + (if f k = true then 1 else 0)
def lstN (f : Nat → Bool) : Nat → List Nat
  | 0 => []
  | k + 1 => lstN f k ++ (if f k = true then [k] else [])
def isF (x : En) : Bool := x.t == 0
def isO (s : Int) (k : Int) (x : En) : Bool := k != s && (x.o == s && x.t != 0)
def DS.free (d : DS) : Nat := cntN (fun k => isF (d.at k)) d.m.ns
def DS.owned (d : DS) (s : Int) : List Nat := if (d.ent s).t = 1 then lstN (fun k => isO s (k : Int) (d.at k)) d.m.ns else []
theorem isFree_any (W : World) (k : Int) (x : En) : Calls Try.prog 51 #[.int .i64 k, x.v] W fun e W' => e = .returned (.bool (isF x)) ∧ Below W.heap.size W W' := by
  have HC := hid (Cel.new W 62 x.cs)
  have HB := hid (below_one W (.cells x.cs.toArray 62))
  obtain ⟨t, o, r, s, e⟩ := x
  simp only [En.v, En.cs, isF] at *
  go_enter Try.func51, Try.ntmps51
  go_upto_region 1 with fail
  generalize W.alloc _ = X at *
  have c0 := HC.out.cell 0
  simp only [List.getElem?_cons_zero] at c0
  go_wp2_with fail
  go_ret
  exact ⟨rfl, HB.out⟩
theorem isOf_any (W : World) (s : Int) : Calls Try.prog 60 #[.int .i64 s] W fun e W' => ∃ bs, e = .returned (.func (.func 94) #[] #[.pointer (some ⟨bs, 0, none⟩)]) ∧ Ob W' bs (box (.int .i64 s) 3) ∧ W.heap.size ≤ bs ∧ Below W.heap.size W W' := by
  have H : Hid (Ob (W.alloc (.cells #[.int .i64 s] 3)) W.heap.size (box (.int .i64 s) 3)) := hid (heap_alloc_new _ _)
  go_enter Try.func60, Try.ntmps60
  go_wp2_with fail
  go_ret
  exact ⟨_, rfl, H.out, Nat.le_refl _, below_one _ _⟩
theorem isOf1_any (W : World) (k : Int) (x : En) (bs : Nat) (s : Int) (hs : Ob W bs (box (.int .i64 s) 3)) : Calls Try.prog 94 #[.int .i64 k, x.v, .pointer (some ⟨bs, 0, none⟩)] W fun e W' => e = .returned (.bool (isO s k x)) ∧ Below W.heap.size W W' := by
  have HC := hid (Cel.new W 62 x.cs)
  have HB := hid (below_one W (.cells x.cs.toArray 62))
  have cs := (hs.on HB.out).cell
  clear hs
  obtain ⟨t, o, r, st, e⟩ := x
  simp only [En.v, En.cs, isO] at *
  generalize hR : (k != s && (o == s && t != 0)) = R
  have HR := hid hR
  clear hR
  by_cases h1 : k = s
  · subst h1
    have e1 : R = false := by rw [← HR.out]; simp
    subst e1
    clear HR
    go_enter Try.func94, Try.ntmps94
    go_upto_region 1 with fail
    generalize W.alloc _ = X at *
    go_wp2_with fail
    go_ret
    exact ⟨rfl, HB.out⟩
  · have h1' : (k != s) = true := by simpa using h1
    by_cases h2 : o = s
    · subst h2
      by_cases h3 : t = 0
      · subst h3
        have e1 : R = false := by rw [← HR.out]; simp
        subst e1
        clear HR h1
        go_enter Try.func94, Try.ntmps94
        go_upto_region 1 with fail
        generalize W.alloc _ = X at *
        have c0 := HC.out.cell 0
        have c1 := HC.out.cell 1
        simp only [List.getElem?_cons_zero, List.getElem?_cons_succ] at c0 c1
        go_wp2_with fail
        go_ret
        exact ⟨rfl, HB.out⟩
      · have e1 : R = true := by rw [← HR.out]; simp [h1, h3]
        have h3' : (t != 0) = true := by simpa using h3
        subst e1
        clear HR h1 h3
        go_enter Try.func94, Try.ntmps94
        go_upto_region 1 with fail
        generalize W.alloc _ = X at *
        have c0 := HC.out.cell 0
        have c1 := HC.out.cell 1
        simp only [List.getElem?_cons_zero, List.getElem?_cons_succ] at c0 c1
        go_wp2_with fail
        go_ret
        exact ⟨rfl, HB.out⟩
    · have e1 : R = false := by rw [← HR.out]; simp [h2]
      have h2' : (o == s) = false := by simpa using h2
      subst e1
      clear HR h1 h2
      go_enter Try.func94, Try.ntmps94
      go_upto_region 1 with fail
      generalize W.alloc _ = X at *
      have c0 := HC.out.cell 0
      have c1 := HC.out.cell 1
      simp only [List.getElem?_cons_zero, List.getElem?_cons_succ] at c0 c1
      go_wp2_with fail
      go_ret
      exact ⟨rfl, HB.out⟩
theorem pagesf_any (W : World) (g : Nat) (fv : Nat) (cap : Array Value) : Calls Try.prog 50 #[.pointer (some ⟨g, 0, none⟩), .func (.func fv) #[] cap] W fun x W' => ∃ bd bs, x = .returned (.func (.func 92) #[] #[.pointer (some ⟨bd, 0, none⟩), .pointer (some ⟨bs, 0, none⟩)]) ∧ Ob W' bd (box (.pointer (some ⟨g, 0, none⟩)) 23) ∧ Ob W' bs (box (.func (.func fv) #[] cap) 103) ∧ W.heap.size ≤ bd ∧ W.heap.size ≤ bs ∧ Below W.heap.size W W' := by
  have h1 : Ob (W.alloc (.cells #[.pointer (some ⟨g, 0, none⟩)] 23)) W.heap.size (box (.pointer (some ⟨g, 0, none⟩)) 23) := heap_alloc_new _ _
  have h2 := heap_alloc_new (W.alloc (.cells #[.pointer (some ⟨g, 0, none⟩)] 23)) (.cells #[.func (.func fv) #[] cap] 103)
  rw [World.size_alloc] at h2
  have H := hid (And.intro (h1.on (below_one _ (.cells #[.func (.func fv) #[] cap] 103))) h2)
  clear h1 h2
  go_enter Try.func50, Try.ntmps50
  go_wp2_with fail
  go_ret
  exact ⟨_, _, rfl, H.out.1, H.out.2, Nat.le_refl _, Nat.le_succ _, below_on (below_one _ _) (below_one _ _)⟩
end Go.Proofs.Ytajkhkaidjjioaa
