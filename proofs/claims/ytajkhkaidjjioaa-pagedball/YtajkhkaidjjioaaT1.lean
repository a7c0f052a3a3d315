/- The law's numbers 32, same 77. -/
import Derived.Test.YtajkhkaidjjioaaS1
namespace Go.Proofs.Ytajkhkaidjjioaa
open Go.RowKit
set_option maxHeartbeats 4000000
set_option maxRecDepth 100000
theorem numbers_any (W : World) : Calls Try.prog 32 #[] W fun e W' => e = .returned (.bool true) ∧ W = W' := by
  go_enter Try.func32, Try.ntmps32
  go_wp2_with fail
  go_ret
  exact ⟨rfl, rfl⟩
theorem sameE_any (W : World) (x : En) : Calls Try.prog 77 #[x.v, x.v] W fun e W' => e = .returned (.bool true) ∧ Below W.heap.size W W' := by
  have HX := hid (Bx.new W 62 124 x.cs x.cs)
  obtain ⟨t, o, r, s, e⟩ := x
  simp only [En.v, En.cs] at *
  go_enter Try.func77, Try.ntmps77
  go_upto_region 1 with fail
  generalize hX : (W.alloc _).alloc _ = X at *
  clear hX
  generalize W.heap.size + 1 = g2 at *
  generalize W.heap.size = g1 at *
  have a0 := HX.out.a.cell 0
  have a1 := HX.out.a.cell 1
  have a2 := HX.out.a.cell 2
  have a3 := HX.out.a.cell 3
  have a4 := HX.out.a.cell 4
  have b0 := HX.out.b.cell 0
  have b1 := HX.out.b.cell 1
  have b2 := HX.out.b.cell 2
  have b3 := HX.out.b.cell 3
  have b4 := HX.out.b.cell 4
  simp only [List.getElem?_cons_zero, List.getElem?_cons_succ] at a0 a1 a2 a3 a4 b0 b1 b2 b3 b4
  have HB := hid HX.out.below
  clear HX
  go_wp2_with fail
  go_ret
  exact ⟨rfl, HB.out⟩
end Go.Proofs.Ytajkhkaidjjioaa
