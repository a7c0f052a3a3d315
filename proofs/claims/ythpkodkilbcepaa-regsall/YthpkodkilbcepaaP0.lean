/- The law's numbers (19) and head (7). -/
import Derived.Test.YthpkodkilbcepaaLh
import Derived.Test.YthpkodkilbcepaaLd
namespace Go.Proofs.Ythpkodkilbcepaa
open Go.RowKit
set_option maxHeartbeats 1000000
attribute [-simp] Try.isAgg27 Try.sizeOf27 Try.isAgg25 Try.sizeOf25 Try.isAgg23 Try.isAgg46 Try.sizeOf46
theorem wpList_load_fg {ops : Array Oper} {rest : List Oper} {o : Oper} {a : Act} {w : World} {Q : Exit → Act → World → Prop} (hw : Region.wanted o (yielded ops a.tmps) = true) (x : Operand) (ho : o.op = .load 27 x)
    (g : Nat) {t : TypeId} (f : F) (hx : a.eval x = .pointer (some ⟨g, 0, none⟩)) (hg : Cel w g t f.cs)
    (h : wpList Try.prog ops Q rest (a.put o.dst f.v) w) : wpList Try.prog ops Q (o :: rest) a w := by
  rw [wpList, if_pos hw]
  exact .inl (wp_load_mid 27 x ho g 0 hx _ _ hg.range under27 rfl (by rw [size27, F.len]) h)
theorem numbers_any (W : World) : Calls Try.prog 19 #[] W fun e W' => e = .returned (.bool true) ∧ W = W' := by
  go_enter Try.func19, Try.ntmps19
  go_wp2
  go_ret
  exact ⟨rfl, rfl⟩
def hf : F := F.cmp ⟨st3 1 2 3, 8, false, false, false⟩ 1 2
theorem cel_new27 (w : World) : Cel (w.alloc (.cells #[.int .u32 0, .int .u32 0, .int .u32 0, .int .u32 0, .int .u32 0, .int .u32 0, .int .u32 0, .int .u32 0, .int .u32 0, .int .u32 0, .int .u32 0, .int .u32 0, .int .u32 0, .int .u32 0, .int .u32 0, .int .u32 0, .bool false, .bool false, .bool false] 27)) w.heap.size 27 F.zero.cs := by rw [zc]; exact Cel.new w 27 F.zero.cs
theorem head_any (W : World) : Calls Try.prog 7 #[] W fun e W' => e = .returned (.bool true) ∧ Below W.heap.size W W' := by
  go_enter Try.func7, Try.ntmps7
  go_wp2_with fail
  refine (start_any _ _ _ _ _).mono ?_
  rintro e w1 ⟨rfl, hb1⟩
  have HB1 := hid hb1
  clear hb1
  go_wp2_with fail
  refine (compare_any _ _ _ _).mono ?_
  rintro e w2 ⟨rfl, hb2⟩
  have HB2 := hid (below_on HB1.out hb2)
  have HC := hid (cel_new27 w2)
  have HB3 := hid (below_on HB2.out (below_one w2 (.cells #[.int .u32 0, .int .u32 0, .int .u32 0, .int .u32 0, .int .u32 0, .int .u32 0, .int .u32 0, .int .u32 0, .int .u32 0, .int .u32 0, .int .u32 0, .int .u32 0, .int .u32 0, .int .u32 0, .int .u32 0, .int .u32 0, .bool false, .bool false, .bool false] 27)))
  clear hb2
  rw [show F.cmp ⟨st3 1 2 3, 8, false, false, false⟩ 1 2 = hf from rfl]
  go_wp2_with (refine wpList_store_f rfl _ _ rfl w2.heap.size F.zero hf rfl rfl HC.out ?_; intro w3 hc3 hb3 hs3; have HC3 := hid hc3; have HB4 := hid (HB3.out.trans (hb3.below (B := W.heap.size) (by simp; exact HB2.out.size) HB3.out.size)); clear hc3 hb3 hs3)
  have y16 : w3.cell? ⟨w2.heap.size, 16, none⟩ = some (.bool false) := (HC3.out.cell 16).trans hf.at16
  have y17 : w3.cell? ⟨w2.heap.size, 17, none⟩ = some (.bool true) := ((HC3.out.cell 17).trans hf.at17).trans (by rw [show hf.n = true by decide +kernel])
  have y18 : w3.cell? ⟨w2.heap.size, 18, none⟩ = some (.bool true) := (HC3.out.cell 18).trans hf.at18
  have y15 : w3.cell? ⟨w2.heap.size, 15, none⟩ = some (.int .u32 8) := (HC3.out.cell 15).trans hf.at15
  have y1 : w3.cell? ⟨w2.heap.size, 1, none⟩ = some (.int .u32 2) := (HC3.out.cell 1).trans (hf.at 1 (by decide))
  have HH : Hid (∀ w, Calls Try.prog 10 #[hf.v, .int .i64 2] w fun e W' => e = .returned (.bool true) ∧ Below w.heap.size w W') := hid fun w => holds_any w hf 2
  go_wp2_with (first | (go_at_call 19; refine (numbers_any _).mono ?_; rintro e w4 ⟨rfl, rfl⟩) | (refine wpList_load_fg (by rfl) _ rfl w2.heap.size hf rfl HC3.out ?_) | (go_at_call 10; refine (HH.out _).mono ?_; rintro e w5 ⟨rfl, hb5⟩; have HB5 := hid (below_on HB4.out hb5); clear hb5))
  go_ret
  exact ⟨rfl, HB5.out⟩
end Go.Proofs.Ythpkodkilbcepaa
