import Derived.LaidEql
import Derived.Stop.Asserts
import Derived.RowKitTokens
import Derived.Handy
import Derived.Test.YtbpdmkohihgnjaaDoorP21
namespace Go.Proofs.YtbpdmkohihgnjaaDoor
open Go.RowKit Go.Extern.Stop Go.Stop Go.Extern
set_option maxRecDepth 100000
set_option maxHeartbeats 4000000
theorem Tryd.isTypeOf (v : Value) (w : World) : (Extern.ReflectliteType.typeOf #[.iface 235 v]).run Tryd.prog w = .ok (.iface 184 (.agg #[.pointer (some ⟨13, 235, none⟩)])) w := by kernel_rfl
def cmpX (t : TypeId) : Sem Value := do
  Go.Extern.Rtype.noPackHeld "Comparable" t
  pure (.bool (← typeInfo t).comparable)
theorem Tryd.isComparable (w : World) : ((Extern.ReflectliteType.method cmpX) #[.agg #[.pointer (some ⟨13, 235, none⟩)]]).run Tryd.prog w = .ok (.bool true) w := by kernel_rfl
theorem Tryd.isMethodComparable (v : Value) (w : World) : (Go.method 366 184 v "Comparable").run Tryd.prog w = .ok (175, v) w := by kernel_rfl
theorem Tryd.isComp : (Tryd.prog.info? 235).map (·.comparable) = some true := by kernel_rfl
theorem Tryd.isSize : (Tryd.prog.info? 255).map (·.size) = some 1 := by kernel_rfl
theorem Tryd.noIsE (v : Value) (xT : TypeId) (w : World) : (Instr.typeAssert (.iface 235 v) xT 186 true).run Tryd.prog w = .ok (.tuple #[.nilIface, .bool false]) w := run_typeAssert_lacksB Tryd.underlying186 (by kernel_rfl) (by kernel_rfl) v xT w
theorem Tryd.noUnwrapE (v : Value) (xT : TypeId) (w : World) : (Instr.typeAssert (.iface 235 v) xT 189 true).run Tryd.prog w = .ok (.tuple #[.nilIface, .bool false]) w := run_typeAssert_lacksB Tryd.underlying189 (by kernel_rfl) (by kernel_rfl) v xT w
theorem Tryd.noUnwrapsE (v : Value) (xT : TypeId) (w : World) : (Instr.typeAssert (.iface 235 v) xT 191 true).run Tryd.prog w = .ok (.tuple #[.nilIface, .bool false]) w := run_typeAssert_lacksB Tryd.underlying191 (by kernel_rfl) (by kernel_rfl) v xT w
theorem is_same (a : Addr) (w : World) :
    Calls Tryd.prog 71 #[.iface 235 (.pointer (some a)), .iface 235 (.pointer (some a))] w fun e w' => e = .returned (.bool true) ∧ w' = w := by
  obtain ⟨i, hi, hcmp⟩ := Option.map_eq_some_iff.1 Tryd.isComp
  obtain ⟨j, hj, hjs⟩ := Option.map_eq_some_iff.1 Tryd.isSize
  have h8 := @run_callFunc_extern Tryd.prog 88 _ Extern.ReflectliteType.typeOf Tryd.func88 (by kernel_rfl) (by kernel_rfl) (by kernel_rfl) (by kernel_rfl)
  have h32 := @run_callFunc_extern Tryd.prog 175 _ (Extern.ReflectliteType.method cmpX) Tryd.func175 (by kernel_rfl) (by kernel_rfl) (by kernel_rfl) (by kernel_rfl)
  have tT := Tryd.isTypeOf
  have cT := Tryd.isComparable
  have mR := Tryd.isMethodComparable
  have heq := run_eql_iface_ptr_same (P := Tryd.prog) w a Tryd.underlying87 Tryd.underlying235 hi hcmp hj
  go_enter Tryd.func71, Tryd.ntmps71
  go_wp2
  refine wp_loop_rounds 1 ?_
  rw [rounds_succ]
  go_wp2
  go_ret
  exact ⟨rfl, rfl⟩
theorem is_nil (b : Addr) (w : World) :
    Calls Tryd.prog 71 #[.nilIface, .iface 235 (.pointer (some b))] w fun e w' => e = .returned (.bool false) ∧ w' = w := by
  have hn := run_eql_iface_nil_left (P := Tryd.prog) w 235 (.pointer (some b)) Tryd.underlying87
  go_enter Tryd.func71, Tryd.ntmps71
  go_wp2
  go_ret
  exact ⟨rfl, rfl⟩
theorem is_other (a b : Addr) (ca cb : Array Value) (ta tb : TypeId) (w : World) (hne : a ≠ b) (ha : w.heap[a.block]? = some (.cells ca ta (0, 0))) (hb : w.heap[b.block]? = some (.cells cb tb (0, 0))) :
    Calls Tryd.prog 71 #[.iface 235 (.pointer (some a)), .iface 235 (.pointer (some b))] w fun e w' => e = .returned (.bool false) ∧ w' = w := by
  obtain ⟨i, hi, hcmp⟩ := Option.map_eq_some_iff.1 Tryd.isComp
  obtain ⟨j, hj, hjs⟩ := Option.map_eq_some_iff.1 Tryd.isSize
  have h8 := @run_callFunc_extern Tryd.prog 88 _ Extern.ReflectliteType.typeOf Tryd.func88 (by kernel_rfl) (by kernel_rfl) (by kernel_rfl) (by kernel_rfl)
  have h32 := @run_callFunc_extern Tryd.prog 175 _ (Extern.ReflectliteType.method cmpX) Tryd.func175 (by kernel_rfl) (by kernel_rfl) (by kernel_rfl) (by kernel_rfl)
  have tT := Tryd.isTypeOf
  have cT := Tryd.isComparable
  have mR := Tryd.isMethodComparable
  have nE := Tryd.noIsE
  have uE := Tryd.noUnwrapE
  have vE := Tryd.noUnwrapsE
  have heq := run_eql_iface_ptr_other (P := Tryd.prog) w Tryd.underlying87 Tryd.underlying235 hi hcmp hj (by rw [hjs]; decide) hne ha hb
  go_enter Tryd.func71, Tryd.ntmps71
  go_wp2
  refine wp_loop_rounds 1 ?_
  rw [rounds_succ]
  go_wp2
  go_ret
  exact ⟨rfl, rfl⟩
structure ErrS (W : World) (E : Nat → Addr) : Prop where
  cell : ∀ i, 1 ≤ i → i ≤ 6 → W.cell? ⟨i, 0, none⟩ = some (.iface 235 (.pointer (some (E i))))
  ne : ∀ i j, 1 ≤ i → i ≤ 6 → 1 ≤ j → j ≤ 6 → i ≠ j → E i ≠ E j
  row : ∀ i, 1 ≤ i → i ≤ 6 → ∃ c t, W.heap[(E i).block]? = some (.cells c t (0, 0))
  sz : 12 < W.heap.size
theorem ErrS.on {W w : World} {E : Nat → Addr} (h : ErrS W E) (hb : Below W.heap.size W w) : ErrS w E := by
  refine ⟨fun i h1 h2 => (hb.cell (p := ⟨i, 0, none⟩) (by have := h.sz; show i < _; omega)).trans (h.cell i h1 h2), h.ne, fun i h1 h2 => ?_, by have := hb.size; have := h.sz; omega⟩
  obtain ⟨c, t, hc⟩ := h.row i h1 h2
  exact ⟨c, t, (hb.block _ (Array.getElem?_eq_some_iff.1 hc).1).trans hc⟩
theorem ErrS.is {W : World} {E : Nat → Addr} (h : ErrS W E) (i j : Nat) (h1 : 1 ≤ i) (h2 : i ≤ 6) (h3 : 1 ≤ j) (h4 : j ≤ 6) (hn : i ≠ j) :
    Calls Tryd.prog 71 #[.iface 235 (.pointer (some (E i))), .iface 235 (.pointer (some (E j)))] W fun e w' => e = .returned (.bool false) ∧ w' = W := by
  obtain ⟨ca, ta, ha⟩ := h.row i h1 h2
  obtain ⟨cb, tb, hb⟩ := h.row j h3 h4
  exact is_other _ _ ca cb ta tb W (h.ne i j h1 h2 h3 h4 hn) ha hb
theorem number_6 (W : World) (E : Nat → Addr) (h : ErrS W E) : Calls Tryd.prog 44 #[.iface 235 (.pointer (some (E 6)))] W fun e w' => e = .returned (.int .i64 161) ∧ w' = W := by
  have c4 := h.cell 4 (by decide) (by decide)
  have c5 := h.cell 5 (by decide) (by decide)
  have c6 := h.cell 6 (by decide) (by decide)
  have H4 := hid (h.is 6 4 (by decide) (by decide) (by decide) (by decide) (by decide))
  have H5 := hid (h.is 6 5 (by decide) (by decide) (by decide) (by decide) (by decide))
  have H6 := hid (is_same (E 6) W)
  clear h
  go_enter Tryd.func44, Tryd.ntmps44
  go_wp2_with fail
  refine H4.out.mono ?_
  rintro e w ⟨rfl, rfl⟩
  clear H4
  go_wp2_with fail
  refine H5.out.mono ?_
  rintro e w ⟨rfl, rfl⟩
  clear H5
  go_wp2_with fail
  refine H6.out.mono ?_
  rintro e w ⟨rfl, rfl⟩
  clear H6
  go_wp2_with fail
  go_ret
  exact ⟨rfl, rfl⟩
theorem number_0 (W : World) (E : Nat → Addr) (h : ErrS W E) : Calls Tryd.prog 44 #[.nilIface] W fun e w' => e = .returned (.int .i64 0) ∧ w' = W := by
  have c4 := h.cell 4 (by decide) (by decide)
  have c5 := h.cell 5 (by decide) (by decide)
  have c6 := h.cell 6 (by decide) (by decide)
  have c1 := h.cell 1 (by decide) (by decide)
  have c2 := h.cell 2 (by decide) (by decide)
  have c3 := h.cell 3 (by decide) (by decide)
  have H4 := hid (is_nil (E 4) W)
  have H5 := hid (is_nil (E 5) W)
  have H6 := hid (is_nil (E 6) W)
  have H1 := hid (is_nil (E 1) W)
  have H2 := hid (is_nil (E 2) W)
  have H3 := hid (is_nil (E 3) W)
  clear h
  go_enter Tryd.func44, Tryd.ntmps44
  go_wp2_with fail
  refine H4.out.mono ?_
  rintro e w ⟨rfl, rfl⟩
  clear H4
  go_wp2_with fail
  refine H5.out.mono ?_
  rintro e w ⟨rfl, rfl⟩
  clear H5
  go_wp2_with fail
  refine H6.out.mono ?_
  rintro e w ⟨rfl, rfl⟩
  clear H6
  go_wp2_with fail
  refine H1.out.mono ?_
  rintro e w ⟨rfl, rfl⟩
  clear H1
  go_wp2_with fail
  refine H2.out.mono ?_
  rintro e w ⟨rfl, rfl⟩
  clear H2
  go_wp2_with fail
  refine H3.out.mono ?_
  rintro e w ⟨rfl, rfl⟩
  clear H3
  go_wp2_with fail
  go_ret
  exact ⟨rfl, rfl⟩
end Go.Proofs.YtbpdmkohihgnjaaDoor
