import Derived.LaidEql
import Derived.Stop.Asserts
import Derived.RowKitTokens
import Derived.Handy
import Derived.Test.YtbpdmkohihgnjaaGreatDoorP14
namespace Go.Proofs.YtbpdmkohihgnjaaGreatDoor
open Go.RowKit Go.Extern.Stop Go.Stop Go.Extern
set_option maxRecDepth 100000
set_option maxHeartbeats 4000000
theorem Tryz.isTypeOf (v : Value) (w : World) : (Extern.ReflectliteType.typeOf #[.iface 245 v]).run Tryz.prog w = .ok (.iface 150 (.agg #[.pointer (some ⟨13, 245, none⟩)])) w := by kernel_rfl
def cmpX (t : TypeId) : Sem Value := do
  Go.Extern.Rtype.noPackHeld "Comparable" t
  pure (.bool (← typeInfo t).comparable)
theorem Tryz.isComparable (w : World) : ((Extern.ReflectliteType.method cmpX) #[.agg #[.pointer (some ⟨13, 245, none⟩)]]).run Tryz.prog w = .ok (.bool true) w := by kernel_rfl
theorem Tryz.isMethodComparable (v : Value) (w : World) : (Go.method 376 150 v "Comparable").run Tryz.prog w = .ok (183, v) w := by kernel_rfl
theorem Tryz.isComp : (Tryz.prog.info? 245).map (·.comparable) = some true := by kernel_rfl
theorem Tryz.isSize : (Tryz.prog.info? 265).map (·.size) = some 1 := by kernel_rfl
theorem Tryz.noIsE (v : Value) (xT : TypeId) (w : World) : (Instr.typeAssert (.iface 245 v) xT 162 true).run Tryz.prog w = .ok (.tuple #[.nilIface, .bool false]) w := run_typeAssert_lacksB Tryz.underlying162 (by kernel_rfl) (by kernel_rfl) v xT w
theorem Tryz.noUnwrapE (v : Value) (xT : TypeId) (w : World) : (Instr.typeAssert (.iface 245 v) xT 157 true).run Tryz.prog w = .ok (.tuple #[.nilIface, .bool false]) w := run_typeAssert_lacksB Tryz.underlying157 (by kernel_rfl) (by kernel_rfl) v xT w
theorem Tryz.noUnwrapsE (v : Value) (xT : TypeId) (w : World) : (Instr.typeAssert (.iface 245 v) xT 159 true).run Tryz.prog w = .ok (.tuple #[.nilIface, .bool false]) w := run_typeAssert_lacksB Tryz.underlying159 (by kernel_rfl) (by kernel_rfl) v xT w
theorem is_same (a : Addr) (w : World) :
    Calls Tryz.prog 25 #[.iface 245 (.pointer (some a)), .iface 245 (.pointer (some a))] w fun e w' => e = .returned (.bool true) ∧ w' = w := by
  obtain ⟨i, hi, hcmp⟩ := Option.map_eq_some_iff.1 Tryz.isComp
  obtain ⟨j, hj, hjs⟩ := Option.map_eq_some_iff.1 Tryz.isSize
  have h8 := @run_callFunc_extern Tryz.prog 51 _ Extern.ReflectliteType.typeOf Tryz.func51 (by kernel_rfl) (by kernel_rfl) (by kernel_rfl) (by kernel_rfl)
  have h32 := @run_callFunc_extern Tryz.prog 183 _ (Extern.ReflectliteType.method cmpX) Tryz.func183 (by kernel_rfl) (by kernel_rfl) (by kernel_rfl) (by kernel_rfl)
  have tT := Tryz.isTypeOf
  have cT := Tryz.isComparable
  have mR := Tryz.isMethodComparable
  have heq := run_eql_iface_ptr_same (P := Tryz.prog) w a Tryz.underlying47 Tryz.underlying245 hi hcmp hj
  go_enter Tryz.func25, Tryz.ntmps25
  go_wp2
  refine wp_loop_rounds 1 ?_
  rw [rounds_succ]
  go_wp2
  go_ret
  exact ⟨rfl, rfl⟩
theorem is_nil (b : Addr) (w : World) :
    Calls Tryz.prog 25 #[.nilIface, .iface 245 (.pointer (some b))] w fun e w' => e = .returned (.bool false) ∧ w' = w := by
  have hn := run_eql_iface_nil_left (P := Tryz.prog) w 245 (.pointer (some b)) Tryz.underlying47
  go_enter Tryz.func25, Tryz.ntmps25
  go_wp2
  go_ret
  exact ⟨rfl, rfl⟩
theorem is_other (a b : Addr) (ca cb : Array Value) (ta tb : TypeId) (w : World) (hne : a ≠ b) (ha : w.heap[a.block]? = some (.cells ca ta (0, 0))) (hb : w.heap[b.block]? = some (.cells cb tb (0, 0))) :
    Calls Tryz.prog 25 #[.iface 245 (.pointer (some a)), .iface 245 (.pointer (some b))] w fun e w' => e = .returned (.bool false) ∧ w' = w := by
  obtain ⟨i, hi, hcmp⟩ := Option.map_eq_some_iff.1 Tryz.isComp
  obtain ⟨j, hj, hjs⟩ := Option.map_eq_some_iff.1 Tryz.isSize
  have h8 := @run_callFunc_extern Tryz.prog 51 _ Extern.ReflectliteType.typeOf Tryz.func51 (by kernel_rfl) (by kernel_rfl) (by kernel_rfl) (by kernel_rfl)
  have h32 := @run_callFunc_extern Tryz.prog 183 _ (Extern.ReflectliteType.method cmpX) Tryz.func183 (by kernel_rfl) (by kernel_rfl) (by kernel_rfl) (by kernel_rfl)
  have tT := Tryz.isTypeOf
  have cT := Tryz.isComparable
  have mR := Tryz.isMethodComparable
  have nE := Tryz.noIsE
  have uE := Tryz.noUnwrapE
  have vE := Tryz.noUnwrapsE
  have heq := run_eql_iface_ptr_other (P := Tryz.prog) w Tryz.underlying47 Tryz.underlying245 hi hcmp hj (by rw [hjs]; decide) hne ha hb
  go_enter Tryz.func25, Tryz.ntmps25
  go_wp2
  refine wp_loop_rounds 1 ?_
  rw [rounds_succ]
  go_wp2
  go_ret
  exact ⟨rfl, rfl⟩
def bl : Nat → Nat | 1 => 3 | 2 => 4 | 3 => 5 | 4 => 0 | 5 => 2 | _ => 1
theorem bl_lt (i : Nat) : bl i ≤ 5 := by unfold bl; split <;> decide
structure ErrS (W : World) (E : Nat → Addr) : Prop where
  cell : ∀ i, 1 ≤ i → i ≤ 6 → W.cell? ⟨bl i, 0, none⟩ = some (.iface 245 (.pointer (some (E i))))
  ne : ∀ i j, 1 ≤ i → i ≤ 6 → 1 ≤ j → j ≤ 6 → i ≠ j → E i ≠ E j
  row : ∀ i, 1 ≤ i → i ≤ 6 → ∃ c t, W.heap[(E i).block]? = some (.cells c t (0, 0))
  sz : 12 < W.heap.size
theorem ErrS.on {W w : World} {E : Nat → Addr} (h : ErrS W E) (hb : Below W.heap.size W w) : ErrS w E := by
  refine ⟨fun i h1 h2 => (hb.cell (p := ⟨bl i, 0, none⟩) (by have := h.sz; have := bl_lt i; show bl i < _; omega)).trans (h.cell i h1 h2), h.ne, fun i h1 h2 => ?_, by have := hb.size; have := h.sz; omega⟩
  obtain ⟨c, t, hc⟩ := h.row i h1 h2
  exact ⟨c, t, (hb.block _ (Array.getElem?_eq_some_iff.1 hc).1).trans hc⟩
theorem ErrS.k1 {W : World} {E : Nat → Addr} (h : ErrS W E) : W.cell? ⟨3, 0, none⟩ = some (.iface 245 (.pointer (some (E 1)))) := h.cell 1 (by decide) (by decide)
theorem ErrS.k2 {W : World} {E : Nat → Addr} (h : ErrS W E) : W.cell? ⟨4, 0, none⟩ = some (.iface 245 (.pointer (some (E 2)))) := h.cell 2 (by decide) (by decide)
theorem ErrS.k3 {W : World} {E : Nat → Addr} (h : ErrS W E) : W.cell? ⟨5, 0, none⟩ = some (.iface 245 (.pointer (some (E 3)))) := h.cell 3 (by decide) (by decide)
theorem ErrS.k4 {W : World} {E : Nat → Addr} (h : ErrS W E) : W.cell? ⟨0, 0, none⟩ = some (.iface 245 (.pointer (some (E 4)))) := h.cell 4 (by decide) (by decide)
theorem ErrS.k5 {W : World} {E : Nat → Addr} (h : ErrS W E) : W.cell? ⟨2, 0, none⟩ = some (.iface 245 (.pointer (some (E 5)))) := h.cell 5 (by decide) (by decide)
theorem ErrS.k6 {W : World} {E : Nat → Addr} (h : ErrS W E) : W.cell? ⟨1, 0, none⟩ = some (.iface 245 (.pointer (some (E 6)))) := h.cell 6 (by decide) (by decide)
theorem ErrS.is {W : World} {E : Nat → Addr} (h : ErrS W E) (i j : Nat) (h1 : 1 ≤ i) (h2 : i ≤ 6) (h3 : 1 ≤ j) (h4 : j ≤ 6) (hn : i ≠ j) :
    Calls Tryz.prog 25 #[.iface 245 (.pointer (some (E i))), .iface 245 (.pointer (some (E j)))] W fun e w' => e = .returned (.bool false) ∧ w' = W := by
  obtain ⟨ca, ta, ha⟩ := h.row i h1 h2
  obtain ⟨cb, tb, hb⟩ := h.row j h3 h4
  exact is_other _ _ ca cb ta tb W (h.ne i j h1 h2 h3 h4 hn) ha hb
theorem number_1 (W : World) (E : Nat → Addr) (h : ErrS W E) : Calls Tryz.prog 15 #[.iface 245 (.pointer (some (E 1)))] W fun e w' => e = .returned (.int .i64 162) ∧ w' = W := by
  have c4 := h.k4
  have c5 := h.k5
  have c6 := h.k6
  have c1 := h.k1
  have H4 := hid (h.is 1 4 (by decide) (by decide) (by decide) (by decide) (by decide))
  have H5 := hid (h.is 1 5 (by decide) (by decide) (by decide) (by decide) (by decide))
  have H6 := hid (h.is 1 6 (by decide) (by decide) (by decide) (by decide) (by decide))
  have H1 := hid (is_same (E 1) W)
  clear h
  go_enter Tryz.func15, Tryz.ntmps15
  go_wp2_with fail
  refine H4.out.mono ?_
  rintro e w ⟨rfl, rfl⟩
  clear H4
  go_wp2_with fail
  refine H5.out.mono ?_
  rintro e w ⟨rfl, rfl⟩
  clear H5
  go_wp2_with fail
  refine H6.out.mono ?_
  rintro e w ⟨rfl, rfl⟩
  clear H6
  go_wp2_with fail
  refine H1.out.mono ?_
  rintro e w ⟨rfl, rfl⟩
  clear H1
  go_wp2_with fail
  go_ret
  exact ⟨rfl, rfl⟩
theorem number_2 (W : World) (E : Nat → Addr) (h : ErrS W E) : Calls Tryz.prog 15 #[.iface 245 (.pointer (some (E 2)))] W fun e w' => e = .returned (.int .i64 163) ∧ w' = W := by
  have c4 := h.k4
  have c5 := h.k5
  have c6 := h.k6
  have c1 := h.k1
  have c2 := h.k2
  have H4 := hid (h.is 2 4 (by decide) (by decide) (by decide) (by decide) (by decide))
  have H5 := hid (h.is 2 5 (by decide) (by decide) (by decide) (by decide) (by decide))
  have H6 := hid (h.is 2 6 (by decide) (by decide) (by decide) (by decide) (by decide))
  have H1 := hid (h.is 2 1 (by decide) (by decide) (by decide) (by decide) (by decide))
  have H2 := hid (is_same (E 2) W)
  clear h
  go_enter Tryz.func15, Tryz.ntmps15
  go_wp2_with fail
  refine H4.out.mono ?_
  rintro e w ⟨rfl, rfl⟩
  clear H4
  go_wp2_with fail
  refine H5.out.mono ?_
  rintro e w ⟨rfl, rfl⟩
  clear H5
  go_wp2_with fail
  refine H6.out.mono ?_
  rintro e w ⟨rfl, rfl⟩
  clear H6
  go_wp2_with fail
  refine H1.out.mono ?_
  rintro e w ⟨rfl, rfl⟩
  clear H1
  go_wp2_with fail
  refine H2.out.mono ?_
  rintro e w ⟨rfl, rfl⟩
  clear H2
  go_wp2_with fail
  go_ret
  exact ⟨rfl, rfl⟩
theorem number_3 (W : World) (E : Nat → Addr) (h : ErrS W E) : Calls Tryz.prog 15 #[.iface 245 (.pointer (some (E 3)))] W fun e w' => e = .returned (.int .i64 164) ∧ w' = W := by
  have c4 := h.k4
  have c5 := h.k5
  have c6 := h.k6
  have c1 := h.k1
  have c2 := h.k2
  have c3 := h.k3
  have H4 := hid (h.is 3 4 (by decide) (by decide) (by decide) (by decide) (by decide))
  have H5 := hid (h.is 3 5 (by decide) (by decide) (by decide) (by decide) (by decide))
  have H6 := hid (h.is 3 6 (by decide) (by decide) (by decide) (by decide) (by decide))
  have H1 := hid (h.is 3 1 (by decide) (by decide) (by decide) (by decide) (by decide))
  have H2 := hid (h.is 3 2 (by decide) (by decide) (by decide) (by decide) (by decide))
  have H3 := hid (is_same (E 3) W)
  clear h
  go_enter Tryz.func15, Tryz.ntmps15
  go_wp2_with fail
  refine H4.out.mono ?_
  rintro e w ⟨rfl, rfl⟩
  clear H4
  go_wp2_with fail
  refine H5.out.mono ?_
  rintro e w ⟨rfl, rfl⟩
  clear H5
  go_wp2_with fail
  refine H6.out.mono ?_
  rintro e w ⟨rfl, rfl⟩
  clear H6
  go_wp2_with fail
  refine H1.out.mono ?_
  rintro e w ⟨rfl, rfl⟩
  clear H1
  go_wp2_with fail
  refine H2.out.mono ?_
  rintro e w ⟨rfl, rfl⟩
  clear H2
  go_wp2_with fail
  refine H3.out.mono ?_
  rintro e w ⟨rfl, rfl⟩
  clear H3
  go_wp2_with fail
  go_ret
  exact ⟨rfl, rfl⟩
theorem number_4 (W : World) (E : Nat → Addr) (h : ErrS W E) : Calls Tryz.prog 15 #[.iface 245 (.pointer (some (E 4)))] W fun e w' => e = .returned (.int .i64 2) ∧ w' = W := by
  have c4 := h.k4
  have H4 := hid (is_same (E 4) W)
  clear h
  go_enter Tryz.func15, Tryz.ntmps15
  go_wp2_with fail
  refine H4.out.mono ?_
  rintro e w ⟨rfl, rfl⟩
  clear H4
  go_wp2_with fail
  go_ret
  exact ⟨rfl, rfl⟩
theorem number_6 (W : World) (E : Nat → Addr) (h : ErrS W E) : Calls Tryz.prog 15 #[.iface 245 (.pointer (some (E 6)))] W fun e w' => e = .returned (.int .i64 161) ∧ w' = W := by
  have c4 := h.k4
  have c5 := h.k5
  have c6 := h.k6
  have H4 := hid (h.is 6 4 (by decide) (by decide) (by decide) (by decide) (by decide))
  have H5 := hid (h.is 6 5 (by decide) (by decide) (by decide) (by decide) (by decide))
  have H6 := hid (is_same (E 6) W)
  clear h
  go_enter Tryz.func15, Tryz.ntmps15
  go_wp2_with fail
  refine H4.out.mono ?_
  rintro e w ⟨rfl, rfl⟩
  clear H4
  go_wp2_with fail
  refine H5.out.mono ?_
  rintro e w ⟨rfl, rfl⟩
  clear H5
  go_wp2_with fail
  refine H6.out.mono ?_
  rintro e w ⟨rfl, rfl⟩
  clear H6
  go_wp2_with fail
  go_ret
  exact ⟨rfl, rfl⟩
theorem number_0 (W : World) (E : Nat → Addr) (h : ErrS W E) : Calls Tryz.prog 15 #[.nilIface] W fun e w' => e = .returned (.int .i64 0) ∧ w' = W := by
  have c4 := h.k4
  have c5 := h.k5
  have c6 := h.k6
  have c1 := h.k1
  have c2 := h.k2
  have c3 := h.k3
  have H4 := hid (is_nil (E 4) W)
  have H5 := hid (is_nil (E 5) W)
  have H6 := hid (is_nil (E 6) W)
  have H1 := hid (is_nil (E 1) W)
  have H2 := hid (is_nil (E 2) W)
  have H3 := hid (is_nil (E 3) W)
  clear h
  go_enter Tryz.func15, Tryz.ntmps15
  go_wp2_with fail
  refine H4.out.mono ?_
  rintro e w ⟨rfl, rfl⟩
  clear H4
  go_wp2_with fail
  refine H5.out.mono ?_
  rintro e w ⟨rfl, rfl⟩
  clear H5
  go_wp2_with fail
  refine H6.out.mono ?_
  rintro e w ⟨rfl, rfl⟩
  clear H6
  go_wp2_with fail
  refine H1.out.mono ?_
  rintro e w ⟨rfl, rfl⟩
  clear H1
  go_wp2_with fail
  refine H2.out.mono ?_
  rintro e w ⟨rfl, rfl⟩
  clear H2
  go_wp2_with fail
  refine H3.out.mono ?_
  rintro e w ⟨rfl, rfl⟩
  clear H3
  go_wp2_with fail
  go_ret
  exact ⟨rfl, rfl⟩
end Go.Proofs.YtbpdmkohihgnjaaGreatDoor
