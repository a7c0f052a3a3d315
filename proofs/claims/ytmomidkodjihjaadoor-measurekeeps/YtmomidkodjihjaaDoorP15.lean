import Derived.Test.YtmomidkodjihjaaDoorP11
import Derived.Test.YtmomidkodjihjaaDoorP09
import Derived.Deep.DeepCutAuto
import Derived.OwnWalk
namespace Go.Proofs.YtmomidkodjihjaaDoor
open Go.RowKit
open H
set_option maxHeartbeats 4000000
set_option maxRecDepth 100000
theorem hid {p : Prop} (h : p) : Hid p := h
theorem below_on {X w w' : World} (h : Below X.heap.size X w) (k : Below w.heap.size w w') : Below X.heap.size X w' := h.trans (k.mono h.size)
structure MOp where
  k : Int
  a : Int
  ws : List Int
def pgN (k : Int) : Nat := if k = 3 then 1024 else 0
def MOp.Ok (o : MOp) : Prop := 1 ≤ o.k ∧ o.k ≤ 4 ∧ o.ws.length = pgN o.k
instance (o : MOp) : Decidable o.Ok := by unfold MOp.Ok; infer_instance
def MOp.wds (o : MOp) : List Int := o.k :: o.a :: o.ws
def MOp.v (o : MOp) (ao : Option Addr) (c : Nat) : Value := .agg #[.int .i64 o.k, .int .u32 o.a, .slice ao o.ws.length c]
def ivk (k a : Int) (ao : Option Addr) (n c : Nat) : Value := if k = 1 then .iface 112 (.int .u32 a) else if k = 2 then .iface 113 (.int .u32 a) else if k = 3 then .iface 115 (.agg #[.int .u32 a, .slice ao n c]) else .iface 116 (.int .u32 a)
def MOp.iv (o : MOp) (ao : Option Addr) (c : Nat) : Value := ivk o.k o.a ao o.ws.length c
theorem Tryd.ta112 (v : Value) (w : World) : (Instr.typeAssert (.iface 112 v) 89 112 true).run Tryd.prog w = .ok (.tuple #[v, .bool true]) w := by kernel_rfl
theorem Tryd.ta113 (v : Value) (w : World) : (Instr.typeAssert (.iface 113 v) 89 113 true).run Tryd.prog w = .ok (.tuple #[v, .bool true]) w := by kernel_rfl
theorem Tryd.ta113_112 (v : Value) (w : World) : (Instr.typeAssert (.iface 113 v) 89 112 true).run Tryd.prog w = .ok (.tuple #[.int .u32 0, .bool false]) w := by kernel_rfl
theorem Tryd.ta115_112 (v : Value) (w : World) : (Instr.typeAssert (.iface 115 v) 89 112 true).run Tryd.prog w = .ok (.tuple #[.int .u32 0, .bool false]) w := by kernel_rfl
theorem Tryd.ta115_113 (v : Value) (w : World) : (Instr.typeAssert (.iface 115 v) 89 113 true).run Tryd.prog w = .ok (.tuple #[.int .u32 0, .bool false]) w := by kernel_rfl
theorem Tryd.ta115 (v : Value) (w : World) : (Instr.typeAssert (.iface 115 v) 89 115 true).run Tryd.prog w = .ok (.tuple #[v, .bool true]) w := by kernel_rfl
theorem Tryd.ta116_112 (v : Value) (w : World) : (Instr.typeAssert (.iface 116 v) 89 112 true).run Tryd.prog w = .ok (.tuple #[.int .u32 0, .bool false]) w := by kernel_rfl
theorem Tryd.ta116_113 (v : Value) (w : World) : (Instr.typeAssert (.iface 116 v) 89 113 true).run Tryd.prog w = .ok (.tuple #[.int .u32 0, .bool false]) w := by kernel_rfl
theorem Tryd.ta116_115 (v : Value) (w : World) : (Instr.typeAssert (.iface 116 v) 89 115 true).run Tryd.prog w = .ok (.tuple #[.agg #[.int .u32 0, .slice none 0 0], .bool false]) w := by kernel_rfl
theorem Tryd.ta116 (v : Value) (w : World) : (Instr.typeAssert (.iface 116 v) 89 116 true).run Tryd.prog w = .ok (.tuple #[v, .bool true]) w := by kernel_rfl
theorem pageOf_any (W : World) (k : Int) : Calls Tryd.prog 55 #[.int .i64 k] W fun e w => e = .returned (.int .i64 (pgN k : Int)) ∧ W = w := by
  by_cases h : k = 3
  · subst h
    go_enter Tryd.func55, Tryd.ntmps55
    go_wp2_with fail
    go_ret
    exact ⟨rfl, rfl⟩
  · have e : pgN k = 0 := if_neg h
    have h' : (k == 3) = false := by simpa using h
    rw [e]
    clear h e
    go_enter Tryd.func55, Tryd.ntmps55
    go_wp2_with fail
    go_ret
    exact ⟨rfl, rfl⟩
theorem kindOf_1 (W : World) (a : Int) : Calls Tryd.prog 56 #[.iface 112 (.int .u32 a)] W fun e w => e = .returned (.int .i64 1) ∧ W = w := by
  have t1 := fun w => Tryd.ta112 (.int .u32 a) w
  go_enter Tryd.func56, Tryd.ntmps56
  go_wp2_with fail
  go_ret
  exact ⟨rfl, rfl⟩
theorem kindOf_2 (W : World) (a : Int) : Calls Tryd.prog 56 #[.iface 113 (.int .u32 a)] W fun e w => e = .returned (.int .i64 2) ∧ W = w := by
  have t1 := fun w => Tryd.ta113_112 (.int .u32 a) w
  have t2 := fun w => Tryd.ta113 (.int .u32 a) w
  go_enter Tryd.func56, Tryd.ntmps56
  go_wp2_with fail
  go_ret
  exact ⟨rfl, rfl⟩
theorem kindOf_3 (W : World) (a : Int) (ao : Option Addr) (n c : Nat) : Calls Tryd.prog 56 #[.iface 115 (.agg #[.int .u32 a, .slice ao n c])] W fun e w => e = .returned (.int .i64 3) ∧ W = w := by
  have t1 := fun w => Tryd.ta115_112 (.agg #[.int .u32 a, .slice ao n c]) w
  have t2 := fun w => Tryd.ta115_113 (.agg #[.int .u32 a, .slice ao n c]) w
  have t3 := fun w => Tryd.ta115 (.agg #[.int .u32 a, .slice ao n c]) w
  go_enter Tryd.func56, Tryd.ntmps56
  go_wp2_with fail
  go_ret
  exact ⟨rfl, rfl⟩
theorem kindOf_4 (W : World) (a : Int) : Calls Tryd.prog 56 #[.iface 116 (.int .u32 a)] W fun e w => e = .returned (.int .i64 4) ∧ W = w := by
  have t1 := fun w => Tryd.ta116_112 (.int .u32 a) w
  have t2 := fun w => Tryd.ta116_113 (.int .u32 a) w
  have t3 := fun w => Tryd.ta116_115 (.int .u32 a) w
  have t4 := fun w => Tryd.ta116 (.int .u32 a) w
  go_enter Tryd.func56, Tryd.ntmps56
  go_wp2_with fail
  go_ret
  exact ⟨rfl, rfl⟩
theorem holds_drew {V W : World} {v : Value} {L : List Int} (H : Holds V W .u32 24 v L) : Holds V W.drew .u32 24 v L := ⟨H.own, H.below.drew⟩
theorem at_one (W : World) (x : Int) : At (W.alloc (.cells #[.int .u32 x] 24)) .u32 (some ⟨W.heap.size, 0, none⟩) [x] := (Blk.new W .u32 24 [x]).at
theorem run_append_h {V w : World} (ty : TypeId) {v : Value} {L : List Int} (H : Holds V w .u32 24 v L) (ad : Addr) (m c : Nat) (xs : List Int) (hl : xs.length = m) (hat : At w .u32 (some ad) xs) (hb : (L.length + m) * 4 ≤ 140737488355328) :
    ∃ v' w', (Builtin.append_ #[22, 22] ty #[v, .slice (some ad) m c]).run Tryd.prog w = .ok v' w' ∧ Holds V w' .u32 24 v' (L ++ xs) := by
  obtain ⟨i, hi, hz, hsize, hby⟩ := info_parts Tryd.info24
  obtain ⟨v', w', hr, h1, h2, _⟩ := run_append_own (P := Tryd.prog) w V.heap.size 22 ty 24 i (.int .u32 0) 1 4 Tryd.underlying22 hi hz hsize hby rfl (by decide) v L.length _ H.own ad m c (xs.map (Value.int .u32)) (by simp [hl]) hat.cells (ints_oneCell .u32 xs) (by unfold maxLen; omega) hb H.below.size
  exact ⟨v', w', hr, Holds.grow H.below (fun g hg => (H.own.lt g hg).1) h1 h2 (by simp [hl]) (by simp)⟩
theorem wp_append_h {V w : World} {o : Oper} {a : Act} {K : Act → World → Prop} {Q : Exit → Act → World → Prop} (s x : Operand)
    (ho : o.op = .call { callee := .builtin .append, args := #[s, x], argTypes := #[22, 22] }) (v : Value) (L : List Int) (hs : a.eval s = v) (H : Holds V w .u32 24 v L) (ad : Addr) (m c : Nat) (xs : List Int) (hx : a.eval x = .slice (some ad) m c) (hl : xs.length = m) (hat : At w .u32 (some ad) xs) (hb : (L.length + m) * 4 ≤ 140737488355328)
    (h : ∀ v' w', Holds V w' .u32 24 v' (L ++ xs) → K (a.put o.dst v') w') : o.wp Tryd.prog a w K Q := by
  obtain ⟨v', w', hr, hH⟩ := run_append_h o.type H ad m c xs hl hat hb
  unfold Oper.wp execOp
  simp only [ho, resolve, invoke, builtin, Sem.run_bind, Sem.run_pure, Result.andThen_ok, List.map_toArray, List.map_cons, List.map_nil, hs, hx, hr]
  exact h _ _ hH
theorem wpList_append_h {V w : World} {ops : Array Oper} {rest : List Oper} {o : Oper} {a : Act} {Q : Exit → Act → World → Prop} (hgd : o.guard = none) (s x : Operand)
    (ho : o.op = .call { callee := .builtin .append, args := #[s, x], argTypes := #[22, 22] }) (v : Value) (L : List Int) (hs : a.eval s = v) (H : Holds V w .u32 24 v L) (ad : Addr) (m c : Nat) (xs : List Int) (hx : a.eval x = .slice (some ad) m c) (hl : xs.length = m) (hat : At w .u32 (some ad) xs) (hb : (L.length + m) * 4 ≤ 140737488355328)
    (h : ∀ v' w', Holds V w' .u32 24 v' (L ++ xs) → wpList Tryd.prog ops Q rest (a.put o.dst v') w') : wpList Tryd.prog ops Q (o :: rest) a w := by
  refine wpList_plain hgd fun K hK => ?_
  exact wp_append_h s x ho v L hs H ad m c xs hx hl hat hb (fun v' w' hh => hK _ _ (h v' w' hh))
theorem put_96 (V W : World) (ao : Option Addr) (q c : Nat) (L : List Int) (H : Holds V W .u32 24 (.slice ao q c) L) (hb : (L.length + 1) * 4 ≤ 140737488355328) (a : Int) :
    Calls Tryd.prog 96 #[.int .u32 a, .slice ao q c] W fun e W' => ∃ v', e = .returned v' ∧ Holds V W' .u32 24 v' (L ++ [a]) := by
  have HH := hid (H.alloc (.cells #[.int .u32 a] 24))
  have HA := hid (at_one W a)
  have HL := hid hb
  clear H hb
  go_enter Tryd.func96, Tryd.ntmps96
  go_wp2_with (at_builtin; refine wpList_append_h rfl _ _ rfl _ L rfl HH.out _ 1 1 [a] rfl rfl HA.out HL.out ?_; intro v1 w1 h1; have H1 := hid h1; clear h1)
  go_ret
  exact ⟨_, rfl, H1.out⟩
theorem put_97 (V W : World) (ao : Option Addr) (q c : Nat) (L : List Int) (H : Holds V W .u32 24 (.slice ao q c) L) (hb : (L.length + 1) * 4 ≤ 140737488355328) (a : Int) :
    Calls Tryd.prog 97 #[.int .u32 a, .slice ao q c] W fun e W' => ∃ v', e = .returned v' ∧ Holds V W' .u32 24 v' (L ++ [a]) := by
  have HH := hid (H.alloc (.cells #[.int .u32 a] 24))
  have HA := hid (at_one W a)
  have HL := hid hb
  clear H hb
  go_enter Tryd.func97, Tryd.ntmps97
  go_wp2_with (at_builtin; refine wpList_append_h rfl _ _ rfl _ L rfl HH.out _ 1 1 [a] rfl rfl HA.out HL.out ?_; intro v1 w1 h1; have H1 := hid h1; clear h1)
  go_ret
  exact ⟨_, rfl, H1.out⟩
theorem put_99 (V W : World) (ao : Option Addr) (q c : Nat) (L : List Int) (H : Holds V W .u32 24 (.slice ao q c) L) (hb : (L.length + 1) * 4 ≤ 140737488355328) (a : Int) :
    Calls Tryd.prog 99 #[.int .u32 a, .slice ao q c] W fun e W' => ∃ v', e = .returned v' ∧ Holds V W' .u32 24 v' (L ++ [a]) := by
  have HH := hid (H.alloc (.cells #[.int .u32 a] 24))
  have HA := hid (at_one W a)
  have HL := hid hb
  clear H hb
  go_enter Tryd.func99, Tryd.ntmps99
  go_wp2_with (at_builtin; refine wpList_append_h rfl _ _ rfl _ L rfl HH.out _ 1 1 [a] rfl rfl HA.out HL.out ?_; intro v1 w1 h1; have H1 := hid h1; clear h1)
  go_ret
  exact ⟨_, rfl, H1.out⟩
end Go.Proofs.YtmomidkodjihjaaDoor
