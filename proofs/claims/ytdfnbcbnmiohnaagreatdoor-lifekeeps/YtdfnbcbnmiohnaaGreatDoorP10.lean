import Derived.Test.YtdfnbcbnmiohnaaGreatDoorP09
import Derived.Test.YtdfnbcbnmiohnaaGreatDoorP07
import Derived.Deep.DeepCutAuto
import Derived.OwnWalk
namespace Go.Proofs.YtdfnbcbnmiohnaaGreatDoor.Q
open Go.RowKit
open Go.Proofs.YtdfnbcbnmiohnaaGreatDoor.H
set_option maxHeartbeats 4000000
set_option maxRecDepth 100000
theorem hid {p : Prop} (h : p) : Hid p := h
theorem below_on {X w w' : World} (h : Below X.heap.size X w) (k : Below w.heap.size w w') : Below X.heap.size X w' := h.trans (k.mono h.size)
/-- An operation: its kind's number, its word, its words. -/
structure MOp where
  k : Int
  a : Int
  ws : List Int
/-- How many words an operation of that kind has. -/
def pgN (k : Int) : Nat := if k = 3 then 1024 else 0
/-- It is one. -/
def MOp.Ok (o : MOp) : Prop := 1 ≤ o.k ∧ o.k ≤ 4 ∧ o.ws.length = pgN o.k
instance (o : MOp) : Decidable o.Ok := by unfold MOp.Ok; infer_instance
/-- Its words. -/
def MOp.wds (o : MOp) : List Int := o.k :: o.a :: o.ws
/-- As a value, its words there. -/
def MOp.v (o : MOp) (ao : Option Addr) (c : Nat) : Value := .agg #[.int .i64 o.k, .int .u32 o.a, .slice ao o.ws.length c]
/-- Behind the interface. -/
def ivk (k a : Int) (ao : Option Addr) (n c : Nat) : Value := if k = 1 then .iface 210 (.int .u32 a) else if k = 2 then .iface 211 (.int .u32 a) else if k = 3 then .iface 213 (.agg #[.int .u32 a, .slice ao n c]) else .iface 214 (.int .u32 a)
def MOp.iv (o : MOp) (ao : Option Addr) (c : Nat) : Value := ivk o.k o.a ao o.ws.length c
theorem Tryz.ta112 (v : Value) (w : World) : (Instr.typeAssert (.iface 210 v) 172 210 true).run Tryz.prog w = .ok (.tuple #[v, .bool true]) w := by kernel_rfl
theorem Tryz.ta113 (v : Value) (w : World) : (Instr.typeAssert (.iface 211 v) 172 211 true).run Tryz.prog w = .ok (.tuple #[v, .bool true]) w := by kernel_rfl
theorem Tryz.ta113_112 (v : Value) (w : World) : (Instr.typeAssert (.iface 211 v) 172 210 true).run Tryz.prog w = .ok (.tuple #[.int .u32 0, .bool false]) w := by kernel_rfl
theorem Tryz.ta115_112 (v : Value) (w : World) : (Instr.typeAssert (.iface 213 v) 172 210 true).run Tryz.prog w = .ok (.tuple #[.int .u32 0, .bool false]) w := by kernel_rfl
theorem Tryz.ta115_113 (v : Value) (w : World) : (Instr.typeAssert (.iface 213 v) 172 211 true).run Tryz.prog w = .ok (.tuple #[.int .u32 0, .bool false]) w := by kernel_rfl
theorem Tryz.ta115 (v : Value) (w : World) : (Instr.typeAssert (.iface 213 v) 172 213 true).run Tryz.prog w = .ok (.tuple #[v, .bool true]) w := by kernel_rfl
theorem Tryz.ta116_112 (v : Value) (w : World) : (Instr.typeAssert (.iface 214 v) 172 210 true).run Tryz.prog w = .ok (.tuple #[.int .u32 0, .bool false]) w := by kernel_rfl
theorem Tryz.ta116_113 (v : Value) (w : World) : (Instr.typeAssert (.iface 214 v) 172 211 true).run Tryz.prog w = .ok (.tuple #[.int .u32 0, .bool false]) w := by kernel_rfl
theorem Tryz.ta116_115 (v : Value) (w : World) : (Instr.typeAssert (.iface 214 v) 172 213 true).run Tryz.prog w = .ok (.tuple #[.agg #[.int .u32 0, .slice none 0 0], .bool false]) w := by kernel_rfl
theorem Tryz.ta116 (v : Value) (w : World) : (Instr.typeAssert (.iface 214 v) 172 214 true).run Tryz.prog w = .ok (.tuple #[v, .bool true]) w := by kernel_rfl
theorem pageOf_any (W : World) (k : Int) : Calls Tryz.prog 138 #[.int .i64 k] W fun e w => e = .returned (.int .i64 (pgN k : Int)) ∧ W = w := by
  by_cases h : k = 3
  · subst h
    go_enter Tryz.func138, Tryz.ntmps138
    go_wp2_with fail
    go_ret
    exact ⟨rfl, rfl⟩
  · have e : pgN k = 0 := if_neg h
    have h' : (k == 3) = false := by simpa using h
    rw [e]
    clear h e
    go_enter Tryz.func138, Tryz.ntmps138
    go_wp2_with fail
    go_ret
    exact ⟨rfl, rfl⟩
theorem kindOf_1 (W : World) (a : Int) : Calls Tryz.prog 140 #[.iface 210 (.int .u32 a)] W fun e w => e = .returned (.int .i64 1) ∧ W = w := by
  have t1 := fun w => Tryz.ta112 (.int .u32 a) w
  go_enter Tryz.func140, Tryz.ntmps140
  go_wp2_with fail
  go_ret
  exact ⟨rfl, rfl⟩
theorem kindOf_2 (W : World) (a : Int) : Calls Tryz.prog 140 #[.iface 211 (.int .u32 a)] W fun e w => e = .returned (.int .i64 2) ∧ W = w := by
  have t1 := fun w => Tryz.ta113_112 (.int .u32 a) w
  have t2 := fun w => Tryz.ta113 (.int .u32 a) w
  go_enter Tryz.func140, Tryz.ntmps140
  go_wp2_with fail
  go_ret
  exact ⟨rfl, rfl⟩
theorem kindOf_3 (W : World) (a : Int) (ao : Option Addr) (n c : Nat) : Calls Tryz.prog 140 #[.iface 213 (.agg #[.int .u32 a, .slice ao n c])] W fun e w => e = .returned (.int .i64 3) ∧ W = w := by
  have t1 := fun w => Tryz.ta115_112 (.agg #[.int .u32 a, .slice ao n c]) w
  have t2 := fun w => Tryz.ta115_113 (.agg #[.int .u32 a, .slice ao n c]) w
  have t3 := fun w => Tryz.ta115 (.agg #[.int .u32 a, .slice ao n c]) w
  go_enter Tryz.func140, Tryz.ntmps140
  go_wp2_with fail
  go_ret
  exact ⟨rfl, rfl⟩
theorem kindOf_4 (W : World) (a : Int) : Calls Tryz.prog 140 #[.iface 214 (.int .u32 a)] W fun e w => e = .returned (.int .i64 4) ∧ W = w := by
  have t1 := fun w => Tryz.ta116_112 (.int .u32 a) w
  have t2 := fun w => Tryz.ta116_113 (.int .u32 a) w
  have t3 := fun w => Tryz.ta116_115 (.int .u32 a) w
  have t4 := fun w => Tryz.ta116 (.int .u32 a) w
  go_enter Tryz.func140, Tryz.ntmps140
  go_wp2_with fail
  go_ret
  exact ⟨rfl, rfl⟩
theorem holds_drew {V W : World} {v : Value} {L : List Int} (H : Holds V W .u32 43 v L) : Holds V W.drew .u32 43 v L := ⟨H.own, H.below.drew⟩
theorem at_one (W : World) (x : Int) : At (W.alloc (.cells #[.int .u32 x] 43)) .u32 (some ⟨W.heap.size, 0, none⟩) [x] := (Blk.new W .u32 43 [x]).at
/-- append onto a list of the call's own: one operation. -/
theorem run_append_h {V w : World} (ty : TypeId) {v : Value} {L : List Int} (H : Holds V w .u32 43 v L) (ad : Addr) (m c : Nat) (xs : List Int) (hl : xs.length = m) (hat : At w .u32 (some ad) xs) (hb : (L.length + m) * 4 ≤ 140737488355328) :
    ∃ v' w', (Builtin.append_ #[51, 51] ty #[v, .slice (some ad) m c]).run Tryz.prog w = .ok v' w' ∧ Holds V w' .u32 43 v' (L ++ xs) := by
  obtain ⟨i, hi, hz, hsize, hby⟩ := info_parts Tryz.info43
  obtain ⟨v', w', hr, h1, h2, _⟩ := run_append_own (P := Tryz.prog) w V.heap.size 51 ty 43 i (.int .u32 0) 1 4 Tryz.underlying51 hi hz hsize hby rfl (by decide) v L.length _ H.own ad m c (xs.map (Value.int .u32)) (by simp [hl]) hat.cells (ints_oneCell .u32 xs) (by unfold maxLen; omega) hb H.below.size
  exact ⟨v', w', hr, Holds.grow H.below (fun g hg => (H.own.lt g hg).1) h1 h2 (by simp [hl]) (by simp)⟩
theorem wp_append_h {V w : World} {o : Oper} {a : Act} {K : Act → World → Prop} {Q : Exit → Act → World → Prop} (s x : Operand)
    (ho : o.op = .call { callee := .builtin .append, args := #[s, x], argTypes := #[51, 51] }) (v : Value) (L : List Int) (hs : a.eval s = v) (H : Holds V w .u32 43 v L) (ad : Addr) (m c : Nat) (xs : List Int) (hx : a.eval x = .slice (some ad) m c) (hl : xs.length = m) (hat : At w .u32 (some ad) xs) (hb : (L.length + m) * 4 ≤ 140737488355328)
    (h : ∀ v' w', Holds V w' .u32 43 v' (L ++ xs) → K (a.put o.dst v') w') : o.wp Tryz.prog a w K Q := by
  obtain ⟨v', w', hr, hH⟩ := run_append_h o.type H ad m c xs hl hat hb
  unfold Oper.wp execOp
  simp only [ho, resolve, invoke, builtin, Sem.run_bind, Sem.run_pure, Result.andThen_ok, List.map_toArray, List.map_cons, List.map_nil, hs, hx, hr]
  exact h _ _ hH
theorem wpList_append_h {V w : World} {ops : Array Oper} {rest : List Oper} {o : Oper} {a : Act} {Q : Exit → Act → World → Prop} (hgd : o.guard = none) (s x : Operand)
    (ho : o.op = .call { callee := .builtin .append, args := #[s, x], argTypes := #[51, 51] }) (v : Value) (L : List Int) (hs : a.eval s = v) (H : Holds V w .u32 43 v L) (ad : Addr) (m c : Nat) (xs : List Int) (hx : a.eval x = .slice (some ad) m c) (hl : xs.length = m) (hat : At w .u32 (some ad) xs) (hb : (L.length + m) * 4 ≤ 140737488355328)
    (h : ∀ v' w', Holds V w' .u32 43 v' (L ++ xs) → wpList Tryz.prog ops Q rest (a.put o.dst v') w') : wpList Tryz.prog ops Q (o :: rest) a w := by
  refine wpList_plain hgd fun K hK => ?_
  exact wp_append_h s x ho v L hs H ad m c xs hx hl hat hb (fun v' w' hh => hK _ _ (h v' w' hh))
theorem put_96 (V W : World) (ao : Option Addr) (q c : Nat) (L : List Int) (H : Holds V W .u32 43 (.slice ao q c) L) (hb : (L.length + 1) * 4 ≤ 140737488355328) (a : Int) :
    Calls Tryz.prog 183 #[.int .u32 a, .slice ao q c] W fun e W' => ∃ v', e = .returned v' ∧ Holds V W' .u32 43 v' (L ++ [a]) := by
  have HH := hid (H.alloc (.cells #[.int .u32 a] 43))
  have HA := hid (at_one W a)
  have HL := hid hb
  clear H hb
  go_enter Tryz.func183, Tryz.ntmps183
  go_wp2_with (at_builtin; refine wpList_append_h rfl _ _ rfl _ L rfl HH.out _ 1 1 [a] rfl rfl HA.out HL.out ?_; intro v1 w1 h1; have H1 := hid h1; clear h1)
  go_ret
  exact ⟨_, rfl, H1.out⟩
theorem put_97 (V W : World) (ao : Option Addr) (q c : Nat) (L : List Int) (H : Holds V W .u32 43 (.slice ao q c) L) (hb : (L.length + 1) * 4 ≤ 140737488355328) (a : Int) :
    Calls Tryz.prog 184 #[.int .u32 a, .slice ao q c] W fun e W' => ∃ v', e = .returned v' ∧ Holds V W' .u32 43 v' (L ++ [a]) := by
  have HH := hid (H.alloc (.cells #[.int .u32 a] 43))
  have HA := hid (at_one W a)
  have HL := hid hb
  clear H hb
  go_enter Tryz.func184, Tryz.ntmps184
  go_wp2_with (at_builtin; refine wpList_append_h rfl _ _ rfl _ L rfl HH.out _ 1 1 [a] rfl rfl HA.out HL.out ?_; intro v1 w1 h1; have H1 := hid h1; clear h1)
  go_ret
  exact ⟨_, rfl, H1.out⟩
theorem put_99 (V W : World) (ao : Option Addr) (q c : Nat) (L : List Int) (H : Holds V W .u32 43 (.slice ao q c) L) (hb : (L.length + 1) * 4 ≤ 140737488355328) (a : Int) :
    Calls Tryz.prog 186 #[.int .u32 a, .slice ao q c] W fun e W' => ∃ v', e = .returned v' ∧ Holds V W' .u32 43 v' (L ++ [a]) := by
  have HH := hid (H.alloc (.cells #[.int .u32 a] 43))
  have HA := hid (at_one W a)
  have HL := hid hb
  clear H hb
  go_enter Tryz.func186, Tryz.ntmps186
  go_wp2_with (at_builtin; refine wpList_append_h rfl _ _ rfl _ L rfl HH.out _ 1 1 [a] rfl rfl HA.out HL.out ?_; intro v1 w1 h1; have H1 := hid h1; clear h1)
  go_ret
  exact ⟨_, rfl, H1.out⟩
end Go.Proofs.YtdfnbcbnmiohnaaGreatDoor.Q
namespace Go.Proofs.YtdfnbcbnmiohnaaGreatDoor.Q
open Go.RowKit
open Go.Proofs.YtdfnbcbnmiohnaaGreatDoor.H
set_option maxHeartbeats 4000000
set_option maxRecDepth 100000
/-- append onto a list of the call's own: a block of another type stays. -/
theorem run_append_k {V w : World} (ty : TypeId) {v : Value} {L : List Int} (H : Holds V w .u32 43 v L) (ad : Addr) (m c : Nat) (xs : List Int) (hl : xs.length = m) (hat : At w .u32 (some ad) xs) (hb : (L.length + m) * 4 ≤ 140737488355328) {g t : Nat} {cs : List Value} (hc : Cel w g t cs) (ht : t ≠ 43) :
    ∃ v' w', (Builtin.append_ #[51, 51] ty #[v, .slice (some ad) m c]).run Tryz.prog w = .ok v' w' ∧ Holds V w' .u32 43 v' (L ++ xs) ∧ Cel w' g t cs := by
  obtain ⟨i, hi, hz, hsize, hby⟩ := info_parts Tryz.info43
  obtain ⟨v', w', hr, h1, h2, _⟩ := run_append_own (P := Tryz.prog) w V.heap.size 51 ty 43 i (.int .u32 0) 1 4 Tryz.underlying51 hi hz hsize hby rfl (by decide) v L.length _ H.own ad m c (xs.map (Value.int .u32)) (by simp [hl]) hat.cells (ints_oneCell .u32 xs) (by unfold maxLen; omega) hb H.below.size
  refine ⟨v', w', hr, Holds.grow H.below (fun g hg => (H.own.lt g hg).1) h1 h2 (by simp [hl]) (by simp), ?_⟩
  refine (h2.block g hc.lt ?_).trans hc
  intro he
  rcases H.own.2 with ⟨rfl, _⟩ | ⟨gg, cap, cur, rfl, hg, hh, r⟩
  · cases he
  · have : gg = g := Option.some.inj he.symm
    subst this
    have h3 := hc.symm.trans hh
    have h4 := Option.some.inj h3
    injection h4 with _ h5
    exact ht h5
theorem wp_append_r {w w' : World} {o : Oper} {a : Act} {K : Act → World → Prop} {Q : Exit → Act → World → Prop} (s x : Operand) (ho : o.op = .call { callee := .builtin .append, args := #[s, x], argTypes := #[51, 51] }) (v : Value) (hs : a.eval s = v) (vx : Value) (hx : a.eval x = vx) {v' : Value}
    (hr : (Builtin.append_ #[51, 51] o.type #[v, vx]).run Tryz.prog w = .ok v' w') (h : K (a.put o.dst v') w') : o.wp Tryz.prog a w K Q := by
  unfold Oper.wp execOp
  simp only [ho, resolve, invoke, builtin, Sem.run_bind, Sem.run_pure, Result.andThen_ok, List.map_toArray, List.map_cons, List.map_nil, hs, hx, hr]
  exact h
theorem put_98 (V W : World) (av : Option Addr) (q cv : Nat) (L : List Int) (H : Holds V W .u32 43 (.slice av q cv) L) (hb : (L.length + 1025) * 4 ≤ 140737488355328) (a : Int) (ao : Option Addr) (c : Nat) (ws : List Int) (hw : ws.length = 1024) (hat : At V .u32 ao ws) :
    Calls Tryz.prog 185 #[.agg #[.int .u32 a, .slice ao 1024 c], .slice av q cv] W fun e W' => ∃ v', e = .returned v' ∧ Holds V W' .u32 43 v' (L ++ [a] ++ ws) := by
  obtain ⟨ad, rfl⟩ : ∃ ad, ao = some ad := by
    rcases hat with h0 | ⟨b, off, h1, _⟩
    · rw [h0] at hw; cases hw
    · exact ⟨_, h1⟩
  have X0 : Hid (Holds V (W.alloc (.cells #[.int .u32 a, .slice (some ad) 1024 c] 213)) .u32 43 (.slice av q cv) L ∧ Cel (W.alloc (.cells #[.int .u32 a, .slice (some ad) 1024 c] 213)) W.heap.size 213 [.int .u32 a, .slice (some ad) 1024 c]) := hid ⟨H.alloc _, heap_alloc_new _ _⟩
  have HA := hid hat
  have HL := hid hb
  have HW := hid hw
  have HG := hid H.below.size
  have HO : Hid (∀ g, (Value.slice av q cv).ownBlock = some g → g ≠ W.heap.size) := hid (fun g hg => by have := (H.own.lt g hg).2; omega)
  clear H hb hat hw
  go_enter Tryz.func185, Tryz.ntmps185
  go_upto_region 1 with fail
  generalize World.alloc _ _ = X at *
  generalize W.heap.size = gb at *
  have Y0 : Hid (Holds V X.drew .u32 43 (.slice av q cv) L ∧ Cel X.drew gb 213 [.int .u32 a, .slice (some ad) 1024 c]) := hid ⟨holds_drew X0.out.1, X0.out.2⟩
  clear X0
  refine wp_region_held_drew (S := fun w => Cel w gb 213 [.int .u32 a, .slice (some ad) 1024 c]) (by kernel_rfl) Y0.out.2 (fun hHeld => ?_)
  generalize World.drew _ = w0 at *
  refine wpAnyH_take (i := 0) (oi := { dst := some 5, op := Op.move (Operand.tmp 1), type := 51, pos := "operation.go:27", after := #[], guard := none }) (v := .slice av q cv) rfl (by kernel_rfl) (by kernel_rfl) (by kernel_rfl) (fun _ _ _ h => h) (Or.inl ⟨by rfl, by intro w hSw; go_simp⟩) (by assumption) ?_
  simp only [Act.put, List.setIfInBounds_toArray, List.set_cons_zero, List.set_cons_succ]
  refine wpAnyH_take (i := 1) (oi := { dst := some 6, op := Op.fieldAddr 213 (Operand.tmp 2) 0, type := 0, pos := "operation.go:27", after := #[], guard := none }) (v := .pointer (some ⟨gb, 0, none⟩)) rfl (by kernel_rfl) (by kernel_rfl) (by kernel_rfl) (fun _ _ _ h => h) (Or.inl ⟨by rfl, by intro w hSw; go_simp⟩) (by assumption) ?_
  simp only [Act.put, List.setIfInBounds_toArray, List.set_cons_zero, List.set_cons_succ]
  refine wpAnyH_take (i := 2) (oi := { dst := some 7, op := Op.load 43 (Operand.tmp 6), type := 43, pos := "operation.go:27", after := #[{ on := 1, ground := Ground.data }], guard := none }) (v := .int .u32 a) rfl (by kernel_rfl) (by kernel_rfl) (by kernel_rfl) (fun _ _ _ h => h) (Or.inl ⟨by rfl, by intro w hSw; have hc := hSw.cell 0; simp only [List.getElem?_cons_zero] at hc; go_simp⟩) (by assumption) ?_
  simp only [Act.put, List.setIfInBounds_toArray, List.set_cons_zero, List.set_cons_succ]
  refine wpAnyH_take (i := 5) (oi := { dst := some 10, op := Op.fieldAddr 213 (Operand.tmp 2) 1, type := 0, pos := "operation.go:27", after := #[], guard := none }) (v := .pointer (some ⟨gb, 1, none⟩)) rfl (by kernel_rfl) (by kernel_rfl) (by kernel_rfl) (fun _ _ _ h => h) (Or.inl ⟨by rfl, by intro w hSw; go_simp⟩) (by assumption) ?_
  simp only [Act.put, List.setIfInBounds_toArray, List.set_cons_zero, List.set_cons_succ]
  refine wpAnyH_take (i := 6) (oi := { dst := some 11, op := Op.load 51 (Operand.tmp 10), type := 51, pos := "operation.go:27", after := #[{ on := 5, ground := Ground.data }], guard := none }) (v := .slice (some ad) 1024 c) rfl (by kernel_rfl) (by kernel_rfl) (by kernel_rfl) (fun _ _ _ h => h) (Or.inl ⟨by rfl, by intro w hSw; have hc := hSw.cell 1; simp only [List.getElem?_cons_zero, List.getElem?_cons_succ] at hc; go_simp⟩) (by assumption) ?_
  simp only [Act.put, List.setIfInBounds_toArray, List.set_cons_zero, List.set_cons_succ]
  refine wpAnyH_ready (rs := [3]) (by kernel_rfl) (by simp) (AllReadyH.cons (o := { dst := some 8, op := Op.buildSlice 51 1 #[(0, Operand.tmp 7)], type := 51, pos := "operation.go:27", after := #[{ on := 2, ground := Ground.data }], guard := none }) rfl (fun KQ hK => ?_) AllReadyH.nil)
  go_simp
  have X1 : Hid (Holds V (w0.alloc (.cells #[.int .u32 a] 43)) .u32 43 (.slice av q cv) L ∧ Cel (w0.alloc (.cells #[.int .u32 a] 43)) gb 213 [.int .u32 a, .slice (some ad) 1024 c]) := hid ⟨Y0.out.1.alloc _, Y0.out.2.below (below_one w0 _) Y0.out.2.lt⟩
  have HS := hid (at_one w0 a)
  clear Y0
  generalize World.alloc _ _ = w1 at *
  generalize w0.heap.size = g1 at *
  refine hK.out _ _ X1.out.2 (fun hHeld => ?_)
  clear hK KQ
  try simp only [Act.put, List.setIfInBounds_toArray, List.set_cons_zero, List.set_cons_succ]
  refine wpAnyH_ready (rs := [4]) (by kernel_rfl) (by simp) (AllReadyH.cons (o := { dst := some 9, op := Op.call { callee := Callee.builtin Builtin.append, args := #[Operand.tmp 5, Operand.tmp 8], argTypes := #[51, 51] }, type := 51, pos := "operation.go:27", after := #[{ on := 0, ground := Ground.data }, { on := 3, ground := Ground.data }], guard := none }) rfl (fun KQ hK => ?_) AllReadyH.nil)
  rw [if_pos (by rfl)]
  obtain ⟨v2, w2, hr, hh, hk⟩ := run_append_k _ X1.out.1 _ 1 1 [a] rfl HS.out (by have := HL.out; omega) X1.out.2 (by decide)
  refine wp_append_r _ _ rfl _ rfl _ rfl hr ?_
  have X2 := hid (And.intro hh hk)
  clear hr hh hk X1 HS
  refine hK.out _ _ X2.out.2 (fun hHeld => ?_)
  clear hK KQ
  try simp only [Act.put, List.setIfInBounds_toArray, List.set_cons_zero, List.set_cons_succ]
  refine wpAnyH_ready (rs := [7]) (by kernel_rfl) (by simp) (AllReadyH.cons (o := { dst := some 12, op := Op.call { callee := Callee.builtin Builtin.append, args := #[Operand.tmp 9, Operand.tmp 11], argTypes := #[51, 51] }, type := 51, pos := "operation.go:27", after := #[{ on := 4, ground := Ground.data }, { on := 6, ground := Ground.data }, { on := 4, ground := Ground.chain }], guard := none }) rfl (fun KQ hK => ?_) AllReadyH.nil)
  rw [if_pos (by rfl)]
  obtain ⟨v3, w3, hr, hh, hk⟩ := run_append_k _ X2.out.1 ad 1024 c ws HW.out (HA.out.below X2.out.1.below) (by have := HL.out; rw [List.length_append]; simp only [List.length_singleton]; omega) X2.out.2 (by decide)
  refine wp_append_r _ _ rfl _ rfl _ rfl hr ?_
  have X3 := hid hh
  have X4 := hid hk
  clear hr hh hk X2
  refine hK.out _ _ X4.out (fun hHeld => ?_)
  clear hK KQ
  try simp only [Act.put, List.setIfInBounds_toArray, List.set_cons_zero, List.set_cons_succ]
  refine wpAnyH_ready (rs := [8]) (by kernel_rfl) (by simp) (AllReadyH.cons (o := { dst := some 4, op := Op.assign (Operand.tmp 12), type := 51, pos := "operation.go:27", after := #[{ on := 7, ground := Ground.data }, { on := 7, ground := Ground.chain }, { on := 0, ground := Ground.phase }, { on := 1, ground := Ground.phase }, { on := 2, ground := Ground.phase }, { on := 3, ground := Ground.phase }, { on := 4, ground := Ground.phase }, { on := 5, ground := Ground.phase }, { on := 6, ground := Ground.phase }, { on := 7, ground := Ground.phase }], guard := none }) rfl (fun KQ hK => ?_) AllReadyH.nil)
  go_simp
  refine hK.out _ _ X4.out (fun hHeld => ?_)
  clear hK KQ
  try simp only [Act.put, List.setIfInBounds_toArray, List.set_cons_zero, List.set_cons_succ]
  refine wpAnyH_done (by kernel_rfl) ?_ _
  go_wp2_with fail
  go_ret
  exact ⟨_, rfl, X3.out⟩
theorem lay_1 (V W : World) (av : Option Addr) (q cv : Nat) (L : List Int) (H : Holds V W .u32 43 (.slice av q cv) L) (hb : (L.length + 1026) * 4 ≤ 140737488355328) (a : Int) :
    Calls Tryz.prog 108 #[.slice av q cv, .iface 210 (.int .u32 a)] W fun e W' => ∃ v', e = .returned v' ∧ Holds V W' .u32 43 v' (L ++ [1, a]) := by
  have HL := hid hb
  have HK := hid (fun w => kindOf_1 w a)
  have Y0 : Hid (Holds V W.drew .u32 43 (.slice av q cv) L) := hid (holds_drew H)
  clear H hb
  have na : ∀ w, (nilAhead 355 210 (.int .u32 a) "warden/measure.put").run Tryz.prog w = .ok (some false) w := fun w => by kernel_rfl
  have me : ∀ w, (Go.method 355 210 (.int .u32 a) "warden/measure.put").run Tryz.prog w = .ok (183, .int .u32 a) w := fun w => by kernel_rfl
  have kw : IntKind.wrap .u32 1 = 1 := rfl
  go_enter Tryz.func108, Tryz.ntmps108
  go_upto_region 1 with fail
  refine wp_region_held_drew (S := fun _ => True) (by kernel_rfl) trivial (fun hHeld => ?_)
  generalize World.drew _ = w0 at *
  refine wpAnyH_take (i := 0) (oi := { dst := some 5, op := Op.move (Operand.tmp 1), type := 172, pos := "operation.go:71", after := #[], guard := none }) (v := .iface 210 (.int .u32 a)) rfl (by kernel_rfl) (by kernel_rfl) (by kernel_rfl) (fun _ _ _ h => h) (Or.inl ⟨by rfl, by intro w hSw; go_simp⟩) (by assumption) ?_
  simp only [Act.put, List.setIfInBounds_toArray, List.set_cons_zero, List.set_cons_succ]
  refine wpAnyH_take (i := 1) (oi := { dst := some 6, op := Op.move (Operand.tmp 0), type := 51, pos := "operation.go:71", after := #[], guard := none }) (v := .slice av q cv) rfl (by kernel_rfl) (by kernel_rfl) (by kernel_rfl) (fun _ _ _ h => h) (Or.inl ⟨by rfl, by intro w hSw; go_simp⟩) (by assumption) ?_
  simp only [Act.put, List.setIfInBounds_toArray, List.set_cons_zero, List.set_cons_succ]
  refine wpAnyH_take (i := 2) (oi := { dst := some 7, op := Op.move (Operand.tmp 1), type := 172, pos := "operation.go:71", after := #[], guard := none }) (v := .iface 210 (.int .u32 a)) rfl (by kernel_rfl) (by kernel_rfl) (by kernel_rfl) (fun _ _ _ h => h) (Or.inl ⟨by rfl, by intro w hSw; go_simp⟩) (by assumption) ?_
  simp only [Act.put, List.setIfInBounds_toArray, List.set_cons_zero, List.set_cons_succ]
  refine wpAnyH_take (i := 7) (oi := { dst := some 12, op := Op.makeFunc (Fn.method "warden/measure.put") #[Operand.tmp 5] #[], type := 217, pos := "operation.go:71", after := #[{ on := 0, ground := Ground.data }], guard := none }) (v := .func (Fn.method "warden/measure.put") #[.iface 210 (.int .u32 a)] #[]) rfl (by kernel_rfl) (by kernel_rfl) (by kernel_rfl) (fun _ _ _ h => h) (Or.inl ⟨by rfl, by intro w hSw; go_simp⟩) (by assumption) ?_
  simp only [Act.put, List.setIfInBounds_toArray, List.set_cons_zero, List.set_cons_succ]
  refine wpAnyH_take (i := 8) (oi := { dst := some 13, op := Op.nilCheck (Operand.tmp 12), type := 217, pos := "operation.go:71", after := #[{ on := 7, ground := Ground.data }], guard := none }) (v := .func (Fn.method "warden/measure.put") #[.iface 210 (.int .u32 a)] #[]) rfl (by kernel_rfl) (by kernel_rfl) (by kernel_rfl) (fun _ _ _ h => h) (Or.inl ⟨by rfl, by intro w hSw; go_simp⟩) (by assumption) ?_
  simp only [Act.put, List.setIfInBounds_toArray, List.set_cons_zero, List.set_cons_succ]
  refine wpAnyH_take (i := 9) (oi := { dst := some 14, op := Op.move (Operand.tmp 5), type := 172, pos := "operation.go:71", after := #[{ on := 0, ground := Ground.data }, { on := 7, ground := Ground.data }, { on := 8, ground := Ground.data }], guard := none }) (v := .iface 210 (.int .u32 a)) rfl (by kernel_rfl) (by kernel_rfl) (by kernel_rfl) (fun _ _ _ h => h) (Or.inl ⟨by rfl, by intro w hSw; go_simp⟩) (by assumption) ?_
  simp only [Act.put, List.setIfInBounds_toArray, List.set_cons_zero, List.set_cons_succ]
  refine wpAnyH_ready (rs := [3]) (by kernel_rfl) (by simp) (AllReadyH.cons (o := { dst := some 8, op := Op.call { callee := Callee.value (Operand.func 140), args := #[Operand.tmp 7], argTypes := #[172] }, type := 50, pos := "operation.go:71", after := #[{ on := 2, ground := Ground.data }], guard := none }) rfl (fun KQ hK => ?_) AllReadyH.nil)
  go_simp
  refine (HK.out _).mono ?_
  rintro e w1 ⟨rfl, hw1⟩
  subst w1
  go_wp2_with fail
  refine hK.out _ _ trivial (fun hHeld => ?_)
  clear hK KQ
  try simp only [Act.put, List.setIfInBounds_toArray, List.set_cons_zero, List.set_cons_succ]
  refine wpAnyH_take (i := 4) (oi := { dst := some 9, op := Op.convert 50 43 (Operand.tmp 8), type := 43, pos := "operation.go:71", after := #[{ on := 3, ground := Ground.data }], guard := none }) (v := .int .u32 1) rfl (by kernel_rfl) (by kernel_rfl) (by kernel_rfl) (fun _ _ _ h => h) (Or.inl ⟨by rfl, by intro w hSw; go_simp⟩) (by assumption) ?_
  simp only [Act.put, List.setIfInBounds_toArray, List.set_cons_zero, List.set_cons_succ]
  refine wpAnyH_ready (rs := [5]) (by kernel_rfl) (by simp) (AllReadyH.cons (o := { dst := some 10, op := Op.buildSlice 51 1 #[(0, Operand.tmp 9)], type := 51, pos := "operation.go:71", after := #[{ on := 4, ground := Ground.data }], guard := none }) rfl (fun KQ hK => ?_) AllReadyH.nil)
  go_simp
  have Y1 : Hid (Holds V (w0.alloc (.cells #[.int .u32 1] 43)) .u32 43 (.slice av q cv) L) := hid (Y0.out.alloc _)
  have HS := hid (at_one w0 1)
  clear Y0
  generalize World.alloc _ _ = w1 at *
  generalize w0.heap.size = g1 at *
  refine hK.out _ _ trivial (fun hHeld => ?_)
  clear hK KQ
  try simp only [Act.put, List.setIfInBounds_toArray, List.set_cons_zero, List.set_cons_succ]
  refine wpAnyH_ready (rs := [6]) (by kernel_rfl) (by simp) (AllReadyH.cons (o := { dst := some 11, op := Op.call { callee := Callee.builtin Builtin.append, args := #[Operand.tmp 6, Operand.tmp 10], argTypes := #[51, 51] }, type := 51, pos := "operation.go:71", after := #[{ on := 1, ground := Ground.data }, { on := 5, ground := Ground.data }, { on := 3, ground := Ground.chain }], guard := none }) rfl (fun KQ hK => ?_) AllReadyH.nil)
  rw [if_pos (by rfl)]
  refine wp_append_h _ _ rfl _ L rfl Y1.out _ 1 1 [1] rfl rfl HS.out (by have := HL.out; omega) ?_
  intro v2 w2 hh
  obtain ⟨ao2, c2, hv, _⟩ := hh.at'
  rw [List.length_append, List.length_singleton] at hv
  subst hv
  have Y2 := hid hh
  clear hh Y1 HS
  refine hK.out _ _ trivial (fun hHeld => ?_)
  clear hK KQ
  try simp only [Act.put, List.setIfInBounds_toArray, List.set_cons_zero, List.set_cons_succ]
  refine wpAnyH_ready (rs := [10]) (by kernel_rfl) (by simp) (AllReadyH.cons (o := { dst := some 15, op := Op.call { callee := Callee.invoke (Operand.tmp 14) "warden/measure.put", args := #[Operand.tmp 11], argTypes := #[51] }, type := 51, pos := "operation.go:71", after := #[{ on := 9, ground := Ground.data }, { on := 6, ground := Ground.data }, { on := 6, ground := Ground.chain }], guard := none }) rfl (fun KQ hK => ?_) AllReadyH.nil)
  go_simp
  refine (put_96 V _ _ _ _ _ Y2.out (by have := HL.out; rw [List.length_append]; simp only [List.length_singleton]; omega) a).mono ?_
  rintro e w3 ⟨v3, rfl, h3⟩
  have Y3 := hid h3
  clear h3 Y2
  go_wp2_with fail
  refine hK.out _ _ trivial (fun hHeld => ?_)
  clear hK KQ
  try simp only [Act.put, List.setIfInBounds_toArray, List.set_cons_zero, List.set_cons_succ]
  refine wpAnyH_ready (rs := [11]) (by kernel_rfl) (by simp) (AllReadyH.cons (o := { dst := some 4, op := Op.assign (Operand.tmp 15), type := 51, pos := "operation.go:71", after := #[{ on := 10, ground := Ground.data }, { on := 10, ground := Ground.chain }, { on := 0, ground := Ground.phase }, { on := 1, ground := Ground.phase }, { on := 2, ground := Ground.phase }, { on := 3, ground := Ground.phase }, { on := 4, ground := Ground.phase }, { on := 5, ground := Ground.phase }, { on := 6, ground := Ground.phase }, { on := 7, ground := Ground.phase }, { on := 8, ground := Ground.phase }, { on := 9, ground := Ground.phase }, { on := 10, ground := Ground.phase }], guard := none }) rfl (fun KQ hK => ?_) AllReadyH.nil)
  go_simp
  refine hK.out _ _ trivial (fun hHeld => ?_)
  clear hK KQ
  try simp only [Act.put, List.setIfInBounds_toArray, List.set_cons_zero, List.set_cons_succ]
  refine wpAnyH_done (by kernel_rfl) ?_ _
  go_wp2_with fail
  go_ret
  refine ⟨_, rfl, ?_⟩
  have := Y3.out
  simpa using this
theorem lay_2 (V W : World) (av : Option Addr) (q cv : Nat) (L : List Int) (H : Holds V W .u32 43 (.slice av q cv) L) (hb : (L.length + 1026) * 4 ≤ 140737488355328) (a : Int) :
    Calls Tryz.prog 108 #[.slice av q cv, .iface 211 (.int .u32 a)] W fun e W' => ∃ v', e = .returned v' ∧ Holds V W' .u32 43 v' (L ++ [2, a]) := by
  have HL := hid hb
  have HK := hid (fun w => kindOf_2 w a)
  have Y0 : Hid (Holds V W.drew .u32 43 (.slice av q cv) L) := hid (holds_drew H)
  clear H hb
  have na : ∀ w, (nilAhead 355 211 (.int .u32 a) "warden/measure.put").run Tryz.prog w = .ok (some false) w := fun w => by kernel_rfl
  have me : ∀ w, (Go.method 355 211 (.int .u32 a) "warden/measure.put").run Tryz.prog w = .ok (184, .int .u32 a) w := fun w => by kernel_rfl
  have kw : IntKind.wrap .u32 2 = 2 := rfl
  go_enter Tryz.func108, Tryz.ntmps108
  go_upto_region 1 with fail
  refine wp_region_held_drew (S := fun _ => True) (by kernel_rfl) trivial (fun hHeld => ?_)
  generalize World.drew _ = w0 at *
  refine wpAnyH_take (i := 0) (oi := { dst := some 5, op := Op.move (Operand.tmp 1), type := 172, pos := "operation.go:71", after := #[], guard := none }) (v := .iface 211 (.int .u32 a)) rfl (by kernel_rfl) (by kernel_rfl) (by kernel_rfl) (fun _ _ _ h => h) (Or.inl ⟨by rfl, by intro w hSw; go_simp⟩) (by assumption) ?_
  simp only [Act.put, List.setIfInBounds_toArray, List.set_cons_zero, List.set_cons_succ]
  refine wpAnyH_take (i := 1) (oi := { dst := some 6, op := Op.move (Operand.tmp 0), type := 51, pos := "operation.go:71", after := #[], guard := none }) (v := .slice av q cv) rfl (by kernel_rfl) (by kernel_rfl) (by kernel_rfl) (fun _ _ _ h => h) (Or.inl ⟨by rfl, by intro w hSw; go_simp⟩) (by assumption) ?_
  simp only [Act.put, List.setIfInBounds_toArray, List.set_cons_zero, List.set_cons_succ]
  refine wpAnyH_take (i := 2) (oi := { dst := some 7, op := Op.move (Operand.tmp 1), type := 172, pos := "operation.go:71", after := #[], guard := none }) (v := .iface 211 (.int .u32 a)) rfl (by kernel_rfl) (by kernel_rfl) (by kernel_rfl) (fun _ _ _ h => h) (Or.inl ⟨by rfl, by intro w hSw; go_simp⟩) (by assumption) ?_
  simp only [Act.put, List.setIfInBounds_toArray, List.set_cons_zero, List.set_cons_succ]
  refine wpAnyH_take (i := 7) (oi := { dst := some 12, op := Op.makeFunc (Fn.method "warden/measure.put") #[Operand.tmp 5] #[], type := 217, pos := "operation.go:71", after := #[{ on := 0, ground := Ground.data }], guard := none }) (v := .func (Fn.method "warden/measure.put") #[.iface 211 (.int .u32 a)] #[]) rfl (by kernel_rfl) (by kernel_rfl) (by kernel_rfl) (fun _ _ _ h => h) (Or.inl ⟨by rfl, by intro w hSw; go_simp⟩) (by assumption) ?_
  simp only [Act.put, List.setIfInBounds_toArray, List.set_cons_zero, List.set_cons_succ]
  refine wpAnyH_take (i := 8) (oi := { dst := some 13, op := Op.nilCheck (Operand.tmp 12), type := 217, pos := "operation.go:71", after := #[{ on := 7, ground := Ground.data }], guard := none }) (v := .func (Fn.method "warden/measure.put") #[.iface 211 (.int .u32 a)] #[]) rfl (by kernel_rfl) (by kernel_rfl) (by kernel_rfl) (fun _ _ _ h => h) (Or.inl ⟨by rfl, by intro w hSw; go_simp⟩) (by assumption) ?_
  simp only [Act.put, List.setIfInBounds_toArray, List.set_cons_zero, List.set_cons_succ]
  refine wpAnyH_take (i := 9) (oi := { dst := some 14, op := Op.move (Operand.tmp 5), type := 172, pos := "operation.go:71", after := #[{ on := 0, ground := Ground.data }, { on := 7, ground := Ground.data }, { on := 8, ground := Ground.data }], guard := none }) (v := .iface 211 (.int .u32 a)) rfl (by kernel_rfl) (by kernel_rfl) (by kernel_rfl) (fun _ _ _ h => h) (Or.inl ⟨by rfl, by intro w hSw; go_simp⟩) (by assumption) ?_
  simp only [Act.put, List.setIfInBounds_toArray, List.set_cons_zero, List.set_cons_succ]
  refine wpAnyH_ready (rs := [3]) (by kernel_rfl) (by simp) (AllReadyH.cons (o := { dst := some 8, op := Op.call { callee := Callee.value (Operand.func 140), args := #[Operand.tmp 7], argTypes := #[172] }, type := 50, pos := "operation.go:71", after := #[{ on := 2, ground := Ground.data }], guard := none }) rfl (fun KQ hK => ?_) AllReadyH.nil)
  go_simp
  refine (HK.out _).mono ?_
  rintro e w1 ⟨rfl, hw1⟩
  subst w1
  go_wp2_with fail
  refine hK.out _ _ trivial (fun hHeld => ?_)
  clear hK KQ
  try simp only [Act.put, List.setIfInBounds_toArray, List.set_cons_zero, List.set_cons_succ]
  refine wpAnyH_take (i := 4) (oi := { dst := some 9, op := Op.convert 50 43 (Operand.tmp 8), type := 43, pos := "operation.go:71", after := #[{ on := 3, ground := Ground.data }], guard := none }) (v := .int .u32 2) rfl (by kernel_rfl) (by kernel_rfl) (by kernel_rfl) (fun _ _ _ h => h) (Or.inl ⟨by rfl, by intro w hSw; go_simp⟩) (by assumption) ?_
  simp only [Act.put, List.setIfInBounds_toArray, List.set_cons_zero, List.set_cons_succ]
  refine wpAnyH_ready (rs := [5]) (by kernel_rfl) (by simp) (AllReadyH.cons (o := { dst := some 10, op := Op.buildSlice 51 1 #[(0, Operand.tmp 9)], type := 51, pos := "operation.go:71", after := #[{ on := 4, ground := Ground.data }], guard := none }) rfl (fun KQ hK => ?_) AllReadyH.nil)
  go_simp
  have Y1 : Hid (Holds V (w0.alloc (.cells #[.int .u32 2] 43)) .u32 43 (.slice av q cv) L) := hid (Y0.out.alloc _)
  have HS := hid (at_one w0 2)
  clear Y0
  generalize World.alloc _ _ = w1 at *
  generalize w0.heap.size = g1 at *
  refine hK.out _ _ trivial (fun hHeld => ?_)
  clear hK KQ
  try simp only [Act.put, List.setIfInBounds_toArray, List.set_cons_zero, List.set_cons_succ]
  refine wpAnyH_ready (rs := [6]) (by kernel_rfl) (by simp) (AllReadyH.cons (o := { dst := some 11, op := Op.call { callee := Callee.builtin Builtin.append, args := #[Operand.tmp 6, Operand.tmp 10], argTypes := #[51, 51] }, type := 51, pos := "operation.go:71", after := #[{ on := 1, ground := Ground.data }, { on := 5, ground := Ground.data }, { on := 3, ground := Ground.chain }], guard := none }) rfl (fun KQ hK => ?_) AllReadyH.nil)
  rw [if_pos (by rfl)]
  refine wp_append_h _ _ rfl _ L rfl Y1.out _ 1 1 [2] rfl rfl HS.out (by have := HL.out; omega) ?_
  intro v2 w2 hh
  obtain ⟨ao2, c2, hv, _⟩ := hh.at'
  rw [List.length_append, List.length_singleton] at hv
  subst hv
  have Y2 := hid hh
  clear hh Y1 HS
  refine hK.out _ _ trivial (fun hHeld => ?_)
  clear hK KQ
  try simp only [Act.put, List.setIfInBounds_toArray, List.set_cons_zero, List.set_cons_succ]
  refine wpAnyH_ready (rs := [10]) (by kernel_rfl) (by simp) (AllReadyH.cons (o := { dst := some 15, op := Op.call { callee := Callee.invoke (Operand.tmp 14) "warden/measure.put", args := #[Operand.tmp 11], argTypes := #[51] }, type := 51, pos := "operation.go:71", after := #[{ on := 9, ground := Ground.data }, { on := 6, ground := Ground.data }, { on := 6, ground := Ground.chain }], guard := none }) rfl (fun KQ hK => ?_) AllReadyH.nil)
  go_simp
  refine (put_97 V _ _ _ _ _ Y2.out (by have := HL.out; rw [List.length_append]; simp only [List.length_singleton]; omega) a).mono ?_
  rintro e w3 ⟨v3, rfl, h3⟩
  have Y3 := hid h3
  clear h3 Y2
  go_wp2_with fail
  refine hK.out _ _ trivial (fun hHeld => ?_)
  clear hK KQ
  try simp only [Act.put, List.setIfInBounds_toArray, List.set_cons_zero, List.set_cons_succ]
  refine wpAnyH_ready (rs := [11]) (by kernel_rfl) (by simp) (AllReadyH.cons (o := { dst := some 4, op := Op.assign (Operand.tmp 15), type := 51, pos := "operation.go:71", after := #[{ on := 10, ground := Ground.data }, { on := 10, ground := Ground.chain }, { on := 0, ground := Ground.phase }, { on := 1, ground := Ground.phase }, { on := 2, ground := Ground.phase }, { on := 3, ground := Ground.phase }, { on := 4, ground := Ground.phase }, { on := 5, ground := Ground.phase }, { on := 6, ground := Ground.phase }, { on := 7, ground := Ground.phase }, { on := 8, ground := Ground.phase }, { on := 9, ground := Ground.phase }, { on := 10, ground := Ground.phase }], guard := none }) rfl (fun KQ hK => ?_) AllReadyH.nil)
  go_simp
  refine hK.out _ _ trivial (fun hHeld => ?_)
  clear hK KQ
  try simp only [Act.put, List.setIfInBounds_toArray, List.set_cons_zero, List.set_cons_succ]
  refine wpAnyH_done (by kernel_rfl) ?_ _
  go_wp2_with fail
  go_ret
  refine ⟨_, rfl, ?_⟩
  have := Y3.out
  simpa using this
theorem lay_3 (V W : World) (av : Option Addr) (q cv : Nat) (L : List Int) (H : Holds V W .u32 43 (.slice av q cv) L) (hb : (L.length + 1026) * 4 ≤ 140737488355328) (a : Int) (ao : Option Addr) (c : Nat) (ws : List Int) (hw : ws.length = 1024) (hat : At V .u32 ao ws) :
    Calls Tryz.prog 108 #[.slice av q cv, .iface 213 (.agg #[.int .u32 a, .slice ao 1024 c])] W fun e W' => ∃ v', e = .returned v' ∧ Holds V W' .u32 43 v' (L ++ ([3, a] ++ ws)) := by
  have HL := hid hb
  have HA := hid hat
  have HW := hid hw
  have HK := hid (fun w => kindOf_3 w a ao 1024 c)
  have Y0 : Hid (Holds V W.drew .u32 43 (.slice av q cv) L) := hid (holds_drew H)
  clear H hb hat hw
  have na : ∀ w, (nilAhead 355 213 (.agg #[.int .u32 a, .slice ao 1024 c]) "warden/measure.put").run Tryz.prog w = .ok (some false) w := fun w => by kernel_rfl
  have me : ∀ w, (Go.method 355 213 (.agg #[.int .u32 a, .slice ao 1024 c]) "warden/measure.put").run Tryz.prog w = .ok (185, .agg #[.int .u32 a, .slice ao 1024 c]) w := fun w => by kernel_rfl
  have kw : IntKind.wrap .u32 3 = 3 := rfl
  go_enter Tryz.func108, Tryz.ntmps108
  go_upto_region 1 with fail
  refine wp_region_held_drew (S := fun _ => True) (by kernel_rfl) trivial (fun hHeld => ?_)
  generalize World.drew _ = w0 at *
  refine wpAnyH_take (i := 0) (oi := { dst := some 5, op := Op.move (Operand.tmp 1), type := 172, pos := "operation.go:71", after := #[], guard := none }) (v := .iface 213 (.agg #[.int .u32 a, .slice ao 1024 c])) rfl (by kernel_rfl) (by kernel_rfl) (by kernel_rfl) (fun _ _ _ h => h) (Or.inl ⟨by rfl, by intro w hSw; go_simp⟩) (by assumption) ?_
  simp only [Act.put, List.setIfInBounds_toArray, List.set_cons_zero, List.set_cons_succ]
  refine wpAnyH_take (i := 1) (oi := { dst := some 6, op := Op.move (Operand.tmp 0), type := 51, pos := "operation.go:71", after := #[], guard := none }) (v := .slice av q cv) rfl (by kernel_rfl) (by kernel_rfl) (by kernel_rfl) (fun _ _ _ h => h) (Or.inl ⟨by rfl, by intro w hSw; go_simp⟩) (by assumption) ?_
  simp only [Act.put, List.setIfInBounds_toArray, List.set_cons_zero, List.set_cons_succ]
  refine wpAnyH_take (i := 2) (oi := { dst := some 7, op := Op.move (Operand.tmp 1), type := 172, pos := "operation.go:71", after := #[], guard := none }) (v := .iface 213 (.agg #[.int .u32 a, .slice ao 1024 c])) rfl (by kernel_rfl) (by kernel_rfl) (by kernel_rfl) (fun _ _ _ h => h) (Or.inl ⟨by rfl, by intro w hSw; go_simp⟩) (by assumption) ?_
  simp only [Act.put, List.setIfInBounds_toArray, List.set_cons_zero, List.set_cons_succ]
  refine wpAnyH_take (i := 7) (oi := { dst := some 12, op := Op.makeFunc (Fn.method "warden/measure.put") #[Operand.tmp 5] #[], type := 217, pos := "operation.go:71", after := #[{ on := 0, ground := Ground.data }], guard := none }) (v := .func (Fn.method "warden/measure.put") #[.iface 213 (.agg #[.int .u32 a, .slice ao 1024 c])] #[]) rfl (by kernel_rfl) (by kernel_rfl) (by kernel_rfl) (fun _ _ _ h => h) (Or.inl ⟨by rfl, by intro w hSw; go_simp⟩) (by assumption) ?_
  simp only [Act.put, List.setIfInBounds_toArray, List.set_cons_zero, List.set_cons_succ]
  refine wpAnyH_take (i := 8) (oi := { dst := some 13, op := Op.nilCheck (Operand.tmp 12), type := 217, pos := "operation.go:71", after := #[{ on := 7, ground := Ground.data }], guard := none }) (v := .func (Fn.method "warden/measure.put") #[.iface 213 (.agg #[.int .u32 a, .slice ao 1024 c])] #[]) rfl (by kernel_rfl) (by kernel_rfl) (by kernel_rfl) (fun _ _ _ h => h) (Or.inl ⟨by rfl, by intro w hSw; go_simp⟩) (by assumption) ?_
  simp only [Act.put, List.setIfInBounds_toArray, List.set_cons_zero, List.set_cons_succ]
  refine wpAnyH_take (i := 9) (oi := { dst := some 14, op := Op.move (Operand.tmp 5), type := 172, pos := "operation.go:71", after := #[{ on := 0, ground := Ground.data }, { on := 7, ground := Ground.data }, { on := 8, ground := Ground.data }], guard := none }) (v := .iface 213 (.agg #[.int .u32 a, .slice ao 1024 c])) rfl (by kernel_rfl) (by kernel_rfl) (by kernel_rfl) (fun _ _ _ h => h) (Or.inl ⟨by rfl, by intro w hSw; go_simp⟩) (by assumption) ?_
  simp only [Act.put, List.setIfInBounds_toArray, List.set_cons_zero, List.set_cons_succ]
  refine wpAnyH_ready (rs := [3]) (by kernel_rfl) (by simp) (AllReadyH.cons (o := { dst := some 8, op := Op.call { callee := Callee.value (Operand.func 140), args := #[Operand.tmp 7], argTypes := #[172] }, type := 50, pos := "operation.go:71", after := #[{ on := 2, ground := Ground.data }], guard := none }) rfl (fun KQ hK => ?_) AllReadyH.nil)
  go_simp
  refine (HK.out _).mono ?_
  rintro e w1 ⟨rfl, hw1⟩
  subst w1
  go_wp2_with fail
  refine hK.out _ _ trivial (fun hHeld => ?_)
  clear hK KQ
  try simp only [Act.put, List.setIfInBounds_toArray, List.set_cons_zero, List.set_cons_succ]
  refine wpAnyH_take (i := 4) (oi := { dst := some 9, op := Op.convert 50 43 (Operand.tmp 8), type := 43, pos := "operation.go:71", after := #[{ on := 3, ground := Ground.data }], guard := none }) (v := .int .u32 3) rfl (by kernel_rfl) (by kernel_rfl) (by kernel_rfl) (fun _ _ _ h => h) (Or.inl ⟨by rfl, by intro w hSw; go_simp⟩) (by assumption) ?_
  simp only [Act.put, List.setIfInBounds_toArray, List.set_cons_zero, List.set_cons_succ]
  refine wpAnyH_ready (rs := [5]) (by kernel_rfl) (by simp) (AllReadyH.cons (o := { dst := some 10, op := Op.buildSlice 51 1 #[(0, Operand.tmp 9)], type := 51, pos := "operation.go:71", after := #[{ on := 4, ground := Ground.data }], guard := none }) rfl (fun KQ hK => ?_) AllReadyH.nil)
  go_simp
  have Y1 : Hid (Holds V (w0.alloc (.cells #[.int .u32 3] 43)) .u32 43 (.slice av q cv) L) := hid (Y0.out.alloc _)
  have HS := hid (at_one w0 3)
  clear Y0
  generalize World.alloc _ _ = w1 at *
  generalize w0.heap.size = g1 at *
  refine hK.out _ _ trivial (fun hHeld => ?_)
  clear hK KQ
  try simp only [Act.put, List.setIfInBounds_toArray, List.set_cons_zero, List.set_cons_succ]
  refine wpAnyH_ready (rs := [6]) (by kernel_rfl) (by simp) (AllReadyH.cons (o := { dst := some 11, op := Op.call { callee := Callee.builtin Builtin.append, args := #[Operand.tmp 6, Operand.tmp 10], argTypes := #[51, 51] }, type := 51, pos := "operation.go:71", after := #[{ on := 1, ground := Ground.data }, { on := 5, ground := Ground.data }, { on := 3, ground := Ground.chain }], guard := none }) rfl (fun KQ hK => ?_) AllReadyH.nil)
  rw [if_pos (by rfl)]
  refine wp_append_h _ _ rfl _ L rfl Y1.out _ 1 1 [3] rfl rfl HS.out (by have := HL.out; omega) ?_
  intro v2 w2 hh
  obtain ⟨ao2, c2, hv, _⟩ := hh.at'
  rw [List.length_append, List.length_singleton] at hv
  subst hv
  have Y2 := hid hh
  clear hh Y1 HS
  refine hK.out _ _ trivial (fun hHeld => ?_)
  clear hK KQ
  try simp only [Act.put, List.setIfInBounds_toArray, List.set_cons_zero, List.set_cons_succ]
  refine wpAnyH_ready (rs := [10]) (by kernel_rfl) (by simp) (AllReadyH.cons (o := { dst := some 15, op := Op.call { callee := Callee.invoke (Operand.tmp 14) "warden/measure.put", args := #[Operand.tmp 11], argTypes := #[51] }, type := 51, pos := "operation.go:71", after := #[{ on := 9, ground := Ground.data }, { on := 6, ground := Ground.data }, { on := 6, ground := Ground.chain }], guard := none }) rfl (fun KQ hK => ?_) AllReadyH.nil)
  go_simp
  refine (put_98 V _ _ _ _ _ Y2.out (by have := HL.out; rw [List.length_append]; simp only [List.length_singleton]; omega) a ao c ws HW.out HA.out).mono ?_
  rintro e w3 ⟨v3, rfl, h3⟩
  have Y3 := hid h3
  clear h3 Y2
  go_wp2_with fail
  refine hK.out _ _ trivial (fun hHeld => ?_)
  clear hK KQ
  try simp only [Act.put, List.setIfInBounds_toArray, List.set_cons_zero, List.set_cons_succ]
  refine wpAnyH_ready (rs := [11]) (by kernel_rfl) (by simp) (AllReadyH.cons (o := { dst := some 4, op := Op.assign (Operand.tmp 15), type := 51, pos := "operation.go:71", after := #[{ on := 10, ground := Ground.data }, { on := 10, ground := Ground.chain }, { on := 0, ground := Ground.phase }, { on := 1, ground := Ground.phase }, { on := 2, ground := Ground.phase }, { on := 3, ground := Ground.phase }, { on := 4, ground := Ground.phase }, { on := 5, ground := Ground.phase }, { on := 6, ground := Ground.phase }, { on := 7, ground := Ground.phase }, { on := 8, ground := Ground.phase }, { on := 9, ground := Ground.phase }, { on := 10, ground := Ground.phase }], guard := none }) rfl (fun KQ hK => ?_) AllReadyH.nil)
  go_simp
  refine hK.out _ _ trivial (fun hHeld => ?_)
  clear hK KQ
  try simp only [Act.put, List.setIfInBounds_toArray, List.set_cons_zero, List.set_cons_succ]
  refine wpAnyH_done (by kernel_rfl) ?_ _
  go_wp2_with fail
  go_ret
  refine ⟨_, rfl, ?_⟩
  have := Y3.out
  simpa using this
theorem lay_4 (V W : World) (av : Option Addr) (q cv : Nat) (L : List Int) (H : Holds V W .u32 43 (.slice av q cv) L) (hb : (L.length + 1026) * 4 ≤ 140737488355328) (a : Int) :
    Calls Tryz.prog 108 #[.slice av q cv, .iface 214 (.int .u32 a)] W fun e W' => ∃ v', e = .returned v' ∧ Holds V W' .u32 43 v' (L ++ [4, a]) := by
  have HL := hid hb
  have HK := hid (fun w => kindOf_4 w a)
  have Y0 : Hid (Holds V W.drew .u32 43 (.slice av q cv) L) := hid (holds_drew H)
  clear H hb
  have na : ∀ w, (nilAhead 355 214 (.int .u32 a) "warden/measure.put").run Tryz.prog w = .ok (some false) w := fun w => by kernel_rfl
  have me : ∀ w, (Go.method 355 214 (.int .u32 a) "warden/measure.put").run Tryz.prog w = .ok (186, .int .u32 a) w := fun w => by kernel_rfl
  have kw : IntKind.wrap .u32 4 = 4 := rfl
  go_enter Tryz.func108, Tryz.ntmps108
  go_upto_region 1 with fail
  refine wp_region_held_drew (S := fun _ => True) (by kernel_rfl) trivial (fun hHeld => ?_)
  generalize World.drew _ = w0 at *
  refine wpAnyH_take (i := 0) (oi := { dst := some 5, op := Op.move (Operand.tmp 1), type := 172, pos := "operation.go:71", after := #[], guard := none }) (v := .iface 214 (.int .u32 a)) rfl (by kernel_rfl) (by kernel_rfl) (by kernel_rfl) (fun _ _ _ h => h) (Or.inl ⟨by rfl, by intro w hSw; go_simp⟩) (by assumption) ?_
  simp only [Act.put, List.setIfInBounds_toArray, List.set_cons_zero, List.set_cons_succ]
  refine wpAnyH_take (i := 1) (oi := { dst := some 6, op := Op.move (Operand.tmp 0), type := 51, pos := "operation.go:71", after := #[], guard := none }) (v := .slice av q cv) rfl (by kernel_rfl) (by kernel_rfl) (by kernel_rfl) (fun _ _ _ h => h) (Or.inl ⟨by rfl, by intro w hSw; go_simp⟩) (by assumption) ?_
  simp only [Act.put, List.setIfInBounds_toArray, List.set_cons_zero, List.set_cons_succ]
  refine wpAnyH_take (i := 2) (oi := { dst := some 7, op := Op.move (Operand.tmp 1), type := 172, pos := "operation.go:71", after := #[], guard := none }) (v := .iface 214 (.int .u32 a)) rfl (by kernel_rfl) (by kernel_rfl) (by kernel_rfl) (fun _ _ _ h => h) (Or.inl ⟨by rfl, by intro w hSw; go_simp⟩) (by assumption) ?_
  simp only [Act.put, List.setIfInBounds_toArray, List.set_cons_zero, List.set_cons_succ]
  refine wpAnyH_take (i := 7) (oi := { dst := some 12, op := Op.makeFunc (Fn.method "warden/measure.put") #[Operand.tmp 5] #[], type := 217, pos := "operation.go:71", after := #[{ on := 0, ground := Ground.data }], guard := none }) (v := .func (Fn.method "warden/measure.put") #[.iface 214 (.int .u32 a)] #[]) rfl (by kernel_rfl) (by kernel_rfl) (by kernel_rfl) (fun _ _ _ h => h) (Or.inl ⟨by rfl, by intro w hSw; go_simp⟩) (by assumption) ?_
  simp only [Act.put, List.setIfInBounds_toArray, List.set_cons_zero, List.set_cons_succ]
  refine wpAnyH_take (i := 8) (oi := { dst := some 13, op := Op.nilCheck (Operand.tmp 12), type := 217, pos := "operation.go:71", after := #[{ on := 7, ground := Ground.data }], guard := none }) (v := .func (Fn.method "warden/measure.put") #[.iface 214 (.int .u32 a)] #[]) rfl (by kernel_rfl) (by kernel_rfl) (by kernel_rfl) (fun _ _ _ h => h) (Or.inl ⟨by rfl, by intro w hSw; go_simp⟩) (by assumption) ?_
  simp only [Act.put, List.setIfInBounds_toArray, List.set_cons_zero, List.set_cons_succ]
  refine wpAnyH_take (i := 9) (oi := { dst := some 14, op := Op.move (Operand.tmp 5), type := 172, pos := "operation.go:71", after := #[{ on := 0, ground := Ground.data }, { on := 7, ground := Ground.data }, { on := 8, ground := Ground.data }], guard := none }) (v := .iface 214 (.int .u32 a)) rfl (by kernel_rfl) (by kernel_rfl) (by kernel_rfl) (fun _ _ _ h => h) (Or.inl ⟨by rfl, by intro w hSw; go_simp⟩) (by assumption) ?_
  simp only [Act.put, List.setIfInBounds_toArray, List.set_cons_zero, List.set_cons_succ]
  refine wpAnyH_ready (rs := [3]) (by kernel_rfl) (by simp) (AllReadyH.cons (o := { dst := some 8, op := Op.call { callee := Callee.value (Operand.func 140), args := #[Operand.tmp 7], argTypes := #[172] }, type := 50, pos := "operation.go:71", after := #[{ on := 2, ground := Ground.data }], guard := none }) rfl (fun KQ hK => ?_) AllReadyH.nil)
  go_simp
  refine (HK.out _).mono ?_
  rintro e w1 ⟨rfl, hw1⟩
  subst w1
  go_wp2_with fail
  refine hK.out _ _ trivial (fun hHeld => ?_)
  clear hK KQ
  try simp only [Act.put, List.setIfInBounds_toArray, List.set_cons_zero, List.set_cons_succ]
  refine wpAnyH_take (i := 4) (oi := { dst := some 9, op := Op.convert 50 43 (Operand.tmp 8), type := 43, pos := "operation.go:71", after := #[{ on := 3, ground := Ground.data }], guard := none }) (v := .int .u32 4) rfl (by kernel_rfl) (by kernel_rfl) (by kernel_rfl) (fun _ _ _ h => h) (Or.inl ⟨by rfl, by intro w hSw; go_simp⟩) (by assumption) ?_
  simp only [Act.put, List.setIfInBounds_toArray, List.set_cons_zero, List.set_cons_succ]
  refine wpAnyH_ready (rs := [5]) (by kernel_rfl) (by simp) (AllReadyH.cons (o := { dst := some 10, op := Op.buildSlice 51 1 #[(0, Operand.tmp 9)], type := 51, pos := "operation.go:71", after := #[{ on := 4, ground := Ground.data }], guard := none }) rfl (fun KQ hK => ?_) AllReadyH.nil)
  go_simp
  have Y1 : Hid (Holds V (w0.alloc (.cells #[.int .u32 4] 43)) .u32 43 (.slice av q cv) L) := hid (Y0.out.alloc _)
  have HS := hid (at_one w0 4)
  clear Y0
  generalize World.alloc _ _ = w1 at *
  generalize w0.heap.size = g1 at *
  refine hK.out _ _ trivial (fun hHeld => ?_)
  clear hK KQ
  try simp only [Act.put, List.setIfInBounds_toArray, List.set_cons_zero, List.set_cons_succ]
  refine wpAnyH_ready (rs := [6]) (by kernel_rfl) (by simp) (AllReadyH.cons (o := { dst := some 11, op := Op.call { callee := Callee.builtin Builtin.append, args := #[Operand.tmp 6, Operand.tmp 10], argTypes := #[51, 51] }, type := 51, pos := "operation.go:71", after := #[{ on := 1, ground := Ground.data }, { on := 5, ground := Ground.data }, { on := 3, ground := Ground.chain }], guard := none }) rfl (fun KQ hK => ?_) AllReadyH.nil)
  rw [if_pos (by rfl)]
  refine wp_append_h _ _ rfl _ L rfl Y1.out _ 1 1 [4] rfl rfl HS.out (by have := HL.out; omega) ?_
  intro v2 w2 hh
  obtain ⟨ao2, c2, hv, _⟩ := hh.at'
  rw [List.length_append, List.length_singleton] at hv
  subst hv
  have Y2 := hid hh
  clear hh Y1 HS
  refine hK.out _ _ trivial (fun hHeld => ?_)
  clear hK KQ
  try simp only [Act.put, List.setIfInBounds_toArray, List.set_cons_zero, List.set_cons_succ]
  refine wpAnyH_ready (rs := [10]) (by kernel_rfl) (by simp) (AllReadyH.cons (o := { dst := some 15, op := Op.call { callee := Callee.invoke (Operand.tmp 14) "warden/measure.put", args := #[Operand.tmp 11], argTypes := #[51] }, type := 51, pos := "operation.go:71", after := #[{ on := 9, ground := Ground.data }, { on := 6, ground := Ground.data }, { on := 6, ground := Ground.chain }], guard := none }) rfl (fun KQ hK => ?_) AllReadyH.nil)
  go_simp
  refine (put_99 V _ _ _ _ _ Y2.out (by have := HL.out; rw [List.length_append]; simp only [List.length_singleton]; omega) a).mono ?_
  rintro e w3 ⟨v3, rfl, h3⟩
  have Y3 := hid h3
  clear h3 Y2
  go_wp2_with fail
  refine hK.out _ _ trivial (fun hHeld => ?_)
  clear hK KQ
  try simp only [Act.put, List.setIfInBounds_toArray, List.set_cons_zero, List.set_cons_succ]
  refine wpAnyH_ready (rs := [11]) (by kernel_rfl) (by simp) (AllReadyH.cons (o := { dst := some 4, op := Op.assign (Operand.tmp 15), type := 51, pos := "operation.go:71", after := #[{ on := 10, ground := Ground.data }, { on := 10, ground := Ground.chain }, { on := 0, ground := Ground.phase }, { on := 1, ground := Ground.phase }, { on := 2, ground := Ground.phase }, { on := 3, ground := Ground.phase }, { on := 4, ground := Ground.phase }, { on := 5, ground := Ground.phase }, { on := 6, ground := Ground.phase }, { on := 7, ground := Ground.phase }, { on := 8, ground := Ground.phase }, { on := 9, ground := Ground.phase }, { on := 10, ground := Ground.phase }], guard := none }) rfl (fun KQ hK => ?_) AllReadyH.nil)
  go_simp
  refine hK.out _ _ trivial (fun hHeld => ?_)
  clear hK KQ
  try simp only [Act.put, List.setIfInBounds_toArray, List.set_cons_zero, List.set_cons_succ]
  refine wpAnyH_done (by kernel_rfl) ?_ _
  go_wp2_with fail
  go_ret
  refine ⟨_, rfl, ?_⟩
  have := Y3.out
  simpa using this
end Go.Proofs.YtdfnbcbnmiohnaaGreatDoor.Q
