import Derived.Test.YtllcbgdcepfdkaaGreatDoorP26
import Derived.Laws.StructEq
import Derived.Lib.SlBytesConst
import Derived.Test.YtllcbgdcepfdkaaGreatDoorP25
import Derived.Deep.DeepCutAuto
import Derived.OwnWalk
namespace Go.Proofs.YtllcbgdcepfdkaaGreatDoor.H
open Go.RowKit

theorem all_range_eq' : ∀ (xs ys : List Int), xs.length = ys.length → ((List.range xs.length).all fun i => xs.getD i 0 == ys.getD i 0) = decide (xs = ys)
  | [], [], _ => rfl
  | x :: xs, y :: ys, h => by
    have ih := all_range_eq' xs ys (by simpa using h)
    rw [List.length_cons, List.range_succ_eq_map, List.all_cons, List.all_map]
    simp only [List.getD_cons_zero, Function.comp_def, List.getD_cons_succ, ih]
    rw [Bool.eq_iff_iff]
    simp
  | [], _ :: _, h => by simp at h
  | _ :: _, [], h => by simp at h
theorem run_equalIn_words {P : Program} (w : World) (d : Nat) (t e : TypeId) (n : Nat) (ht : P.underlying t = some (.array n e)) (he : P.underlying e = some (.int .u32)) (hsz : ∀ w, (sizeOf e).run P w = .ok 1 w)
    (xs ys : List Int) (hx : xs.length = n) (hy : ys.length = n) :
    (Op.equalIn (d + 2) t (.agg (xs.map (Value.int .u32)).toArray) (.agg (ys.map (Value.int .u32)).toArray)).run P w = .ok (decide (xs = ys)) w := by
  rw [← all_range_eq' xs ys (hx.trans hy.symm), hx, List.range_eq_range', Op.equalIn]
  simp only [Sem.run_bind, run_underlying ht, Result.andThen_ok, hsz, Std.Legacy.Range.forIn_eq_forIn_range', Std.Legacy.Range.size, Nat.sub_zero, Nat.add_sub_cancel, Nat.div_one]
  have hl : ∀ i ∈ List.range' 0 n 1, i < n := fun i hi => by simpa using (List.mem_range'_1.1 hi).2
  generalize List.range' 0 n 1 = l at hl ⊢
  induction l with
  | nil => simp
  | cons i l ih =>
    have hi : i < n := hl i (by simp)
    have px : (part e (xs.map (Value.int .u32)).toArray (i * 1)).run P w = .ok (.int .u32 (xs.getD i 0)) w := by
      simp [part, isAgg, run_underlying he, List.getD, List.getElem?_eq_getElem (show i < xs.length by omega)]
    have py : (part e (ys.map (Value.int .u32)).toArray (i * 1)).run P w = .ok (.int .u32 (ys.getD i 0)) w := by
      simp [part, isAgg, run_underlying he, List.getD, List.getElem?_eq_getElem (show i < ys.length by omega)]
    have pe : (Op.equalIn (d + 1) e (.int .u32 (xs.getD i 0)) (.int .u32 (ys.getD i 0))).run P w = .ok (xs.getD i 0 == ys.getD i 0) w := by
      rw [run_equalIn_int w d e .u32 .u32 _ _ he]
    simp only [List.forIn_cons, Sem.run_bind, px, py, pe, Result.andThen_ok, List.all_cons]
    cases hb : (xs.getD i 0 == ys.getD i 0)
    · simp
    · simp only [Bool.not_true, Bool.false_eq_true, if_false, Sem.run_pure, Result.andThen_ok, Bool.true_and]
      exact ih fun j hj => hl j (by simp [hj])
theorem eq27 (xs ys : List Int) (hx : xs.length = 8) (hy : ys.length = 8) (w : World) : (Op.equalIn 10000 56 (.agg (xs.map (Value.int .u32)).toArray) (.agg (ys.map (Value.int .u32)).toArray)).run Tryz.prog w = .ok (decide (xs = ys)) w :=
  run_equalIn_words w 9998 56 29 8 Tryz.underlying56 Tryz.underlying29 Tryz.sizeOf29 xs ys hx hy

end Go.Proofs.YtllcbgdcepfdkaaGreatDoor.H
namespace Go.Proofs.YtllcbgdcepfdkaaGreatDoor.H
open Go.RowKit

theorem Holds.alloc {W wr : World} {k : IntKind} {e : TypeId} {v : Value} {L : List Int} (h : Holds W wr k e v L) (o : Obj) : Holds W (wr.alloc o) k e v L := ⟨h.own.alloc o, h.below.alloc h.below.size o⟩
def byteW (x : Int) : List Int := [x / 16777216 % 256, x / 65536 % 256, x / 256 % 256, x % 256]
def bytesD (xs : List Int) : List Int := (xs.map byteW).flatten
end Go.Proofs.YtllcbgdcepfdkaaGreatDoor.H
namespace Go.Proofs.YtllcbgdcepfdkaaGreatDoor.Q
open Go.RowKit
open Go.Proofs.YtllcbgdcepfdkaaGreatDoor.H
set_option maxHeartbeats 4000000
set_option maxRecDepth 100000
theorem hid {p : Prop} (h : p) : Hid p := h
theorem below_on {X w w' : World} (h : Below X.heap.size X w) (k : Below w.heap.size w w') : Below X.heap.size X w' := h.trans (k.mono h.size)
/-- An operation: its kind's number, its word, its words. -/
structure MOp where
  k : Int
  a : Int
  ws : List Int
/-- How many words an operation of that kind has. -/
def pgN (k : Int) : Nat := if k = 3 then 1024 else 0
/-- It is one. -/
def MOp.Ok (o : MOp) : Prop := 1 ≤ o.k ∧ o.k ≤ 4 ∧ o.ws.length = pgN o.k
instance (o : MOp) : Decidable o.Ok := by unfold MOp.Ok; infer_instance
/-- Its words. -/
def MOp.wds (o : MOp) : List Int := o.k :: o.a :: o.ws
/-- As a value, its words there. -/
def MOp.v (o : MOp) (ao : Option Addr) (c : Nat) : Value := .agg #[.int .i64 o.k, .int .u32 o.a, .slice ao o.ws.length c]
/-- Behind the interface. -/
def ivk (k a : Int) (ao : Option Addr) (n c : Nat) : Value := if k = 1 then .iface 259 (.int .u32 a) else if k = 2 then .iface 260 (.int .u32 a) else if k = 3 then .iface 262 (.agg #[.int .u32 a, .slice ao n c]) else .iface 263 (.int .u32 a)
def MOp.iv (o : MOp) (ao : Option Addr) (c : Nat) : Value := ivk o.k o.a ao o.ws.length c
theorem Tryz.ta112 (v : Value) (w : World) : (Instr.typeAssert (.iface 259 v) 190 259 true).run Tryz.prog w = .ok (.tuple #[v, .bool true]) w := by kernel_rfl
theorem Tryz.ta113 (v : Value) (w : World) : (Instr.typeAssert (.iface 260 v) 190 260 true).run Tryz.prog w = .ok (.tuple #[v, .bool true]) w := by kernel_rfl
theorem Tryz.ta113_112 (v : Value) (w : World) : (Instr.typeAssert (.iface 260 v) 190 259 true).run Tryz.prog w = .ok (.tuple #[.int .u32 0, .bool false]) w := by kernel_rfl
theorem Tryz.ta115_112 (v : Value) (w : World) : (Instr.typeAssert (.iface 262 v) 190 259 true).run Tryz.prog w = .ok (.tuple #[.int .u32 0, .bool false]) w := by kernel_rfl
theorem Tryz.ta115_113 (v : Value) (w : World) : (Instr.typeAssert (.iface 262 v) 190 260 true).run Tryz.prog w = .ok (.tuple #[.int .u32 0, .bool false]) w := by kernel_rfl
theorem Tryz.ta115 (v : Value) (w : World) : (Instr.typeAssert (.iface 262 v) 190 262 true).run Tryz.prog w = .ok (.tuple #[v, .bool true]) w := by kernel_rfl
theorem Tryz.ta116_112 (v : Value) (w : World) : (Instr.typeAssert (.iface 263 v) 190 259 true).run Tryz.prog w = .ok (.tuple #[.int .u32 0, .bool false]) w := by kernel_rfl
theorem Tryz.ta116_113 (v : Value) (w : World) : (Instr.typeAssert (.iface 263 v) 190 260 true).run Tryz.prog w = .ok (.tuple #[.int .u32 0, .bool false]) w := by kernel_rfl
theorem Tryz.ta116_115 (v : Value) (w : World) : (Instr.typeAssert (.iface 263 v) 190 262 true).run Tryz.prog w = .ok (.tuple #[.agg #[.int .u32 0, .slice none 0 0], .bool false]) w := by kernel_rfl
theorem Tryz.ta116 (v : Value) (w : World) : (Instr.typeAssert (.iface 263 v) 190 263 true).run Tryz.prog w = .ok (.tuple #[v, .bool true]) w := by kernel_rfl
theorem pageOf_any (W : World) (k : Int) : Calls Tryz.prog 178 #[.int .i64 k] W fun e w => e = .returned (.int .i64 (pgN k : Int)) ∧ W = w := by
  by_cases h : k = 3
  · subst h
    go_enter Tryz.func178, Tryz.ntmps178
    go_wp2_with fail
    go_ret
    exact ⟨rfl, rfl⟩
  · have e : pgN k = 0 := if_neg h
    have h' : (k == 3) = false := by simpa using h
    rw [e]
    clear h e
    go_enter Tryz.func178, Tryz.ntmps178
    go_wp2_with fail
    go_ret
    exact ⟨rfl, rfl⟩
theorem kindOf_1 (W : World) (a : Int) : Calls Tryz.prog 180 #[.iface 259 (.int .u32 a)] W fun e w => e = .returned (.int .i64 1) ∧ W = w := by
  have t1 := fun w => Tryz.ta112 (.int .u32 a) w
  go_enter Tryz.func180, Tryz.ntmps180
  go_wp2_with fail
  go_ret
  exact ⟨rfl, rfl⟩
theorem kindOf_2 (W : World) (a : Int) : Calls Tryz.prog 180 #[.iface 260 (.int .u32 a)] W fun e w => e = .returned (.int .i64 2) ∧ W = w := by
  have t1 := fun w => Tryz.ta113_112 (.int .u32 a) w
  have t2 := fun w => Tryz.ta113 (.int .u32 a) w
  go_enter Tryz.func180, Tryz.ntmps180
  go_wp2_with fail
  go_ret
  exact ⟨rfl, rfl⟩
theorem kindOf_3 (W : World) (a : Int) (ao : Option Addr) (n c : Nat) : Calls Tryz.prog 180 #[.iface 262 (.agg #[.int .u32 a, .slice ao n c])] W fun e w => e = .returned (.int .i64 3) ∧ W = w := by
  have t1 := fun w => Tryz.ta115_112 (.agg #[.int .u32 a, .slice ao n c]) w
  have t2 := fun w => Tryz.ta115_113 (.agg #[.int .u32 a, .slice ao n c]) w
  have t3 := fun w => Tryz.ta115 (.agg #[.int .u32 a, .slice ao n c]) w
  go_enter Tryz.func180, Tryz.ntmps180
  go_wp2_with fail
  go_ret
  exact ⟨rfl, rfl⟩
theorem kindOf_4 (W : World) (a : Int) : Calls Tryz.prog 180 #[.iface 263 (.int .u32 a)] W fun e w => e = .returned (.int .i64 4) ∧ W = w := by
  have t1 := fun w => Tryz.ta116_112 (.int .u32 a) w
  have t2 := fun w => Tryz.ta116_113 (.int .u32 a) w
  have t3 := fun w => Tryz.ta116_115 (.int .u32 a) w
  have t4 := fun w => Tryz.ta116 (.int .u32 a) w
  go_enter Tryz.func180, Tryz.ntmps180
  go_wp2_with fail
  go_ret
  exact ⟨rfl, rfl⟩
theorem holds_drew {V W : World} {v : Value} {L : List Int} (H : Holds V W .u32 29 v L) : Holds V W.drew .u32 29 v L := ⟨H.own, H.below.drew⟩
theorem at_one (W : World) (x : Int) : At (W.alloc (.cells #[.int .u32 x] 29)) .u32 (some ⟨W.heap.size, 0, none⟩) [x] := (Blk.new W .u32 29 [x]).at
/-- append onto a list of the call's own: one operation. -/
theorem run_append_h {V w : World} (ty : TypeId) {v : Value} {L : List Int} (H : Holds V w .u32 29 v L) (ad : Addr) (m c : Nat) (xs : List Int) (hl : xs.length = m) (hat : At w .u32 (some ad) xs) (hb : (L.length + m) * 4 ≤ 140737488355328) :
    ∃ v' w', (Builtin.append_ #[52, 52] ty #[v, .slice (some ad) m c]).run Tryz.prog w = .ok v' w' ∧ Holds V w' .u32 29 v' (L ++ xs) := by
  obtain ⟨i, hi, hz, hsize, hby⟩ := info_parts Tryz.info29
  obtain ⟨v', w', hr, h1, h2, _⟩ := run_append_own (P := Tryz.prog) w V.heap.size 52 ty 29 i (.int .u32 0) 1 4 Tryz.underlying52 hi hz hsize hby rfl (by decide) v L.length _ H.own ad m c (xs.map (Value.int .u32)) (by simp [hl]) hat.cells (ints_oneCell .u32 xs) (by unfold maxLen; omega) hb H.below.size
  exact ⟨v', w', hr, Holds.grow H.below (fun g hg => (H.own.lt g hg).1) h1 h2 (by simp [hl]) (by simp)⟩
theorem wp_append_h {V w : World} {o : Oper} {a : Act} {K : Act → World → Prop} {Q : Exit → Act → World → Prop} (s x : Operand)
    (ho : o.op = .call { callee := .builtin .append, args := #[s, x], argTypes := #[52, 52] }) (v : Value) (L : List Int) (hs : a.eval s = v) (H : Holds V w .u32 29 v L) (ad : Addr) (m c : Nat) (xs : List Int) (hx : a.eval x = .slice (some ad) m c) (hl : xs.length = m) (hat : At w .u32 (some ad) xs) (hb : (L.length + m) * 4 ≤ 140737488355328)
    (h : ∀ v' w', Holds V w' .u32 29 v' (L ++ xs) → K (a.put o.dst v') w') : o.wp Tryz.prog a w K Q := by
  obtain ⟨v', w', hr, hH⟩ := run_append_h o.type H ad m c xs hl hat hb
  unfold Oper.wp execOp
  simp only [ho, resolve, invoke, builtin, Sem.run_bind, Sem.run_pure, Result.andThen_ok, List.map_toArray, List.map_cons, List.map_nil, hs, hx, hr]
  exact h _ _ hH
theorem wpList_append_h {V w : World} {ops : Array Oper} {rest : List Oper} {o : Oper} {a : Act} {Q : Exit → Act → World → Prop} (hgd : o.guard = none) (s x : Operand)
    (ho : o.op = .call { callee := .builtin .append, args := #[s, x], argTypes := #[52, 52] }) (v : Value) (L : List Int) (hs : a.eval s = v) (H : Holds V w .u32 29 v L) (ad : Addr) (m c : Nat) (xs : List Int) (hx : a.eval x = .slice (some ad) m c) (hl : xs.length = m) (hat : At w .u32 (some ad) xs) (hb : (L.length + m) * 4 ≤ 140737488355328)
    (h : ∀ v' w', Holds V w' .u32 29 v' (L ++ xs) → wpList Tryz.prog ops Q rest (a.put o.dst v') w') : wpList Tryz.prog ops Q (o :: rest) a w := by
  refine wpList_plain hgd fun K hK => ?_
  exact wp_append_h s x ho v L hs H ad m c xs hx hl hat hb (fun v' w' hh => hK _ _ (h v' w' hh))
theorem put_96 (V W : World) (ao : Option Addr) (q c : Nat) (L : List Int) (H : Holds V W .u32 29 (.slice ao q c) L) (hb : (L.length + 1) * 4 ≤ 140737488355328) (a : Int) :
    Calls Tryz.prog 268 #[.int .u32 a, .slice ao q c] W fun e W' => ∃ v', e = .returned v' ∧ Holds V W' .u32 29 v' (L ++ [a]) := by
  have HH := hid (H.alloc (.cells #[.int .u32 a] 29))
  have HA := hid (at_one W a)
  have HL := hid hb
  clear H hb
  go_enter Tryz.func268, Tryz.ntmps268
  go_wp2_with (at_builtin; refine wpList_append_h rfl _ _ rfl _ L rfl HH.out _ 1 1 [a] rfl rfl HA.out HL.out ?_; intro v1 w1 h1; have H1 := hid h1; clear h1)
  go_ret
  exact ⟨_, rfl, H1.out⟩
theorem put_97 (V W : World) (ao : Option Addr) (q c : Nat) (L : List Int) (H : Holds V W .u32 29 (.slice ao q c) L) (hb : (L.length + 1) * 4 ≤ 140737488355328) (a : Int) :
    Calls Tryz.prog 269 #[.int .u32 a, .slice ao q c] W fun e W' => ∃ v', e = .returned v' ∧ Holds V W' .u32 29 v' (L ++ [a]) := by
  have HH := hid (H.alloc (.cells #[.int .u32 a] 29))
  have HA := hid (at_one W a)
  have HL := hid hb
  clear H hb
  go_enter Tryz.func269, Tryz.ntmps269
  go_wp2_with (at_builtin; refine wpList_append_h rfl _ _ rfl _ L rfl HH.out _ 1 1 [a] rfl rfl HA.out HL.out ?_; intro v1 w1 h1; have H1 := hid h1; clear h1)
  go_ret
  exact ⟨_, rfl, H1.out⟩
theorem put_99 (V W : World) (ao : Option Addr) (q c : Nat) (L : List Int) (H : Holds V W .u32 29 (.slice ao q c) L) (hb : (L.length + 1) * 4 ≤ 140737488355328) (a : Int) :
    Calls Tryz.prog 271 #[.int .u32 a, .slice ao q c] W fun e W' => ∃ v', e = .returned v' ∧ Holds V W' .u32 29 v' (L ++ [a]) := by
  have HH := hid (H.alloc (.cells #[.int .u32 a] 29))
  have HA := hid (at_one W a)
  have HL := hid hb
  clear H hb
  go_enter Tryz.func271, Tryz.ntmps271
  go_wp2_with (at_builtin; refine wpList_append_h rfl _ _ rfl _ L rfl HH.out _ 1 1 [a] rfl rfl HA.out HL.out ?_; intro v1 w1 h1; have H1 := hid h1; clear h1)
  go_ret
  exact ⟨_, rfl, H1.out⟩
end Go.Proofs.YtllcbgdcepfdkaaGreatDoor.Q
