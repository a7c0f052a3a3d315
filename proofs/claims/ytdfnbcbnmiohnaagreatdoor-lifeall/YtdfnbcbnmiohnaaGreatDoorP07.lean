import Derived.Test.YtdfnbcbnmiohnaaGreatDoorP06
import Derived.Test.YtdfnbcbnmiohnaaGreatDoorP04
import Derived.Deep.DeepCutAuto
import Derived.OwnWalk
import Derived.Test.YtdfnbcbnmiohnaaGreatDoorP01
namespace Go.Proofs.YtdfnbcbnmiohnaaGreatDoor.Q
open Go.RowKit
open Go.Proofs.YtdfnbcbnmiohnaaGreatDoor.H
set_option maxHeartbeats 4000000
set_option maxRecDepth 100000
theorem hid {p : Prop} (h : p) : Hid p := h
theorem below_on {X w w' : World} (h : Below X.heap.size X w) (k : Below w.heap.size w w') : Below X.heap.size X w' := h.trans (k.mono h.size)
structure MOp where
  k : Int
  a : Int
  ws : List Int
def pgN (k : Int) : Nat := if k = 3 then 1024 else 0
def MOp.Ok (o : MOp) : Prop := 1 ≤ o.k ∧ o.k ≤ 4 ∧ o.ws.length = pgN o.k
instance (o : MOp) : Decidable o.Ok := by unfold MOp.Ok; infer_instance
def MOp.wds (o : MOp) : List Int := o.k :: o.a :: o.ws
def MOp.v (o : MOp) (ao : Option Addr) (c : Nat) : Value := .agg #[.int .i64 o.k, .int .u32 o.a, .slice ao o.ws.length c]
def ivk (k a : Int) (ao : Option Addr) (n c : Nat) : Value := if k = 1 then .iface 210 (.int .u32 a) else if k = 2 then .iface 211 (.int .u32 a) else if k = 3 then .iface 213 (.agg #[.int .u32 a, .slice ao n c]) else .iface 214 (.int .u32 a)
def MOp.iv (o : MOp) (ao : Option Addr) (c : Nat) : Value := ivk o.k o.a ao o.ws.length c
theorem Tryz.ta112 (v : Value) (w : World) : (Instr.typeAssert (.iface 210 v) 172 210 true).run Tryz.prog w = .ok (.tuple #[v, .bool true]) w := by kernel_rfl
theorem Tryz.ta113 (v : Value) (w : World) : (Instr.typeAssert (.iface 211 v) 172 211 true).run Tryz.prog w = .ok (.tuple #[v, .bool true]) w := by kernel_rfl
theorem Tryz.ta113_112 (v : Value) (w : World) : (Instr.typeAssert (.iface 211 v) 172 210 true).run Tryz.prog w = .ok (.tuple #[.int .u32 0, .bool false]) w := by kernel_rfl
theorem Tryz.ta115_112 (v : Value) (w : World) : (Instr.typeAssert (.iface 213 v) 172 210 true).run Tryz.prog w = .ok (.tuple #[.int .u32 0, .bool false]) w := by kernel_rfl
theorem Tryz.ta115_113 (v : Value) (w : World) : (Instr.typeAssert (.iface 213 v) 172 211 true).run Tryz.prog w = .ok (.tuple #[.int .u32 0, .bool false]) w := by kernel_rfl
theorem Tryz.ta115 (v : Value) (w : World) : (Instr.typeAssert (.iface 213 v) 172 213 true).run Tryz.prog w = .ok (.tuple #[v, .bool true]) w := by kernel_rfl
theorem Tryz.ta116_112 (v : Value) (w : World) : (Instr.typeAssert (.iface 214 v) 172 210 true).run Tryz.prog w = .ok (.tuple #[.int .u32 0, .bool false]) w := by kernel_rfl
theorem Tryz.ta116_113 (v : Value) (w : World) : (Instr.typeAssert (.iface 214 v) 172 211 true).run Tryz.prog w = .ok (.tuple #[.int .u32 0, .bool false]) w := by kernel_rfl
theorem Tryz.ta116_115 (v : Value) (w : World) : (Instr.typeAssert (.iface 214 v) 172 213 true).run Tryz.prog w = .ok (.tuple #[.agg #[.int .u32 0, .slice none 0 0], .bool false]) w := by kernel_rfl
theorem Tryz.ta116 (v : Value) (w : World) : (Instr.typeAssert (.iface 214 v) 172 214 true).run Tryz.prog w = .ok (.tuple #[v, .bool true]) w := by kernel_rfl
theorem pageOf_any (W : World) (k : Int) : Calls Tryz.prog 138 #[.int .i64 k] W fun e w => e = .returned (.int .i64 (pgN k : Int)) ∧ W = w := by
  by_cases h : k = 3
  · subst h
    go_enter Tryz.func138, Tryz.ntmps138
    go_wp2_with fail
    go_ret
    exact ⟨rfl, rfl⟩
  · have e : pgN k = 0 := if_neg h
    have h' : (k == 3) = false := by simpa using h
    rw [e]
    clear h e
    go_enter Tryz.func138, Tryz.ntmps138
    go_wp2_with fail
    go_ret
    exact ⟨rfl, rfl⟩
theorem kindOf_1 (W : World) (a : Int) : Calls Tryz.prog 140 #[.iface 210 (.int .u32 a)] W fun e w => e = .returned (.int .i64 1) ∧ W = w := by
  have t1 := fun w => Tryz.ta112 (.int .u32 a) w
  go_enter Tryz.func140, Tryz.ntmps140
  go_wp2_with fail
  go_ret
  exact ⟨rfl, rfl⟩
theorem kindOf_2 (W : World) (a : Int) : Calls Tryz.prog 140 #[.iface 211 (.int .u32 a)] W fun e w => e = .returned (.int .i64 2) ∧ W = w := by
  have t1 := fun w => Tryz.ta113_112 (.int .u32 a) w
  have t2 := fun w => Tryz.ta113 (.int .u32 a) w
  go_enter Tryz.func140, Tryz.ntmps140
  go_wp2_with fail
  go_ret
  exact ⟨rfl, rfl⟩
theorem kindOf_3 (W : World) (a : Int) (ao : Option Addr) (n c : Nat) : Calls Tryz.prog 140 #[.iface 213 (.agg #[.int .u32 a, .slice ao n c])] W fun e w => e = .returned (.int .i64 3) ∧ W = w := by
  have t1 := fun w => Tryz.ta115_112 (.agg #[.int .u32 a, .slice ao n c]) w
  have t2 := fun w => Tryz.ta115_113 (.agg #[.int .u32 a, .slice ao n c]) w
  have t3 := fun w => Tryz.ta115 (.agg #[.int .u32 a, .slice ao n c]) w
  go_enter Tryz.func140, Tryz.ntmps140
  go_wp2_with fail
  go_ret
  exact ⟨rfl, rfl⟩
theorem kindOf_4 (W : World) (a : Int) : Calls Tryz.prog 140 #[.iface 214 (.int .u32 a)] W fun e w => e = .returned (.int .i64 4) ∧ W = w := by
  have t1 := fun w => Tryz.ta116_112 (.int .u32 a) w
  have t2 := fun w => Tryz.ta116_113 (.int .u32 a) w
  have t3 := fun w => Tryz.ta116_115 (.int .u32 a) w
  have t4 := fun w => Tryz.ta116 (.int .u32 a) w
  go_enter Tryz.func140, Tryz.ntmps140
  go_wp2_with fail
  go_ret
  exact ⟨rfl, rfl⟩
theorem holds_drew {V W : World} {v : Value} {L : List Int} (H : Holds V W .u32 43 v L) : Holds V W.drew .u32 43 v L := ⟨H.own, H.below.drew⟩
theorem at_one (W : World) (x : Int) : At (W.alloc (.cells #[.int .u32 x] 43)) .u32 (some ⟨W.heap.size, 0, none⟩) [x] := (Blk.new W .u32 43 [x]).at
theorem run_append_h {V w : World} (ty : TypeId) {v : Value} {L : List Int} (H : Holds V w .u32 43 v L) (ad : Addr) (m c : Nat) (xs : List Int) (hl : xs.length = m) (hat : At w .u32 (some ad) xs) (hb : (L.length + m) * 4 ≤ 140737488355328) :
    ∃ v' w', (Builtin.append_ #[51, 51] ty #[v, .slice (some ad) m c]).run Tryz.prog w = .ok v' w' ∧ Holds V w' .u32 43 v' (L ++ xs) := by
  obtain ⟨i, hi, hz, hsize, hby⟩ := info_parts Tryz.info43
  obtain ⟨v', w', hr, h1, h2, _⟩ := run_append_own (P := Tryz.prog) w V.heap.size 51 ty 43 i (.int .u32 0) 1 4 Tryz.underlying51 hi hz hsize hby rfl (by decide) v L.length _ H.own ad m c (xs.map (Value.int .u32)) (by simp [hl]) hat.cells (ints_oneCell .u32 xs) (by unfold maxLen; omega) hb H.below.size
  exact ⟨v', w', hr, Holds.grow H.below (fun g hg => (H.own.lt g hg).1) h1 h2 (by simp [hl]) (by simp)⟩
theorem wp_append_h {V w : World} {o : Oper} {a : Act} {K : Act → World → Prop} {Q : Exit → Act → World → Prop} (s x : Operand)
    (ho : o.op = .call { callee := .builtin .append, args := #[s, x], argTypes := #[51, 51] }) (v : Value) (L : List Int) (hs : a.eval s = v) (H : Holds V w .u32 43 v L) (ad : Addr) (m c : Nat) (xs : List Int) (hx : a.eval x = .slice (some ad) m c) (hl : xs.length = m) (hat : At w .u32 (some ad) xs) (hb : (L.length + m) * 4 ≤ 140737488355328)
    (h : ∀ v' w', Holds V w' .u32 43 v' (L ++ xs) → K (a.put o.dst v') w') : o.wp Tryz.prog a w K Q := by
  obtain ⟨v', w', hr, hH⟩ := run_append_h o.type H ad m c xs hl hat hb
  unfold Oper.wp execOp
  simp only [ho, resolve, invoke, builtin, Sem.run_bind, Sem.run_pure, Result.andThen_ok, List.map_toArray, List.map_cons, List.map_nil, hs, hx, hr]
  exact h _ _ hH
theorem wpList_append_h {V w : World} {ops : Array Oper} {rest : List Oper} {o : Oper} {a : Act} {Q : Exit → Act → World → Prop} (hgd : o.guard = none) (s x : Operand)
    (ho : o.op = .call { callee := .builtin .append, args := #[s, x], argTypes := #[51, 51] }) (v : Value) (L : List Int) (hs : a.eval s = v) (H : Holds V w .u32 43 v L) (ad : Addr) (m c : Nat) (xs : List Int) (hx : a.eval x = .slice (some ad) m c) (hl : xs.length = m) (hat : At w .u32 (some ad) xs) (hb : (L.length + m) * 4 ≤ 140737488355328)
    (h : ∀ v' w', Holds V w' .u32 43 v' (L ++ xs) → wpList Tryz.prog ops Q rest (a.put o.dst v') w') : wpList Tryz.prog ops Q (o :: rest) a w := by
  refine wpList_plain hgd fun K hK => ?_
  exact wp_append_h s x ho v L hs H ad m c xs hx hl hat hb (fun v' w' hh => hK _ _ (h v' w' hh))
theorem put_96 (V W : World) (ao : Option Addr) (q c : Nat) (L : List Int) (H : Holds V W .u32 43 (.slice ao q c) L) (hb : (L.length + 1) * 4 ≤ 140737488355328) (a : Int) :
    Calls Tryz.prog 183 #[.int .u32 a, .slice ao q c] W fun e W' => ∃ v', e = .returned v' ∧ Holds V W' .u32 43 v' (L ++ [a]) := by
  have HH := hid (H.alloc (.cells #[.int .u32 a] 43))
  have HA := hid (at_one W a)
  have HL := hid hb
  clear H hb
  go_enter Tryz.func183, Tryz.ntmps183
  go_wp2_with (at_builtin; refine wpList_append_h rfl _ _ rfl _ L rfl HH.out _ 1 1 [a] rfl rfl HA.out HL.out ?_; intro v1 w1 h1; have H1 := hid h1; clear h1)
  go_ret
  exact ⟨_, rfl, H1.out⟩
theorem put_97 (V W : World) (ao : Option Addr) (q c : Nat) (L : List Int) (H : Holds V W .u32 43 (.slice ao q c) L) (hb : (L.length + 1) * 4 ≤ 140737488355328) (a : Int) :
    Calls Tryz.prog 184 #[.int .u32 a, .slice ao q c] W fun e W' => ∃ v', e = .returned v' ∧ Holds V W' .u32 43 v' (L ++ [a]) := by
  have HH := hid (H.alloc (.cells #[.int .u32 a] 43))
  have HA := hid (at_one W a)
  have HL := hid hb
  clear H hb
  go_enter Tryz.func184, Tryz.ntmps184
  go_wp2_with (at_builtin; refine wpList_append_h rfl _ _ rfl _ L rfl HH.out _ 1 1 [a] rfl rfl HA.out HL.out ?_; intro v1 w1 h1; have H1 := hid h1; clear h1)
  go_ret
  exact ⟨_, rfl, H1.out⟩
theorem put_99 (V W : World) (ao : Option Addr) (q c : Nat) (L : List Int) (H : Holds V W .u32 43 (.slice ao q c) L) (hb : (L.length + 1) * 4 ≤ 140737488355328) (a : Int) :
    Calls Tryz.prog 186 #[.int .u32 a, .slice ao q c] W fun e W' => ∃ v', e = .returned v' ∧ Holds V W' .u32 43 v' (L ++ [a]) := by
  have HH := hid (H.alloc (.cells #[.int .u32 a] 43))
  have HA := hid (at_one W a)
  have HL := hid hb
  clear H hb
  go_enter Tryz.func186, Tryz.ntmps186
  go_wp2_with (at_builtin; refine wpList_append_h rfl _ _ rfl _ L rfl HH.out _ 1 1 [a] rfl rfl HA.out HL.out ?_; intro v1 w1 h1; have H1 := hid h1; clear h1)
  go_ret
  exact ⟨_, rfl, H1.out⟩
open Go.Proofs.YtdfnbcbnmiohnaaGreatDoor.H
set_option maxHeartbeats 4000000
set_option maxRecDepth 100000
theorem run_append_k {V w : World} (ty : TypeId) {v : Value} {L : List Int} (H : Holds V w .u32 43 v L) (ad : Addr) (m c : Nat) (xs : List Int) (hl : xs.length = m) (hat : At w .u32 (some ad) xs) (hb : (L.length + m) * 4 ≤ 140737488355328) {g t : Nat} {cs : List Value} (hc : Cel w g t cs) (ht : t ≠ 43) :
    ∃ v' w', (Builtin.append_ #[51, 51] ty #[v, .slice (some ad) m c]).run Tryz.prog w = .ok v' w' ∧ Holds V w' .u32 43 v' (L ++ xs) ∧ Cel w' g t cs := by
  obtain ⟨i, hi, hz, hsize, hby⟩ := info_parts Tryz.info43
  obtain ⟨v', w', hr, h1, h2, _⟩ := run_append_own (P := Tryz.prog) w V.heap.size 51 ty 43 i (.int .u32 0) 1 4 Tryz.underlying51 hi hz hsize hby rfl (by decide) v L.length _ H.own ad m c (xs.map (Value.int .u32)) (by simp [hl]) hat.cells (ints_oneCell .u32 xs) (by unfold maxLen; omega) hb H.below.size
  refine ⟨v', w', hr, Holds.grow H.below (fun g hg => (H.own.lt g hg).1) h1 h2 (by simp [hl]) (by simp), ?_⟩
  refine (h2.block g hc.lt ?_).trans hc
  intro he
  rcases H.own.2 with ⟨rfl, _⟩ | ⟨gg, cap, cur, rfl, hg, hh, r⟩
  · cases he
  · have : gg = g := Option.some.inj he.symm
    subst this
    have h3 := hc.symm.trans hh
    have h4 := Option.some.inj h3
    injection h4 with _ h5
    exact ht h5
theorem wp_append_r {w w' : World} {o : Oper} {a : Act} {K : Act → World → Prop} {Q : Exit → Act → World → Prop} (s x : Operand) (ho : o.op = .call { callee := .builtin .append, args := #[s, x], argTypes := #[51, 51] }) (v : Value) (hs : a.eval s = v) (vx : Value) (hx : a.eval x = vx) {v' : Value}
    (hr : (Builtin.append_ #[51, 51] o.type #[v, vx]).run Tryz.prog w = .ok v' w') (h : K (a.put o.dst v') w') : o.wp Tryz.prog a w K Q := by
  unfold Oper.wp execOp
  simp only [ho, resolve, invoke, builtin, Sem.run_bind, Sem.run_pure, Result.andThen_ok, List.map_toArray, List.map_cons, List.map_nil, hs, hx, hr]
  exact h
theorem put_98 (V W : World) (av : Option Addr) (q cv : Nat) (L : List Int) (H : Holds V W .u32 43 (.slice av q cv) L) (hb : (L.length + 1025) * 4 ≤ 140737488355328) (a : Int) (ao : Option Addr) (c : Nat) (ws : List Int) (hw : ws.length = 1024) (hat : At V .u32 ao ws) :
    Calls Tryz.prog 185 #[.agg #[.int .u32 a, .slice ao 1024 c], .slice av q cv] W fun e W' => ∃ v', e = .returned v' ∧ Holds V W' .u32 43 v' (L ++ [a] ++ ws) := by
  obtain ⟨ad, rfl⟩ : ∃ ad, ao = some ad := by
    rcases hat with h0 | ⟨b, off, h1, _⟩
    · rw [h0] at hw; cases hw
    · exact ⟨_, h1⟩
  have X0 : Hid (Holds V (W.alloc (.cells #[.int .u32 a, .slice (some ad) 1024 c] 213)) .u32 43 (.slice av q cv) L ∧ Cel (W.alloc (.cells #[.int .u32 a, .slice (some ad) 1024 c] 213)) W.heap.size 213 [.int .u32 a, .slice (some ad) 1024 c]) := hid ⟨H.alloc _, heap_alloc_new _ _⟩
  have HA := hid hat
  have HL := hid hb
  have HW := hid hw
  have HG := hid H.below.size
  have HO : Hid (∀ g, (Value.slice av q cv).ownBlock = some g → g ≠ W.heap.size) := hid (fun g hg => by have := (H.own.lt g hg).2; omega)
  clear H hb hat hw
  go_enter Tryz.func185, Tryz.ntmps185
  go_upto_region 1 with fail
  generalize World.alloc _ _ = X at *
  generalize W.heap.size = gb at *
  have Y0 : Hid (Holds V X.drew .u32 43 (.slice av q cv) L ∧ Cel X.drew gb 213 [.int .u32 a, .slice (some ad) 1024 c]) := hid ⟨holds_drew X0.out.1, X0.out.2⟩
  clear X0
  refine wp_region_held_drew (S := fun w => Cel w gb 213 [.int .u32 a, .slice (some ad) 1024 c]) (by kernel_rfl) Y0.out.2 (fun hHeld => ?_)
  generalize World.drew _ = w0 at *
  refine tk 0 (some 5) (.slice av q cv) ?_
  simp only [Act.put, tqA, tqZ, tqS]
  refine tk 1 (some 6) (.pointer (some ⟨gb, 0, none⟩)) ?_
  simp only [Act.put, tqA, tqZ, tqS]
  refine tk 2 (some 7) (.int .u32 a) ?_ (hy := Or.inl ⟨by rfl, by intro w hSw; have hc := hSw.cell 0; simp only [tqG] at hc; go_simp⟩)
  simp only [Act.put, tqA, tqZ, tqS]
  refine tk 5 (some 10) (.pointer (some ⟨gb, 1, none⟩)) ?_
  simp only [Act.put, tqA, tqZ, tqS]
  refine tk 6 (some 11) (.slice (some ad) 1024 c) ?_ (hy := Or.inl ⟨by rfl, by intro w hSw; have hc := hSw.cell 1; simp only [tqG, tqH] at hc; go_simp⟩)
  simp only [Act.put, tqA, tqZ, tqS]
  refine wpAnyH_ready (rs := [3]) (by kernel_rfl) (by simp) (AllReadyH.cons rfl (fun KQ hK => ?_) AllReadyH.nil)
  go_simp
  have X1 : Hid (Holds V (w0.alloc (.cells #[.int .u32 a] 43)) .u32 43 (.slice av q cv) L ∧ Cel (w0.alloc (.cells #[.int .u32 a] 43)) gb 213 [.int .u32 a, .slice (some ad) 1024 c]) := hid ⟨Y0.out.1.alloc _, Y0.out.2.below (below_one w0 _) Y0.out.2.lt⟩
  have HS := hid (at_one w0 a)
  clear Y0
  generalize World.alloc _ _ = w1 at *
  generalize w0.heap.size = g1 at *
  refine hK.out _ _ X1.out.2 (fun hHeld => ?_)
  clear hK KQ
  try simp only [Act.put, tqA, tqZ, tqS]
  refine wpAnyH_ready (rs := [4]) (by kernel_rfl) (by simp) (AllReadyH.cons rfl (fun KQ hK => ?_) AllReadyH.nil)
  rw [if_pos (by rfl)]
  obtain ⟨v2, w2, hr, hh, hk⟩ := run_append_k _ X1.out.1 _ 1 1 [a] rfl HS.out (by have := HL.out; omega) X1.out.2 (by decide)
  refine wp_append_r _ _ rfl _ rfl _ rfl hr ?_
  have X2 := hid (And.intro hh hk)
  clear hr hh hk X1 HS
  refine hK.out _ _ X2.out.2 (fun hHeld => ?_)
  clear hK KQ
  try simp only [Act.put, tqA]
  refine wpAnyH_ready (rs := [7]) (by kernel_rfl) (by simp) (AllReadyH.cons rfl (fun KQ hK => ?_) AllReadyH.nil)
  rw [if_pos (by rfl)]
  obtain ⟨v3, w3, hr, hh, hk⟩ := run_append_k _ X2.out.1 ad 1024 c ws HW.out (HA.out.below X2.out.1.below) (by have := HL.out; rw [List.length_append]; simp only [List.length_singleton]; omega) X2.out.2 (by decide)
  refine wp_append_r _ _ rfl _ rfl _ rfl hr ?_
  have X3 := hid hh
  have X4 := hid hk
  clear hr hh hk X2
  refine hK.out _ _ X4.out (fun hHeld => ?_)
  clear hK KQ
  try simp only [Act.put]
  refine wpAnyH_ready (rs := [8]) (by kernel_rfl) (by simp) (AllReadyH.cons rfl (fun KQ hK => ?_) AllReadyH.nil)
  go_simp
  refine hK.out _ _ X4.out (fun hHeld => ?_)
  clear hK KQ
  try simp only [Act.put, tqA, tqZ, tqS]
  refine wpAnyH_done (by kernel_rfl) ?_ _
  go_wp2_with fail
  go_ret
  exact ⟨_, rfl, X3.out⟩
theorem lay_1 (V W : World) (av : Option Addr) (q cv : Nat) (L : List Int) (H : Holds V W .u32 43 (.slice av q cv) L) (hb : (L.length + 1026) * 4 ≤ 140737488355328) (a : Int) :
    Calls Tryz.prog 108 #[.slice av q cv, .iface 210 (.int .u32 a)] W fun e W' => ∃ v', e = .returned v' ∧ Holds V W' .u32 43 v' (L ++ [1, a]) := by
  have HL := hid hb
  have HK := hid (fun w => kindOf_1 w a)
  have Y0 : Hid (Holds V W.drew .u32 43 (.slice av q cv) L) := hid (holds_drew H)
  clear H hb
  have na : ∀ w, (nilAhead 355 210 (.int .u32 a) "warden/measure.put").run Tryz.prog w = .ok (some false) w := fun w => by kernel_rfl
  have me : ∀ w, (Go.method 355 210 (.int .u32 a) "warden/measure.put").run Tryz.prog w = .ok (183, .int .u32 a) w := fun w => by kernel_rfl
  have kw : IntKind.wrap .u32 1 = 1 := rfl
  go_enter Tryz.func108, Tryz.ntmps108
  go_upto_region 1 with fail
  refine wp_region_held_drew (S := fun _ => True) (by kernel_rfl) trivial (fun hHeld => ?_)
  generalize World.drew _ = w0 at *
  refine tk 0 (some 5) (.iface 210 (.int .u32 a)) ?_
  simp only [Act.put, tqA, tqZ, tqS]
  refine tk 1 (some 6) (.slice av q cv) ?_
  simp only [Act.put, tqA, tqZ, tqS]
  refine tk 2 (some 7) (.iface 210 (.int .u32 a)) ?_
  simp only [Act.put, tqA, tqZ, tqS]
  refine tk 7 (some 12) (.func (Fn.method "warden/measure.put") #[.iface 210 (.int .u32 a)] #[]) ?_
  simp only [Act.put, tqA, tqZ, tqS]
  refine tk 8 (some 13) (.func (Fn.method "warden/measure.put") #[.iface 210 (.int .u32 a)] #[]) ?_
  simp only [Act.put, tqA, tqZ, tqS]
  refine tk 9 (some 14) (.iface 210 (.int .u32 a)) ?_
  simp only [Act.put, tqA, tqZ, tqS]
  refine wpAnyH_ready (rs := [3]) (by kernel_rfl) (by simp) (AllReadyH.cons rfl (fun KQ hK => ?_) AllReadyH.nil)
  go_simp
  refine (HK.out _).mono ?_
  rintro e w1 ⟨rfl, hw1⟩
  subst w1
  go_wp2_with fail
  refine hK.out _ _ trivial (fun hHeld => ?_)
  clear hK KQ
  try simp only [Act.put, tqA, tqZ, tqS]
  refine tk 4 (some 9) (.int .u32 1) ?_
  simp only [Act.put, tqA, tqZ, tqS]
  refine wpAnyH_ready (rs := [5]) (by kernel_rfl) (by simp) (AllReadyH.cons rfl (fun KQ hK => ?_) AllReadyH.nil)
  go_simp
  have Y1 : Hid (Holds V (w0.alloc (.cells #[.int .u32 1] 43)) .u32 43 (.slice av q cv) L) := hid (Y0.out.alloc _)
  have HS := hid (at_one w0 1)
  clear Y0
  generalize World.alloc _ _ = w1 at *
  generalize w0.heap.size = g1 at *
  refine hK.out _ _ trivial (fun hHeld => ?_)
  clear hK KQ
  try simp only [Act.put, tqA, tqZ, tqS]
  refine wpAnyH_ready (rs := [6]) (by kernel_rfl) (by simp) (AllReadyH.cons rfl (fun KQ hK => ?_) AllReadyH.nil)
  rw [if_pos (by rfl)]
  refine wp_append_h _ _ rfl _ L rfl Y1.out _ 1 1 [1] rfl rfl HS.out (by have := HL.out; omega) ?_
  intro v2 w2 hh
  obtain ⟨ao2, c2, hv, _⟩ := hh.at'
  rw [List.length_append, List.length_singleton] at hv
  subst hv
  have Y2 := hid hh
  clear hh Y1 HS
  refine hK.out _ _ trivial (fun hHeld => ?_)
  clear hK KQ
  try simp only [Act.put, tqA]
  refine wpAnyH_ready (rs := [10]) (by kernel_rfl) (by simp) (AllReadyH.cons rfl (fun KQ hK => ?_) AllReadyH.nil)
  go_simp
  refine (put_96 V _ _ _ _ _ Y2.out (by have := HL.out; rw [List.length_append]; simp only [List.length_singleton]; omega) a).mono ?_
  rintro e w3 ⟨v3, rfl, h3⟩
  have Y3 := hid h3
  clear h3 Y2
  go_wp2_with fail
  refine hK.out _ _ trivial (fun hHeld => ?_)
  clear hK KQ
  try simp only [Act.put, tqA, tqZ, tqS]
  refine wpAnyH_ready (rs := [11]) (by kernel_rfl) (by simp) (AllReadyH.cons rfl (fun KQ hK => ?_) AllReadyH.nil)
  go_simp
  refine hK.out _ _ trivial (fun hHeld => ?_)
  clear hK KQ
  try simp only [Act.put, tqA, tqZ, tqS]
  refine wpAnyH_done (by kernel_rfl) ?_ _
  go_wp2_with fail
  go_ret
  refine ⟨_, rfl, ?_⟩
  have := Y3.out
  simpa using this
theorem lay_2 (V W : World) (av : Option Addr) (q cv : Nat) (L : List Int) (H : Holds V W .u32 43 (.slice av q cv) L) (hb : (L.length + 1026) * 4 ≤ 140737488355328) (a : Int) :
    Calls Tryz.prog 108 #[.slice av q cv, .iface 211 (.int .u32 a)] W fun e W' => ∃ v', e = .returned v' ∧ Holds V W' .u32 43 v' (L ++ [2, a]) := by
  have HL := hid hb
  have HK := hid (fun w => kindOf_2 w a)
  have Y0 : Hid (Holds V W.drew .u32 43 (.slice av q cv) L) := hid (holds_drew H)
  clear H hb
  have na : ∀ w, (nilAhead 355 211 (.int .u32 a) "warden/measure.put").run Tryz.prog w = .ok (some false) w := fun w => by kernel_rfl
  have me : ∀ w, (Go.method 355 211 (.int .u32 a) "warden/measure.put").run Tryz.prog w = .ok (184, .int .u32 a) w := fun w => by kernel_rfl
  have kw : IntKind.wrap .u32 2 = 2 := rfl
  go_enter Tryz.func108, Tryz.ntmps108
  go_upto_region 1 with fail
  refine wp_region_held_drew (S := fun _ => True) (by kernel_rfl) trivial (fun hHeld => ?_)
  generalize World.drew _ = w0 at *
  refine tk 0 (some 5) (.iface 211 (.int .u32 a)) ?_
  simp only [Act.put, tqA, tqZ, tqS]
  refine tk 1 (some 6) (.slice av q cv) ?_
  simp only [Act.put, tqA, tqZ, tqS]
  refine tk 2 (some 7) (.iface 211 (.int .u32 a)) ?_
  simp only [Act.put, tqA, tqZ, tqS]
  refine tk 7 (some 12) (.func (Fn.method "warden/measure.put") #[.iface 211 (.int .u32 a)] #[]) ?_
  simp only [Act.put, tqA, tqZ, tqS]
  refine tk 8 (some 13) (.func (Fn.method "warden/measure.put") #[.iface 211 (.int .u32 a)] #[]) ?_
  simp only [Act.put, tqA, tqZ, tqS]
  refine tk 9 (some 14) (.iface 211 (.int .u32 a)) ?_
  simp only [Act.put, tqA, tqZ, tqS]
  refine wpAnyH_ready (rs := [3]) (by kernel_rfl) (by simp) (AllReadyH.cons rfl (fun KQ hK => ?_) AllReadyH.nil)
  go_simp
  refine (HK.out _).mono ?_
  rintro e w1 ⟨rfl, hw1⟩
  subst w1
  go_wp2_with fail
  refine hK.out _ _ trivial (fun hHeld => ?_)
  clear hK KQ
  try simp only [Act.put, tqA, tqZ, tqS]
  refine tk 4 (some 9) (.int .u32 2) ?_
  simp only [Act.put, tqA, tqZ, tqS]
  refine wpAnyH_ready (rs := [5]) (by kernel_rfl) (by simp) (AllReadyH.cons rfl (fun KQ hK => ?_) AllReadyH.nil)
  go_simp
  have Y1 : Hid (Holds V (w0.alloc (.cells #[.int .u32 2] 43)) .u32 43 (.slice av q cv) L) := hid (Y0.out.alloc _)
  have HS := hid (at_one w0 2)
  clear Y0
  generalize World.alloc _ _ = w1 at *
  generalize w0.heap.size = g1 at *
  refine hK.out _ _ trivial (fun hHeld => ?_)
  clear hK KQ
  try simp only [Act.put, tqA, tqZ, tqS]
  refine wpAnyH_ready (rs := [6]) (by kernel_rfl) (by simp) (AllReadyH.cons rfl (fun KQ hK => ?_) AllReadyH.nil)
  rw [if_pos (by rfl)]
  refine wp_append_h _ _ rfl _ L rfl Y1.out _ 1 1 [2] rfl rfl HS.out (by have := HL.out; omega) ?_
  intro v2 w2 hh
  obtain ⟨ao2, c2, hv, _⟩ := hh.at'
  rw [List.length_append, List.length_singleton] at hv
  subst hv
  have Y2 := hid hh
  clear hh Y1 HS
  refine hK.out _ _ trivial (fun hHeld => ?_)
  clear hK KQ
  try simp only [Act.put, tqA]
  refine wpAnyH_ready (rs := [10]) (by kernel_rfl) (by simp) (AllReadyH.cons rfl (fun KQ hK => ?_) AllReadyH.nil)
  go_simp
  refine (put_97 V _ _ _ _ _ Y2.out (by have := HL.out; rw [List.length_append]; simp only [List.length_singleton]; omega) a).mono ?_
  rintro e w3 ⟨v3, rfl, h3⟩
  have Y3 := hid h3
  clear h3 Y2
  go_wp2_with fail
  refine hK.out _ _ trivial (fun hHeld => ?_)
  clear hK KQ
  try simp only [Act.put, tqA, tqZ, tqS]
  refine wpAnyH_ready (rs := [11]) (by kernel_rfl) (by simp) (AllReadyH.cons rfl (fun KQ hK => ?_) AllReadyH.nil)
  go_simp
  refine hK.out _ _ trivial (fun hHeld => ?_)
  clear hK KQ
  try simp only [Act.put, tqA, tqZ, tqS]
  refine wpAnyH_done (by kernel_rfl) ?_ _
  go_wp2_with fail
  go_ret
  refine ⟨_, rfl, ?_⟩
  have := Y3.out
  simpa using this
theorem lay_3 (V W : World) (av : Option Addr) (q cv : Nat) (L : List Int) (H : Holds V W .u32 43 (.slice av q cv) L) (hb : (L.length + 1026) * 4 ≤ 140737488355328) (a : Int) (ao : Option Addr) (c : Nat) (ws : List Int) (hw : ws.length = 1024) (hat : At V .u32 ao ws) :
    Calls Tryz.prog 108 #[.slice av q cv, .iface 213 (.agg #[.int .u32 a, .slice ao 1024 c])] W fun e W' => ∃ v', e = .returned v' ∧ Holds V W' .u32 43 v' (L ++ ([3, a] ++ ws)) := by
  have HL := hid hb
  have HA := hid hat
  have HW := hid hw
  have HK := hid (fun w => kindOf_3 w a ao 1024 c)
  have Y0 : Hid (Holds V W.drew .u32 43 (.slice av q cv) L) := hid (holds_drew H)
  clear H hb hat hw
  have na : ∀ w, (nilAhead 355 213 (.agg #[.int .u32 a, .slice ao 1024 c]) "warden/measure.put").run Tryz.prog w = .ok (some false) w := fun w => by kernel_rfl
  have me : ∀ w, (Go.method 355 213 (.agg #[.int .u32 a, .slice ao 1024 c]) "warden/measure.put").run Tryz.prog w = .ok (185, .agg #[.int .u32 a, .slice ao 1024 c]) w := fun w => by kernel_rfl
  have kw : IntKind.wrap .u32 3 = 3 := rfl
  go_enter Tryz.func108, Tryz.ntmps108
  go_upto_region 1 with fail
  refine wp_region_held_drew (S := fun _ => True) (by kernel_rfl) trivial (fun hHeld => ?_)
  generalize World.drew _ = w0 at *
  refine tk 0 (some 5) (.iface 213 (.agg #[.int .u32 a, .slice ao 1024 c])) ?_
  simp only [Act.put, tqA, tqZ, tqS]
  refine tk 1 (some 6) (.slice av q cv) ?_
  simp only [Act.put, tqA, tqZ, tqS]
  refine tk 2 (some 7) (.iface 213 (.agg #[.int .u32 a, .slice ao 1024 c])) ?_
  simp only [Act.put, tqA, tqZ, tqS]
  refine tk 7 (some 12) (.func (Fn.method "warden/measure.put") #[.iface 213 (.agg #[.int .u32 a, .slice ao 1024 c])] #[]) ?_
  simp only [Act.put, tqA, tqZ, tqS]
  refine tk 8 (some 13) (.func (Fn.method "warden/measure.put") #[.iface 213 (.agg #[.int .u32 a, .slice ao 1024 c])] #[]) ?_
  simp only [Act.put, tqA, tqZ, tqS]
  refine tk 9 (some 14) (.iface 213 (.agg #[.int .u32 a, .slice ao 1024 c])) ?_
  simp only [Act.put, tqA, tqZ, tqS]
  refine wpAnyH_ready (rs := [3]) (by kernel_rfl) (by simp) (AllReadyH.cons rfl (fun KQ hK => ?_) AllReadyH.nil)
  go_simp
  refine (HK.out _).mono ?_
  rintro e w1 ⟨rfl, hw1⟩
  subst w1
  go_wp2_with fail
  refine hK.out _ _ trivial (fun hHeld => ?_)
  clear hK KQ
  try simp only [Act.put, tqA, tqZ, tqS]
  refine tk 4 (some 9) (.int .u32 3) ?_
  simp only [Act.put, tqA, tqZ, tqS]
  refine wpAnyH_ready (rs := [5]) (by kernel_rfl) (by simp) (AllReadyH.cons rfl (fun KQ hK => ?_) AllReadyH.nil)
  go_simp
  have Y1 : Hid (Holds V (w0.alloc (.cells #[.int .u32 3] 43)) .u32 43 (.slice av q cv) L) := hid (Y0.out.alloc _)
  have HS := hid (at_one w0 3)
  clear Y0
  generalize World.alloc _ _ = w1 at *
  generalize w0.heap.size = g1 at *
  refine hK.out _ _ trivial (fun hHeld => ?_)
  clear hK KQ
  try simp only [Act.put, tqA, tqZ, tqS]
  refine wpAnyH_ready (rs := [6]) (by kernel_rfl) (by simp) (AllReadyH.cons rfl (fun KQ hK => ?_) AllReadyH.nil)
  rw [if_pos (by rfl)]
  refine wp_append_h _ _ rfl _ L rfl Y1.out _ 1 1 [3] rfl rfl HS.out (by have := HL.out; omega) ?_
  intro v2 w2 hh
  obtain ⟨ao2, c2, hv, _⟩ := hh.at'
  rw [List.length_append, List.length_singleton] at hv
  subst hv
  have Y2 := hid hh
  clear hh Y1 HS
  refine hK.out _ _ trivial (fun hHeld => ?_)
  clear hK KQ
  try simp only [Act.put, tqA]
  refine wpAnyH_ready (rs := [10]) (by kernel_rfl) (by simp) (AllReadyH.cons rfl (fun KQ hK => ?_) AllReadyH.nil)
  go_simp
  refine (put_98 V _ _ _ _ _ Y2.out (by have := HL.out; rw [List.length_append]; simp only [List.length_singleton]; omega) a ao c ws HW.out HA.out).mono ?_
  rintro e w3 ⟨v3, rfl, h3⟩
  have Y3 := hid h3
  clear h3 Y2
  go_wp2_with fail
  refine hK.out _ _ trivial (fun hHeld => ?_)
  clear hK KQ
  try simp only [Act.put, tqA, tqZ, tqS]
  refine wpAnyH_ready (rs := [11]) (by kernel_rfl) (by simp) (AllReadyH.cons rfl (fun KQ hK => ?_) AllReadyH.nil)
  go_simp
  refine hK.out _ _ trivial (fun hHeld => ?_)
  clear hK KQ
  try simp only [Act.put, tqA, tqZ, tqS]
  refine wpAnyH_done (by kernel_rfl) ?_ _
  go_wp2_with fail
  go_ret
  refine ⟨_, rfl, ?_⟩
  have := Y3.out
  simpa using this
theorem lay_4 (V W : World) (av : Option Addr) (q cv : Nat) (L : List Int) (H : Holds V W .u32 43 (.slice av q cv) L) (hb : (L.length + 1026) * 4 ≤ 140737488355328) (a : Int) :
    Calls Tryz.prog 108 #[.slice av q cv, .iface 214 (.int .u32 a)] W fun e W' => ∃ v', e = .returned v' ∧ Holds V W' .u32 43 v' (L ++ [4, a]) := by
  have HL := hid hb
  have HK := hid (fun w => kindOf_4 w a)
  have Y0 : Hid (Holds V W.drew .u32 43 (.slice av q cv) L) := hid (holds_drew H)
  clear H hb
  have na : ∀ w, (nilAhead 355 214 (.int .u32 a) "warden/measure.put").run Tryz.prog w = .ok (some false) w := fun w => by kernel_rfl
  have me : ∀ w, (Go.method 355 214 (.int .u32 a) "warden/measure.put").run Tryz.prog w = .ok (186, .int .u32 a) w := fun w => by kernel_rfl
  have kw : IntKind.wrap .u32 4 = 4 := rfl
  go_enter Tryz.func108, Tryz.ntmps108
  go_upto_region 1 with fail
  refine wp_region_held_drew (S := fun _ => True) (by kernel_rfl) trivial (fun hHeld => ?_)
  generalize World.drew _ = w0 at *
  refine tk 0 (some 5) (.iface 214 (.int .u32 a)) ?_
  simp only [Act.put, tqA, tqZ, tqS]
  refine tk 1 (some 6) (.slice av q cv) ?_
  simp only [Act.put, tqA, tqZ, tqS]
  refine tk 2 (some 7) (.iface 214 (.int .u32 a)) ?_
  simp only [Act.put, tqA, tqZ, tqS]
  refine tk 7 (some 12) (.func (Fn.method "warden/measure.put") #[.iface 214 (.int .u32 a)] #[]) ?_
  simp only [Act.put, tqA, tqZ, tqS]
  refine tk 8 (some 13) (.func (Fn.method "warden/measure.put") #[.iface 214 (.int .u32 a)] #[]) ?_
  simp only [Act.put, tqA, tqZ, tqS]
  refine tk 9 (some 14) (.iface 214 (.int .u32 a)) ?_
  simp only [Act.put, tqA, tqZ, tqS]
  refine wpAnyH_ready (rs := [3]) (by kernel_rfl) (by simp) (AllReadyH.cons rfl (fun KQ hK => ?_) AllReadyH.nil)
  go_simp
  refine (HK.out _).mono ?_
  rintro e w1 ⟨rfl, hw1⟩
  subst w1
  go_wp2_with fail
  refine hK.out _ _ trivial (fun hHeld => ?_)
  clear hK KQ
  try simp only [Act.put, tqA, tqZ, tqS]
  refine tk 4 (some 9) (.int .u32 4) ?_
  simp only [Act.put, tqA, tqZ, tqS]
  refine wpAnyH_ready (rs := [5]) (by kernel_rfl) (by simp) (AllReadyH.cons rfl (fun KQ hK => ?_) AllReadyH.nil)
  go_simp
  have Y1 : Hid (Holds V (w0.alloc (.cells #[.int .u32 4] 43)) .u32 43 (.slice av q cv) L) := hid (Y0.out.alloc _)
  have HS := hid (at_one w0 4)
  clear Y0
  generalize World.alloc _ _ = w1 at *
  generalize w0.heap.size = g1 at *
  refine hK.out _ _ trivial (fun hHeld => ?_)
  clear hK KQ
  try simp only [Act.put, tqA, tqZ, tqS]
  refine wpAnyH_ready (rs := [6]) (by kernel_rfl) (by simp) (AllReadyH.cons rfl (fun KQ hK => ?_) AllReadyH.nil)
  rw [if_pos (by rfl)]
  refine wp_append_h _ _ rfl _ L rfl Y1.out _ 1 1 [4] rfl rfl HS.out (by have := HL.out; omega) ?_
  intro v2 w2 hh
  obtain ⟨ao2, c2, hv, _⟩ := hh.at'
  rw [List.length_append, List.length_singleton] at hv
  subst hv
  have Y2 := hid hh
  clear hh Y1 HS
  refine hK.out _ _ trivial (fun hHeld => ?_)
  clear hK KQ
  try simp only [Act.put, tqA]
  refine wpAnyH_ready (rs := [10]) (by kernel_rfl) (by simp) (AllReadyH.cons rfl (fun KQ hK => ?_) AllReadyH.nil)
  go_simp
  refine (put_99 V _ _ _ _ _ Y2.out (by have := HL.out; rw [List.length_append]; simp only [List.length_singleton]; omega) a).mono ?_
  rintro e w3 ⟨v3, rfl, h3⟩
  have Y3 := hid h3
  clear h3 Y2
  go_wp2_with fail
  refine hK.out _ _ trivial (fun hHeld => ?_)
  clear hK KQ
  try simp only [Act.put, tqA, tqZ, tqS]
  refine wpAnyH_ready (rs := [11]) (by kernel_rfl) (by simp) (AllReadyH.cons rfl (fun KQ hK => ?_) AllReadyH.nil)
  go_simp
  refine hK.out _ _ trivial (fun hHeld => ?_)
  clear hK KQ
  try simp only [Act.put, tqA, tqZ, tqS]
  refine wpAnyH_done (by kernel_rfl) ?_ _
  go_wp2_with fail
  go_ret
  refine ⟨_, rfl, ?_⟩
  have := Y3.out
  simpa using this
open Go.Proofs.YtdfnbcbnmiohnaaGreatDoor.H
set_option maxHeartbeats 4000000
set_option maxRecDepth 100000
def okk (k : Int) (n : Nat) : Bool := decide (1 ≤ k ∧ k ≤ 4 ∧ n = pgN k)
theorem okk_iff (o : MOp) : okk o.k o.ws.length = true ↔ o.Ok := by unfold okk MOp.Ok; exact decide_eq_true_iff
theorem opOf_bad (W : World) (a : Int) (ao : Option Addr) (n c : Nat) (k : Int) (h : n ≠ pgN k) :
    Calls Tryz.prog 105 #[.agg #[.int .i64 k, .int .u32 a, .slice ao n c]] W fun e W' => e = .returned (.tuple #[.nilIface, .int .i64 150]) ∧ Below W.heap.size W W' := by
  have HK := hid (fun w => pageOf_any w k)
  have hne : ((n : Int) != (pgN k : Int)) = true := by rw [bne_iff_ne]; omega
  have X0 : Hid (Cel (W.alloc (.cells #[.int .i64 k, .int .u32 a, .slice ao n c] 53)) W.heap.size 53 [.int .i64 k, .int .u32 a, .slice ao n c]) := hid (heap_alloc_new _ _)
  have HB : Hid (Below W.heap.size W (W.alloc (.cells #[.int .i64 k, .int .u32 a, .slice ao n c] 53))) := hid (below_one _ _)
  generalize pgN k = p at *
  clear h
  go_enter Tryz.func105, Tryz.ntmps105
  go_upto_region 1 with fail
  generalize World.alloc _ _ = X at *
  have HG : Hid (Below W.heap.size W X.drew) := hid HB.out.drew
  have Y0 : Hid (Cel X.drew W.heap.size 53 [.int .i64 k, .int .u32 a, .slice ao n c]) := hid X0.out
  clear HB X0
  generalize hgb : W.heap.size = gb at *
  refine wp_region_held_drew (S := fun w => Cel w gb 53 [.int .i64 k, .int .u32 a, .slice ao n c]) (by kernel_rfl) Y0.out (fun hHeld => ?_)
  generalize World.drew _ = w0 at *
  refine tk 0 (some 4) (.pointer (some ⟨gb, 2, none⟩)) ?_
  simp only [Act.put, tqA, tqZ, tqS]
  refine tk 1 (some 5) (.slice ao n c) ?_ (hy := Or.inl ⟨by rfl, by intro w hSw; have hc := hSw.cell 2; simp only [tqG, tqH] at hc; go_simp⟩)
  simp only [Act.put, tqA, tqZ, tqS]
  refine tk 2 (some 6) (.int .i64 (n : Int)) ?_
  simp only [Act.put, tqA, tqZ, tqS]
  refine tk 3 (some 7) (.pointer (some ⟨gb, 0, none⟩)) ?_
  simp only [Act.put, tqA, tqZ, tqS]
  refine tk 4 (some 8) (.int .i64 k) ?_ (hy := Or.inl ⟨by rfl, by intro w hSw; have hc := hSw.cell 0; simp only [tqG] at hc; go_simp⟩)
  simp only [Act.put, tqA, tqZ, tqS]
  refine wpAnyH_ready (rs := [5]) (by kernel_rfl) (by simp) (AllReadyH.cons rfl (fun KQ hK => ?_) AllReadyH.nil)
  go_simp
  refine (HK.out _).mono ?_
  rintro e w1 ⟨rfl, hw1⟩
  subst w1
  go_wp2_with fail
  refine hK.out _ _ Y0.out (fun hHeld => ?_)
  clear hK KQ
  try simp only [Act.put, tqA, tqZ, tqS]
  refine tk 6 (some 10) (.bool true) ?_
  simp only [Act.put, tqA, tqZ, tqS]
  refine wpAnyH_done (by kernel_rfl) ?_ _
  go_wp2_with fail
  go_ret2
  subst hgb
  exact ⟨rfl, HG.out⟩
theorem opOf_0 (W : World) (a : Int) (ao : Option Addr) (n c : Nat) (k : Int) (h : n = pgN k) (h1 : (k == 1) = false) (h2 : (k == 2) = false) (h3 : (k == 3) = false) (h4 : (k == 4) = false) :
    Calls Tryz.prog 105 #[.agg #[.int .i64 k, .int .u32 a, .slice ao n c]] W fun e W' => e = .returned (.tuple #[.nilIface, .int .i64 150]) ∧ Below W.heap.size W W' := by
  have HK := hid (fun w => pageOf_any w k)
  have hne : ((n : Int) != (pgN k : Int)) = false := by rw [h]; simp
  have X0 : Hid (Cel (W.alloc (.cells #[.int .i64 k, .int .u32 a, .slice ao n c] 53)) W.heap.size 53 [.int .i64 k, .int .u32 a, .slice ao n c]) := hid (heap_alloc_new _ _)
  have HB : Hid (Below W.heap.size W (W.alloc (.cells #[.int .i64 k, .int .u32 a, .slice ao n c] 53))) := hid (below_one _ _)
  generalize pgN k = p at *
  clear h
  go_enter Tryz.func105, Tryz.ntmps105
  go_upto_region 1 with fail
  generalize World.alloc _ _ = X at *
  have HG : Hid (Below W.heap.size W X.drew) := hid HB.out.drew
  have Y0 : Hid (Cel X.drew W.heap.size 53 [.int .i64 k, .int .u32 a, .slice ao n c]) := hid X0.out
  clear HB X0
  generalize hgb : W.heap.size = gb at *
  refine wp_region_held_drew (S := fun w => Cel w gb 53 [.int .i64 k, .int .u32 a, .slice ao n c]) (by kernel_rfl) Y0.out (fun hHeld => ?_)
  generalize World.drew _ = w0 at *
  refine tk 0 (some 4) (.pointer (some ⟨gb, 2, none⟩)) ?_
  simp only [Act.put, tqA, tqZ, tqS]
  refine tk 1 (some 5) (.slice ao n c) ?_ (hy := Or.inl ⟨by rfl, by intro w hSw; have hc := hSw.cell 2; simp only [tqG, tqH] at hc; go_simp⟩)
  simp only [Act.put, tqA, tqZ, tqS]
  refine tk 2 (some 6) (.int .i64 (n : Int)) ?_
  simp only [Act.put, tqA, tqZ, tqS]
  refine tk 3 (some 7) (.pointer (some ⟨gb, 0, none⟩)) ?_
  simp only [Act.put, tqA, tqZ, tqS]
  refine tk 4 (some 8) (.int .i64 k) ?_ (hy := Or.inl ⟨by rfl, by intro w hSw; have hc := hSw.cell 0; simp only [tqG] at hc; go_simp⟩)
  simp only [Act.put, tqA, tqZ, tqS]
  refine wpAnyH_ready (rs := [5]) (by kernel_rfl) (by simp) (AllReadyH.cons rfl (fun KQ hK => ?_) AllReadyH.nil)
  go_simp
  refine (HK.out _).mono ?_
  rintro e w1 ⟨rfl, hw1⟩
  subst w1
  go_wp2_with fail
  refine hK.out _ _ Y0.out (fun hHeld => ?_)
  clear hK KQ
  try simp only [Act.put, tqA, tqZ, tqS]
  refine tk 6 (some 10) (.bool false) ?_
  simp only [Act.put, tqA, tqZ, tqS]
  refine wpAnyH_done (by kernel_rfl) ?_ _
  have c0 := Y0.out.cell 0
  have c1 := Y0.out.cell 1
  have c2 := Y0.out.cell 2
  simp only [tqG, tqH] at c0 c1 c2
  go_wp2_with fail
  go_ret2
  subst hgb
  exact ⟨rfl, HG.out⟩
theorem opOf_1 (W : World) (a : Int) (ao : Option Addr) (n c : Nat) (h : n = pgN 1) :
    Calls Tryz.prog 105 #[.agg #[.int .i64 1, .int .u32 a, .slice ao n c]] W fun e W' => e = .returned (.tuple #[.iface 210 (.int .u32 a), .int .i64 0]) ∧ Below W.heap.size W W' := by
  have HK := hid (fun w => pageOf_any w 1)
  have hne : ((n : Int) != (pgN 1 : Int)) = false := by rw [h]; simp
  have X0 : Hid (Cel (W.alloc (.cells #[.int .i64 1, .int .u32 a, .slice ao n c] 53)) W.heap.size 53 [.int .i64 1, .int .u32 a, .slice ao n c]) := hid (heap_alloc_new _ _)
  have HB : Hid (Below W.heap.size W (W.alloc (.cells #[.int .i64 1, .int .u32 a, .slice ao n c] 53))) := hid (below_one _ _)
  generalize pgN 1 = p at *
  clear h
  go_enter Tryz.func105, Tryz.ntmps105
  go_upto_region 1 with fail
  generalize World.alloc _ _ = X at *
  have HG : Hid (Below W.heap.size W X.drew) := hid HB.out.drew
  have Y0 : Hid (Cel X.drew W.heap.size 53 [.int .i64 1, .int .u32 a, .slice ao n c]) := hid X0.out
  clear HB X0
  generalize hgb : W.heap.size = gb at *
  refine wp_region_held_drew (S := fun w => Cel w gb 53 [.int .i64 1, .int .u32 a, .slice ao n c]) (by kernel_rfl) Y0.out (fun hHeld => ?_)
  generalize World.drew _ = w0 at *
  refine tk 0 (some 4) (.pointer (some ⟨gb, 2, none⟩)) ?_
  simp only [Act.put, tqA, tqZ, tqS]
  refine tk 1 (some 5) (.slice ao n c) ?_ (hy := Or.inl ⟨by rfl, by intro w hSw; have hc := hSw.cell 2; simp only [tqG, tqH] at hc; go_simp⟩)
  simp only [Act.put, tqA, tqZ, tqS]
  refine tk 2 (some 6) (.int .i64 (n : Int)) ?_
  simp only [Act.put, tqA, tqZ, tqS]
  refine tk 3 (some 7) (.pointer (some ⟨gb, 0, none⟩)) ?_
  simp only [Act.put, tqA, tqZ, tqS]
  refine tk 4 (some 8) (.int .i64 1) ?_ (hy := Or.inl ⟨by rfl, by intro w hSw; have hc := hSw.cell 0; simp only [tqG] at hc; go_simp⟩)
  simp only [Act.put, tqA, tqZ, tqS]
  refine wpAnyH_ready (rs := [5]) (by kernel_rfl) (by simp) (AllReadyH.cons rfl (fun KQ hK => ?_) AllReadyH.nil)
  go_simp
  refine (HK.out _).mono ?_
  rintro e w1 ⟨rfl, hw1⟩
  subst w1
  go_wp2_with fail
  refine hK.out _ _ Y0.out (fun hHeld => ?_)
  clear hK KQ
  try simp only [Act.put, tqA, tqZ, tqS]
  refine tk 6 (some 10) (.bool false) ?_
  simp only [Act.put, tqA, tqZ, tqS]
  refine wpAnyH_done (by kernel_rfl) ?_ _
  have c0 := Y0.out.cell 0
  have c1 := Y0.out.cell 1
  have c2 := Y0.out.cell 2
  simp only [tqG, tqH] at c0 c1 c2
  go_wp2_with fail
  go_ret2
  subst hgb
  exact ⟨rfl, HG.out⟩
theorem opOf_2 (W : World) (a : Int) (ao : Option Addr) (n c : Nat) (h : n = pgN 2) :
    Calls Tryz.prog 105 #[.agg #[.int .i64 2, .int .u32 a, .slice ao n c]] W fun e W' => e = .returned (.tuple #[.iface 211 (.int .u32 a), .int .i64 0]) ∧ Below W.heap.size W W' := by
  have HK := hid (fun w => pageOf_any w 2)
  have hne : ((n : Int) != (pgN 2 : Int)) = false := by rw [h]; simp
  have X0 : Hid (Cel (W.alloc (.cells #[.int .i64 2, .int .u32 a, .slice ao n c] 53)) W.heap.size 53 [.int .i64 2, .int .u32 a, .slice ao n c]) := hid (heap_alloc_new _ _)
  have HB : Hid (Below W.heap.size W (W.alloc (.cells #[.int .i64 2, .int .u32 a, .slice ao n c] 53))) := hid (below_one _ _)
  generalize pgN 2 = p at *
  clear h
  go_enter Tryz.func105, Tryz.ntmps105
  go_upto_region 1 with fail
  generalize World.alloc _ _ = X at *
  have HG : Hid (Below W.heap.size W X.drew) := hid HB.out.drew
  have Y0 : Hid (Cel X.drew W.heap.size 53 [.int .i64 2, .int .u32 a, .slice ao n c]) := hid X0.out
  clear HB X0
  generalize hgb : W.heap.size = gb at *
  refine wp_region_held_drew (S := fun w => Cel w gb 53 [.int .i64 2, .int .u32 a, .slice ao n c]) (by kernel_rfl) Y0.out (fun hHeld => ?_)
  generalize World.drew _ = w0 at *
  refine tk 0 (some 4) (.pointer (some ⟨gb, 2, none⟩)) ?_
  simp only [Act.put, tqA, tqZ, tqS]
  refine tk 1 (some 5) (.slice ao n c) ?_ (hy := Or.inl ⟨by rfl, by intro w hSw; have hc := hSw.cell 2; simp only [tqG, tqH] at hc; go_simp⟩)
  simp only [Act.put, tqA, tqZ, tqS]
  refine tk 2 (some 6) (.int .i64 (n : Int)) ?_
  simp only [Act.put, tqA, tqZ, tqS]
  refine tk 3 (some 7) (.pointer (some ⟨gb, 0, none⟩)) ?_
  simp only [Act.put, tqA, tqZ, tqS]
  refine tk 4 (some 8) (.int .i64 2) ?_ (hy := Or.inl ⟨by rfl, by intro w hSw; have hc := hSw.cell 0; simp only [tqG] at hc; go_simp⟩)
  simp only [Act.put, tqA, tqZ, tqS]
  refine wpAnyH_ready (rs := [5]) (by kernel_rfl) (by simp) (AllReadyH.cons rfl (fun KQ hK => ?_) AllReadyH.nil)
  go_simp
  refine (HK.out _).mono ?_
  rintro e w1 ⟨rfl, hw1⟩
  subst w1
  go_wp2_with fail
  refine hK.out _ _ Y0.out (fun hHeld => ?_)
  clear hK KQ
  try simp only [Act.put, tqA, tqZ, tqS]
  refine tk 6 (some 10) (.bool false) ?_
  simp only [Act.put, tqA, tqZ, tqS]
  refine wpAnyH_done (by kernel_rfl) ?_ _
  have c0 := Y0.out.cell 0
  have c1 := Y0.out.cell 1
  have c2 := Y0.out.cell 2
  simp only [tqG, tqH] at c0 c1 c2
  go_wp2_with fail
  go_ret2
  subst hgb
  exact ⟨rfl, HG.out⟩
theorem opOf_3 (W : World) (a : Int) (ao : Option Addr) (n c : Nat) (h : n = pgN 3) :
    Calls Tryz.prog 105 #[.agg #[.int .i64 3, .int .u32 a, .slice ao n c]] W fun e W' => e = .returned (.tuple #[.iface 213 (.agg #[.int .u32 a, .slice ao n c]), .int .i64 0]) ∧ Below W.heap.size W W' := by
  have HK := hid (fun w => pageOf_any w 3)
  have hne : ((n : Int) != (pgN 3 : Int)) = false := by rw [h]; simp
  have X0 : Hid (Cel (W.alloc (.cells #[.int .i64 3, .int .u32 a, .slice ao n c] 53)) W.heap.size 53 [.int .i64 3, .int .u32 a, .slice ao n c]) := hid (heap_alloc_new _ _)
  have HB : Hid (Below W.heap.size W (W.alloc (.cells #[.int .i64 3, .int .u32 a, .slice ao n c] 53))) := hid (below_one _ _)
  generalize pgN 3 = p at *
  clear h
  go_enter Tryz.func105, Tryz.ntmps105
  go_upto_region 1 with fail
  generalize World.alloc _ _ = X at *
  have HG : Hid (Below W.heap.size W X.drew) := hid HB.out.drew
  have Y0 : Hid (Cel X.drew W.heap.size 53 [.int .i64 3, .int .u32 a, .slice ao n c]) := hid X0.out
  clear HB X0
  generalize hgb : W.heap.size = gb at *
  refine wp_region_held_drew (S := fun w => Cel w gb 53 [.int .i64 3, .int .u32 a, .slice ao n c]) (by kernel_rfl) Y0.out (fun hHeld => ?_)
  generalize World.drew _ = w0 at *
  refine tk 0 (some 4) (.pointer (some ⟨gb, 2, none⟩)) ?_
  simp only [Act.put, tqA, tqZ, tqS]
  refine tk 1 (some 5) (.slice ao n c) ?_ (hy := Or.inl ⟨by rfl, by intro w hSw; have hc := hSw.cell 2; simp only [tqG, tqH] at hc; go_simp⟩)
  simp only [Act.put, tqA, tqZ, tqS]
  refine tk 2 (some 6) (.int .i64 (n : Int)) ?_
  simp only [Act.put, tqA, tqZ, tqS]
  refine tk 3 (some 7) (.pointer (some ⟨gb, 0, none⟩)) ?_
  simp only [Act.put, tqA, tqZ, tqS]
  refine tk 4 (some 8) (.int .i64 3) ?_ (hy := Or.inl ⟨by rfl, by intro w hSw; have hc := hSw.cell 0; simp only [tqG] at hc; go_simp⟩)
  simp only [Act.put, tqA, tqZ, tqS]
  refine wpAnyH_ready (rs := [5]) (by kernel_rfl) (by simp) (AllReadyH.cons rfl (fun KQ hK => ?_) AllReadyH.nil)
  go_simp
  refine (HK.out _).mono ?_
  rintro e w1 ⟨rfl, hw1⟩
  subst w1
  go_wp2_with fail
  refine hK.out _ _ Y0.out (fun hHeld => ?_)
  clear hK KQ
  try simp only [Act.put, tqA, tqZ, tqS]
  refine tk 6 (some 10) (.bool false) ?_
  simp only [Act.put, tqA, tqZ, tqS]
  refine wpAnyH_done (by kernel_rfl) ?_ _
  have c0 := Y0.out.cell 0
  have c1 := Y0.out.cell 1
  have c2 := Y0.out.cell 2
  simp only [tqG, tqH] at c0 c1 c2
  go_wp2_with fail
  go_ret2
  subst hgb
  exact ⟨rfl, HG.out⟩
theorem opOf_4 (W : World) (a : Int) (ao : Option Addr) (n c : Nat) (h : n = pgN 4) :
    Calls Tryz.prog 105 #[.agg #[.int .i64 4, .int .u32 a, .slice ao n c]] W fun e W' => e = .returned (.tuple #[.iface 214 (.int .u32 a), .int .i64 0]) ∧ Below W.heap.size W W' := by
  have HK := hid (fun w => pageOf_any w 4)
  have hne : ((n : Int) != (pgN 4 : Int)) = false := by rw [h]; simp
  have X0 : Hid (Cel (W.alloc (.cells #[.int .i64 4, .int .u32 a, .slice ao n c] 53)) W.heap.size 53 [.int .i64 4, .int .u32 a, .slice ao n c]) := hid (heap_alloc_new _ _)
  have HB : Hid (Below W.heap.size W (W.alloc (.cells #[.int .i64 4, .int .u32 a, .slice ao n c] 53))) := hid (below_one _ _)
  generalize pgN 4 = p at *
  clear h
  go_enter Tryz.func105, Tryz.ntmps105
  go_upto_region 1 with fail
  generalize World.alloc _ _ = X at *
  have HG : Hid (Below W.heap.size W X.drew) := hid HB.out.drew
  have Y0 : Hid (Cel X.drew W.heap.size 53 [.int .i64 4, .int .u32 a, .slice ao n c]) := hid X0.out
  clear HB X0
  generalize hgb : W.heap.size = gb at *
  refine wp_region_held_drew (S := fun w => Cel w gb 53 [.int .i64 4, .int .u32 a, .slice ao n c]) (by kernel_rfl) Y0.out (fun hHeld => ?_)
  generalize World.drew _ = w0 at *
  refine tk 0 (some 4) (.pointer (some ⟨gb, 2, none⟩)) ?_
  simp only [Act.put, tqA, tqZ, tqS]
  refine tk 1 (some 5) (.slice ao n c) ?_ (hy := Or.inl ⟨by rfl, by intro w hSw; have hc := hSw.cell 2; simp only [tqG, tqH] at hc; go_simp⟩)
  simp only [Act.put, tqA, tqZ, tqS]
  refine tk 2 (some 6) (.int .i64 (n : Int)) ?_
  simp only [Act.put, tqA, tqZ, tqS]
  refine tk 3 (some 7) (.pointer (some ⟨gb, 0, none⟩)) ?_
  simp only [Act.put, tqA, tqZ, tqS]
  refine tk 4 (some 8) (.int .i64 4) ?_ (hy := Or.inl ⟨by rfl, by intro w hSw; have hc := hSw.cell 0; simp only [tqG] at hc; go_simp⟩)
  simp only [Act.put, tqA, tqZ, tqS]
  refine wpAnyH_ready (rs := [5]) (by kernel_rfl) (by simp) (AllReadyH.cons rfl (fun KQ hK => ?_) AllReadyH.nil)
  go_simp
  refine (HK.out _).mono ?_
  rintro e w1 ⟨rfl, hw1⟩
  subst w1
  go_wp2_with fail
  refine hK.out _ _ Y0.out (fun hHeld => ?_)
  clear hK KQ
  try simp only [Act.put, tqA, tqZ, tqS]
  refine tk 6 (some 10) (.bool false) ?_
  simp only [Act.put, tqA, tqZ, tqS]
  refine wpAnyH_done (by kernel_rfl) ?_ _
  have c0 := Y0.out.cell 0
  have c1 := Y0.out.cell 1
  have c2 := Y0.out.cell 2
  simp only [tqG, tqH] at c0 c1 c2
  go_wp2_with fail
  go_ret2
  subst hgb
  exact ⟨rfl, HG.out⟩
theorem opOf_any (W : World) (k a : Int) (ao : Option Addr) (n c : Nat) :
    Calls Tryz.prog 105 #[.agg #[.int .i64 k, .int .u32 a, .slice ao n c]] W fun e W' => e = .returned (if okk k n = true then .tuple #[ivk k a ao n c, .int .i64 0] else .tuple #[.nilIface, .int .i64 150]) ∧ Below W.heap.size W W' := by
  by_cases hn : n = pgN k
  · by_cases hk : 1 ≤ k ∧ k ≤ 4
    · have ho : okk k n = true := by unfold okk; exact decide_eq_true ⟨hk.1, hk.2, hn⟩
      rw [if_pos ho]
      have h4 : k = 1 ∨ k = 2 ∨ k = 3 ∨ k = 4 := by omega
      clear ho hk
      rcases h4 with rfl | rfl | rfl | rfl
      · exact opOf_1 W a ao n c hn
      · exact opOf_2 W a ao n c hn
      · exact opOf_3 W a ao n c hn
      · exact opOf_4 W a ao n c hn
    · have ho : ¬ okk k n = true := by unfold okk; rw [decide_eq_true_iff]; intro h; exact hk ⟨h.1, h.2.1⟩
      rw [if_neg ho]
      exact opOf_0 W a ao n c k hn (by simp; omega) (by simp; omega) (by simp; omega) (by simp; omega)
  · have ho : ¬ okk k n = true := by unfold okk; rw [decide_eq_true_iff]; intro h; exact hn h.2.2
    rw [if_neg ho]
    exact opOf_bad W a ao n c k hn
theorem lay_any (V W : World) (v : Value) (L : List Int) (H : Holds V W .u32 43 v L) (hb : (L.length + 1026) * 4 ≤ 140737488355328) (o : MOp) (ho : o.Ok) (ao : Option Addr) (c : Nat) (hat : At V .u32 ao o.ws) :
    Calls Tryz.prog 108 #[v, ivk o.k o.a ao o.ws.length c] W fun e W' => ∃ v', e = .returned v' ∧ Holds V W' .u32 43 v' (L ++ o.wds) := by
  obtain ⟨k, a, ws⟩ := o
  obtain ⟨h1, h4, hw⟩ := ho
  simp only at *
  obtain ⟨av, cv, rfl, _⟩ := H.at'
  have hk : k = 1 ∨ k = 2 ∨ k = 3 ∨ k = 4 := by omega
  clear h1 h4
  unfold MOp.wds
  simp only
  rcases hk with rfl | rfl | rfl | rfl
  · obtain rfl : ws = [] := List.eq_nil_of_length_eq_zero hw
    exact lay_1 V W av _ cv L H hb a
  · obtain rfl : ws = [] := List.eq_nil_of_length_eq_zero hw
    exact lay_2 V W av _ cv L H hb a
  · have hw' : ws.length = 1024 := hw
    rw [hw']
    exact lay_3 V W av _ cv L H hb a ao c ws hw' hat
  · obtain rfl : ws = [] := List.eq_nil_of_length_eq_zero hw
    exact lay_4 V W av _ cv L H hb a
open Go.Proofs.YtdfnbcbnmiohnaaGreatDoor.H
set_option maxHeartbeats 4000000
set_option maxRecDepth 100000
structure Ov where
  o : MOp
  p : Option Addr
  c : Nat
def Ov.cs (x : Ov) : List Value := [.int .i64 x.o.k, .int .u32 x.o.a, .slice x.p x.o.ws.length x.c]
structure OL (W : World) (ao : Option Addr) (l : List Ov) : Prop where
  row : l = [] ∨ ∃ b off, ao = some ⟨b, off, none⟩ ∧ b < W.heap.size ∧ ∀ i x, l[i]? = some x → W.cell? ⟨b, off + i * 3, none⟩ = some (.int .i64 x.o.k) ∧ W.cell? ⟨b, off + i * 3 + 1, none⟩ = some (.int .u32 x.o.a) ∧ W.cell? ⟨b, off + i * 3 + 2, none⟩ = some (.slice x.p x.o.ws.length x.c)
  ws : ∀ x ∈ l, At W .u32 x.p x.o.ws
theorem OL.on {W w : World} {ao : Option Addr} {l : List Ov} (h : OL W ao l) (hb : Below W.heap.size W w) : OL w ao l := by
  refine ⟨?_, fun x hx => (h.ws x hx).below hb⟩
  rcases h.row with h0 | ⟨b, off, h1, h2, h3⟩
  · exact .inl h0
  · refine .inr ⟨b, off, h1, by have := hb.size; omega, fun i x hx => ?_⟩
    obtain ⟨a1, a2, a3⟩ := h3 i x hx
    exact ⟨(hb.cell (p := ⟨b, _, none⟩) h2).trans a1, (hb.cell (p := ⟨b, _, none⟩) h2).trans a2, (hb.cell (p := ⟨b, _, none⟩) h2).trans a3⟩
def enc (l : List MOp) : List Int := l.flatMap MOp.wds
theorem enc_snoc (l : List MOp) (o : MOp) : enc (l ++ [o]) = enc l ++ o.wds := by simp [enc]
theorem wds_len (o : MOp) (h : o.Ok) : 2 ≤ o.wds.length ∧ o.wds.length ≤ 1026 := by
  obtain ⟨_, _, h3⟩ := h
  unfold MOp.wds
  simp only [List.length_cons, h3]
  unfold pgN
  split <;> omega
def encR (l : List MOp) (e : Ending) (W W' : World) : Prop :=
  (∃ o ∈ l, ¬ o.Ok) ∧ e = .returned (.tuple #[.slice none 0 0, .int .i64 150]) ∨
  (∀ o ∈ l, o.Ok) ∧ 262144 < (enc l).length ∧ e = .returned (.tuple #[.slice none 0 0, .int .i64 2]) ∨
  (∀ o ∈ l, o.Ok) ∧ (enc l).length ≤ 262144 ∧ ∃ v, e = .returned (.tuple #[v, .int .i64 0]) ∧ Holds W W' .u32 43 v (enc l)
structure EncJ (W wr : World) (l : List Ov) (j : Nat) (v : Value) (L : List Int) : Prop where
  hold : Holds W wr .u32 43 v L
  ok : ∀ i x, i < j → l[i]? = some x → x.o.Ok
  len : L.length ≤ 263170
  is : L = enc ((l.take j).map Ov.o) ∨ 262144 < L.length ∧ 262144 < (enc ((l.take j).map Ov.o)).length
theorem EncJ.start (W : World) (l : List Ov) : EncJ W W l 0 (.slice none 0 0) [] := ⟨Holds.start _ _ _, fun i x h => by omega, by simp, .inl (by simp [enc])⟩
theorem take_snoc_map (l : List Ov) (j : Nat) (x : Ov) (h : l[j]? = some x) : (l.take (j + 1)).map Ov.o = (l.take j).map Ov.o ++ [x.o] := by
  rw [List.take_add_one, h]
  simp
theorem EncJ.skip {W wr w : World} {l : List Ov} {j : Nat} {v : Value} {L : List Int} (h : EncJ W wr l j v L) (x : Ov) (hx : l[j]? = some x) (ho : x.o.Ok) (hL : 262144 < L.length) (hw : Holds W w .u32 43 v L) : EncJ W w l (j + 1) v L := by
  refine ⟨hw, fun i y hi hy => ?_, h.len, .inr ⟨hL, ?_⟩⟩
  · by_cases e : i = j
    · subst e; rw [hx] at hy; cases hy; exact ho
    · exact h.ok i y (by omega) hy
  · rw [take_snoc_map l j x hx, enc_snoc, List.length_append]
    rcases h.is with e | ⟨_, e⟩
    · rw [← e]; omega
    · omega
theorem EncJ.more {W wr w : World} {l : List Ov} {j : Nat} {v v' : Value} {L : List Int} (h : EncJ W wr l j v L) (x : Ov) (hx : l[j]? = some x) (ho : x.o.Ok) (hL : L.length ≤ 262144) (hw : Holds W w .u32 43 v' (L ++ x.o.wds)) : EncJ W w l (j + 1) v' (L ++ x.o.wds) := by
  have hl := wds_len x.o ho
  refine ⟨hw, fun i y hi hy => ?_, by rw [List.length_append]; omega, ?_⟩
  · by_cases e : i = j
    · subst e; rw [hx] at hy; cases hy; exact ho
    · exact h.ok i y (by omega) hy
  · rw [take_snoc_map l j x hx, enc_snoc]
    rcases h.is with e | ⟨e, _⟩
    · rw [← e]; exact .inl rfl
    · omega
theorem holds_on {V W w : World} {v : Value} {L : List Int} (H : Holds V W .u32 43 v L) (hb : Below W.heap.size W w) : Holds V w .u32 43 v L := ⟨ownsRow_below H.own hb, below_on H.below hb⟩
theorem OL.at {W : World} {ao : Option Addr} {l : List Ov} (h : OL W ao l) {j : Nat} {x : Ov} (hx : l[j]? = some x) : ∃ b off, ao = some ⟨b, off, none⟩ ∧ ∀ w, Below W.heap.size W w → w.cell? ⟨b, off + j * 3, none⟩ = some (.int .i64 x.o.k) ∧ w.cell? ⟨b, off + j * 3 + 1, none⟩ = some (.int .u32 x.o.a) ∧ w.cell? ⟨b, off + j * 3 + 2, none⟩ = some (.slice x.p x.o.ws.length x.c) := by
  rcases h.row with h0 | ⟨b, off, h1, h2, h3⟩
  · rw [h0] at hx; simp at hx
  · refine ⟨b, off, h1, fun w hb => ?_⟩
    obtain ⟨a1, a2, a3⟩ := h3 j x hx
    exact ⟨(hb.cell (p := ⟨b, _, none⟩) h2).trans a1, (hb.cell (p := ⟨b, _, none⟩) h2).trans a2, (hb.cell (p := ⟨b, _, none⟩) h2).trans a3⟩
theorem encode_any (W : World) (ao : Option Addr) (n c : Nat) (l : List Ov) (hn : l.length = n) (h : OL W ao l) (hm : n ≤ 4611686018427387904) :
    Calls Tryz.prog 58 #[.slice ao n c] W fun e W' => Below W.heap.size W W' ∧ encR (l.map Ov.o) e W W' := by
  have HO := hid h
  have HN := hid hn
  have q0 : (n : Int) ≤ 4611686018427387904 := by omega
  clear h hm hn
  go_enter Tryz.func58, Tryz.ntmps58
  go_wp2_with fail
  go_loopw [4, 11] (fun v i wr => ∃ (j : Nat) (L : List Int), j ≤ n ∧ i = .int .i64 (j : Int) ∧ Hid (EncJ W wr l j v L)) (fun _ i _ => n - (intOf i).toNat)
  case atStart => exact ⟨0, [], Nat.zero_le _, rfl, hid (EncJ.start W l)⟩
  case round =>
    obtain ⟨j, L, hj, rfl, HQ⟩ := hrel
    by_cases hlt : j < n
    · obtain ⟨x, hx⟩ : ∃ x, l[j]? = some x := ⟨l[j]'(by rw [HN.out]; exact hlt), List.getElem?_eq_getElem _⟩
      obtain ⟨b, off, rfl, hc⟩ := HO.out.at hx
      obtain ⟨c0, c1, c2⟩ := hc wr HQ.out.hold.below
      have HX := hid hx
      have HJ := hid hlt
      have q1 : (j : Int) < (n : Int) := by omega
      have q2 : (0 : Int) ≤ (j : Int) := by omega
      have HOp := hid (fun w => opOf_any w x.o.k x.o.a x.p x.o.ws.length x.c)
      have HBx : Hid (Below wr.heap.size wr (wr.alloc (.cells #[.int .i64 x.o.k, .int .u32 x.o.a, .slice x.p x.o.ws.length x.c] 53))) := hid (below_one _ _)
      have HMem : Hid (x ∈ l) := hid (List.mem_of_getElem? hx)
      have HI := hid (okk_iff x.o)
      have HA := hid (HO.out.ws x HMem.out)
      obtain ⟨av, cv, hv, _⟩ := HQ.out.hold.at'
      subst hv
      clear hx hlt hc hj
      obtain ⟨⟨xk, xa, xw⟩, xp, xc⟩ := x
      simp only at HOp HBx c0 c1 c2 HI HA
      cases ho : okk xk xw.length
      · rw [ho] at HOp HI
        simp only [Bool.false_eq_true, if_false] at HOp
        clear ho
        go_wp2_with (go_at_call 105; refine (HOp.out _).mono ?_; rintro e w1 ⟨rfl, hb⟩; have HC := hid (below_on HBx.out hb); clear hb)
        go_ret2
        refine ⟨below_on HQ.out.hold.below HC.out, .inl ⟨⟨_, List.mem_map_of_mem HMem.out, ?_⟩, rfl⟩⟩
        exact fun hk => absurd (HI.out.2 hk) (by decide)
      · rw [ho] at HOp HI
        simp only [if_true] at HOp
        have hok : (⟨xk, xa, xw⟩ : MOp).Ok := HI.out.1 rfl
        by_cases hL : L.length ≤ 262144
        · have HLy := hid (fun w (hw : Holds W w .u32 43 (.slice av L.length cv) L) => lay_any W w _ L hw (by omega) ⟨xk, xa, xw⟩ hok xp xc HA.out)
          have hLi : (L.length : Int) ≤ 262144 := by omega
          have HK := hid hok
          have HLl := hid hL
          clear ho hok hL
          simp only at HLy
          generalize ivk xk xa xp xw.length xc = iv at *
          go_wp2_with (first | (go_at_call 105; refine (HOp.out _).mono ?_; rintro e w1 ⟨rfl, hb⟩; have HC := hid (below_on HBx.out hb); clear hb) | (go_at_call 108; refine (HLy.out _ (holds_on HQ.out.hold HC.out)).mono ?_; rintro e w2 ⟨v2, rfl, h2⟩; have H2 := hid h2; clear h2))
          go_roundw
          case measure => have := HJ.out; simp [intOf] <;> omega
          case rel => exact ⟨j + 1, _, HJ.out, by simp, hid (HQ.out.more _ HX.out HK.out HLl.out H2.out)⟩
        · have hLi : ¬ ((L.length : Int) ≤ 262144) := by omega
          have HK := hid hok
          have HLl := hid (show 262144 < L.length by omega)
          clear ho hok hL
          generalize ivk xk xa xp xw.length xc = iv at *
          go_wp2_with (first | (go_at_call 105; refine (HOp.out _).mono ?_; rintro e w1 ⟨rfl, hb⟩; have HC := hid (below_on HBx.out hb); clear hb))
          go_roundw
          case measure => have := HJ.out; simp [intOf] <;> omega
          case rel => exact ⟨j + 1, _, HJ.out, by simp, hid (HQ.out.skip _ HX.out HK.out HLl.out (holds_on HQ.out.hold HC.out))⟩
    · obtain rfl : j = n := by omega
      have HF : Hid ((∀ o ∈ l.map Ov.o, o.Ok) ∧ (L = enc (l.map Ov.o) ∨ 262144 < L.length ∧ 262144 < (enc (l.map Ov.o)).length)) := hid (by
        refine ⟨fun o ho => ?_, ?_⟩
        · obtain ⟨x, hx, rfl⟩ := List.mem_map.1 ho
          obtain ⟨i, hi⟩ := List.mem_iff_getElem?.1 hx
          exact HQ.out.ok i x (by rw [← HN.out]; exact (List.getElem?_eq_some_iff.1 hi).1) hi
        · have := HQ.out.is
          rwa [← HN.out, List.take_length] at this)
      obtain ⟨av, cv, hv, _⟩ := HQ.out.hold.at'
      subst hv
      clear hj hlt
      by_cases hL : L.length ≤ 262144
      · have hLi : (L.length : Int) ≤ 262144 := by omega
        have HLl := hid hL
        clear hL
        go_wp2_with fail
        go_ret2
        refine ⟨HQ.out.hold.below, .inr (.inr ?_)⟩
        rcases HF.out.2 with e | ⟨e, _⟩
        · exact ⟨HF.out.1, by rw [← e]; exact HLl.out, _, rfl, by rw [← e]; exact HQ.out.hold⟩
        · have := HLl.out; omega
      · have hLi : (262144 : Int) < (L.length : Int) := by omega
        have HLl := hid (show 262144 < L.length by omega)
        clear hL
        go_wp2_with fail
        go_ret2
        refine ⟨HQ.out.hold.below, .inr (.inl ?_)⟩
        rcases HF.out.2 with e | ⟨_, e⟩
        · exact ⟨HF.out.1, by rw [← e]; exact HLl.out, rfl⟩
        · exact ⟨HF.out.1, e, rfl⟩
end Go.Proofs.YtdfnbcbnmiohnaaGreatDoor.Q
