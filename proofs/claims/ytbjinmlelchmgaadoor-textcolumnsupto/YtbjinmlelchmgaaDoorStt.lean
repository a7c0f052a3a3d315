/- A line, its words and a piece, side by side. -/
import Derived.Test.YtbjinmlelchmgaaDoorHead
import Derived.Test.YtbjinmlelchmgaaDoorBack3
import Derived.Test.YtbjinmlelchmgaaDoorPln
namespace Go.Proofs.YtbjinmlelchmgaaDoor
open Go.RowKit

theorem HB.nil {W w : World} (hb : Below W.heap.size W w) : HB W w (.slice none 0 0) [] := ⟨World.ownsRow_nil w _ 5 1, hb⟩
theorem HW.nil {W w : World} (hb : Below W.heap.size W w) : HW W w (.slice none 0 0) [] := ⟨World.ownsRow_nil w _ 30 3, hb⟩
/-- A block of another type stays behind an append. -/
theorem keep_block {w w' : World} {B n g : Nat} {e e' : TypeId} {z : Nat} {v : Value} {xs : List Value} {cur : Array Value} {fr : Nat × Nat} (hown : w.ownsRow B e z v n xs) (h2 : w.grownBy w' v.ownBlock) (hg : w.heap[g]? = some (.cells cur e' fr)) (hne : e' ≠ e) : w'.heap[g]? = some (.cells cur e' fr) := by
  rw [h2.block g (Array.getElem?_eq_some_iff.1 hg).1 ?_]
  · exact hg
  · intro he
    rcases hown.2 with ⟨rfl, _⟩ | ⟨g', cap, cur', rfl, _, hg', _⟩
    · cases he
    · simp only [Value.ownBlock, Option.some.injEq] at he
      subst he
      rw [hg] at hg'
      injection hg' with hh
      injection hh with h1 h2 h3
      exact hne h2
theorem HW.grown {W w w' : World} {u : Value} {ws : List T.Wd} {v : Value} {n : Nat} {xs : List Value} {e : TypeId} {z : Nat} (h : HW W w u ws) (hown : w.ownsRow W.heap.size e z v n xs) (h2 : w.grownBy w' v.ownBlock) (hne : (30 : TypeId) ≠ e) : HW W w' u ws :=
  ⟨⟨h.own.1, h.own.2.imp id fun ⟨g, cap, cur, hv, hb, hg, r⟩ => ⟨g, cap, cur, hv, hb, keep_block hown h2 hg hne, r⟩⟩, h.below.grown h2 h.below.size fun g hg => (hown.lt g hg).1⟩
theorem HB.grown {W w w' : World} {u : Value} {l : List UInt8} {v : Value} {n : Nat} {xs : List Value} {e : TypeId} {z : Nat} (h : HB W w u l) (hown : w.ownsRow W.heap.size e z v n xs) (h2 : w.grownBy w' v.ownBlock) (hne : (5 : TypeId) ≠ e) : HB W w' u l :=
  ⟨⟨h.own.1, h.own.2.imp id fun ⟨g, cap, cur, hv, hb, hg, r⟩ => ⟨g, cap, cur, hv, hb, keep_block hown h2 hg hne, r⟩⟩, h.below.grown h2 h.below.size fun g hg => (hown.lt g hg).1⟩
structure St (W wr : World) (v u : Value) (l : List UInt8) (ws : List T.Wd) (P0 : Nat) (C : Array Value) : Prop where
  b : HB W wr v l
  w : HW W wr u ws
  p : wr.heap[P0]? = some (.cells C 27)
theorem St.cell {W wr : World} {v u : Value} {l : List UInt8} {ws : List T.Wd} {P0 : Nat} {C : Array Value} (h : St W wr v u l ws P0 C) (i : Nat) : wr.cell? ⟨P0, i, none⟩ = C[i]? := by simp [World.cell?, h.p]
theorem St.alloc {W wr : World} {v u : Value} {l : List UInt8} {ws : List T.Wd} {P0 : Nat} {C : Array Value} (h : St W wr v u l ws P0 C) (o : Obj) : St W (wr.alloc o) v u l ws P0 C := ⟨h.b.alloc o, h.w.alloc o, by rw [Below.heap_alloc _ _ _ (Array.getElem?_eq_some_iff.1 h.p).1]; exact h.p⟩
theorem St.on {W wr w : World} {v u : Value} {l : List UInt8} {ws : List T.Wd} {P0 : Nat} {C : Array Value} (h : St W wr v u l ws P0 C) (hb : Below wr.heap.size wr w) : St W w v u l ws P0 C := ⟨h.b.on hb, h.w.on hb, by rw [hb.block _ (Array.getElem?_eq_some_iff.1 h.p).1]; exact h.p⟩
theorem St.drew {W wr : World} {v u : Value} {l : List UInt8} {ws : List T.Wd} {P0 : Nat} {C : Array Value} (h : St W wr v u l ws P0 C) : St W wr.drew v u l ws P0 C := ⟨h.b.drew, ⟨h.w.own, h.w.below.drew⟩, h.p⟩
theorem wpList_append_st {P : Program} {W w : World} {ops : Array Oper} {rest : List Oper} {o : Oper} {a : Act} {Q : Exit → Act → World → Prop} (hgd : o.guard = none) (s x : Operand) (t : TypeId)
    (ho : o.op = .call { callee := .builtin .append, args := #[s, x], argTypes := #[t, t] }) (i : TypeInfo) (ht : P.underlying t = some (.slice 5)) (hi : P.info? 5 = some i) (hz : i.zero = some (.int .u8 0)) (hsize : i.size = 1) (hby : i.bytes = 1)
    (v u : Value) (l : List UInt8) (ws : List T.Wd) (P0 : Nat) (C : Array Value) (hs : a.eval s = v) (H : St W w v u l ws P0 C) (ad : Addr) (n c : Nat) (m : List UInt8) (hx : a.eval x = .slice (some ad) n c) (hl : m.length = n) (hc : ∀ j u, (Lib.byteCells m)[j]? = some u → w.cell? (ad.add j) = some u) (h63 : l.length + n ≤ 140737488355328)
    (h : ∀ v' w', St W w' v' u (l ++ m) ws P0 C → wpList P ops Q rest (a.put o.dst v') w') : wpList P ops Q (o :: rest) a w := by
  subst hl
  obtain ⟨v', w', hr, h1, h2, _⟩ := run_append_own (P := P) w W.heap.size t o.type 5 i (.int .u8 0) 1 1 ht hi hz hsize hby rfl (by decide) v l.length _ H.b.own ad m.length c (Lib.byteCells m) (by simp [Lib.byteCells]) hc (byteCells_one m) (by unfold maxLen; omega) (by omega) H.b.below.size
  refine wpList_plain hgd fun K hK => ?_
  unfold Oper.wp execOp
  simp only [ho, resolve, invoke, builtin, Sem.run_bind, Sem.run_pure, Result.andThen_ok, List.map_toArray, List.map_cons, List.map_nil, hs, hx, hr]
  exact hK _ _ (h _ _ ⟨H.b.grow h1 h2, H.w.grown H.b.own h2 (by decide), keep_block H.b.own h2 H.p (by decide)⟩)
theorem wpList_append_st_none {P : Program} {W w : World} {ops : Array Oper} {rest : List Oper} {o : Oper} {a : Act} {Q : Exit → Act → World → Prop} (hgd : o.guard = none) (s x : Operand) (t : TypeId)
    (ho : o.op = .call { callee := .builtin .append, args := #[s, x], argTypes := #[t, t] }) (i : TypeInfo) (ht : P.underlying t = some (.slice 5)) (hi : P.info? 5 = some i)
    (v u : Value) (l : List UInt8) (ws : List T.Wd) (P0 : Nat) (C : Array Value) (hs : a.eval s = v) (H : St W w v u l ws P0 C) (hx : a.eval x = .slice none 0 0)
    (h : wpList P ops Q rest (a.put o.dst v) w) : wpList P ops Q (o :: rest) a w :=
  wpList_append_own_none hgd s x t ho W.heap.size 5 i 1 ht hi v l.length _ hs H.b.own hx h
theorem wpList_append_st_str {P : Program} {W w : World} {ops : Array Oper} {rest : List Oper} {o : Oper} {a : Act} {Q : Exit → Act → World → Prop} (hgd : o.guard = none) (s x : Operand) (t t2 : TypeId)
    (ho : o.op = .call { callee := .builtin .append, args := #[s, x], argTypes := #[t, t2] }) (i : TypeInfo) (ht : P.underlying t = some (.slice 5)) (ht2 : P.underlying t2 = some .string) (hi : P.info? 5 = some i) (hz : i.zero = some (.int .u8 0)) (hsize : i.size = 1) (hby : i.bytes = 1)
    (v u : Value) (l : List UInt8) (ws : List T.Wd) (P0 : Nat) (C : Array Value) (hs : a.eval s = v) (H : St W w v u l ws P0 C) (m : List UInt8) (hx : a.eval x = .string ⟨m.toArray⟩) (h63 : l.length + m.length ≤ 140737488355328)
    (h : ∀ v' w', St W w' v' u (l ++ m) ws P0 C → wpList P ops Q rest (a.put o.dst v') w') : wpList P ops Q (o :: rest) a w := by
  have hsz : (⟨m.toArray⟩ : ByteArray).size = m.length := by simp [ByteArray.size]
  refine Lib.wpList_append_own_string w hgd s x t t2 ho W.heap.size 5 i ht ht2 hi hz hsize hby v l.length _ hs H.b.own ⟨m.toArray⟩ hx (by rw [hsz]; unfold maxLen; omega) (by rw [hsz]; omega) H.b.below.size ?_
  intro v' w' h1 h2 _
  rw [hsz] at h1
  exact h _ _ ⟨H.b.grow h1 h2, H.w.grown H.b.own h2 (by decide), keep_block H.b.own h2 H.p (by decide)⟩
theorem wpList_append_stw {P : Program} {W w : World} {ops : Array Oper} {rest : List Oper} {o : Oper} {a : Act} {Q : Exit → Act → World → Prop} (hgd : o.guard = none) (s x : Operand) (t : TypeId)
    (ho : o.op = .call { callee := .builtin .append, args := #[s, x], argTypes := #[t, t] }) (i : TypeInfo) (ht : P.underlying t = some (.slice 30)) (hi : P.info? 30 = some i) (hz : i.zero = some (.agg #[.string ⟨#[]⟩, .bool false, .int .i64 0])) (hsize : i.size = 3) (hby : i.bytes = 32)
    (v u : Value) (l : List UInt8) (ws : List T.Wd) (P0 : Nat) (C : Array Value) (hs : a.eval s = u) (H : St W w v u l ws P0 C) (ad : Addr) (c : Nat) (m : T.Wd) (hx : a.eval x = .slice (some ad) 1 c) (hc : ∀ j u, (wdC m)[j]? = some u → w.cell? (ad.add j) = some u) (h63 : ws.length ≤ 1000000000)
    (h : ∀ u' w', St W w' v u' l (ws ++ [m]) P0 C → wpList P ops Q rest (a.put o.dst u') w') : wpList P ops Q (o :: rest) a w := by
  obtain ⟨v', w', hr, h1, h2, _⟩ := run_append_own (P := P) w W.heap.size t o.type 30 i _ 3 32 ht hi hz hsize hby rfl (by decide) u ws.length _ H.w.own ad 1 c (wdC m) rfl hc (by simp [wdC, Value.oneCell']) (by unfold maxLen; omega) (by omega) H.w.below.size
  refine wpList_plain hgd fun K hK => ?_
  unfold Oper.wp execOp
  simp only [ho, resolve, invoke, builtin, Sem.run_bind, Sem.run_pure, Result.andThen_ok, List.map_toArray, List.map_cons, List.map_nil, hs, hx, hr]
  refine hK _ _ (h _ _ ⟨H.b.grown H.w.own h2 (by decide), ⟨?_, H.w.below.grown h2 H.w.below.size fun g hg => (H.w.own.lt g hg).1⟩, keep_block H.w.own h2 H.p (by decide)⟩)
  rw [wdsC_append, List.length_append]
  simpa [wdsC] using h1
/-- Bytes that came in read as a text. -/
theorem AtB.conv {W : World} {ao : Option Addr} {l : List UInt8} {n c : Nat} (h : AtB W ao l) (hl : l.length = n) (hs : ao = none → c = 0) (w : World) (hb : Below W.heap.size W w) : (convert 24 9 (.slice ao n c)).run Tryd.prog w = .ok (.string ⟨l.toArray⟩) w := by
  subst hl
  rcases h with rfl | ⟨b, off, rfl, hlt, hc⟩
  · cases ao with
    | none =>
      obtain rfl := hs rfl
      rw [List.length_nil, run_convert_bytes_string (P := Tryd.prog) w 24 9 5 none 0 0 Tryd.underlying24 Tryd.underlying5 Tryd.underlying9]
      rfl
    | some a => exact run_convert_bytes_back (P := Tryd.prog) w 24 9 5 a c [] Tryd.underlying24 Tryd.underlying5 Tryd.underlying9 (fun j hj => by simp at hj)
  · exact run_convert_bytes_back (P := Tryd.prog) w 24 9 5 ⟨b, off, none⟩ c l Tryd.underlying24 Tryd.underlying5 Tryd.underlying9 (fun j hj => by rw [Addr.add_mid, hb.cell (p := ⟨b, off + j, none⟩) hlt]; exact hc j hj)
theorem AtB.cells {W w : World} {ad : Addr} {l : List UInt8} (h : AtB W (some ad) l) (hb : Below W.heap.size W w) : ∀ j u, (Lib.byteCells l)[j]? = some u → w.cell? (ad.add j) = some u := by
  intro j u hu
  rcases h with rfl | ⟨b, off, he, hlt, hc⟩
  · simp [Lib.byteCells] at hu
  · have := Option.some.inj he
    subst this
    have hj : j < l.length := by
      rcases Nat.lt_or_ge j l.length with h | h
      · exact h
      · simp [Lib.byteCells, List.getElem?_eq_none h] at hu
    rw [Addr.add_mid, hb.cell (p := ⟨b, off + j, none⟩) hlt, hc j hj]
    simpa [Lib.byteCells, hj] using hu
theorem AtB.on {W w : World} {ao : Option Addr} {l : List UInt8} (h : AtB W ao l) (hb : Below W.heap.size W w) : AtB w ao l := by
  rcases h with h0 | ⟨g, o, hg, hlt, hc⟩
  · exact .inl h0
  · refine .inr ⟨g, o, hg, Nat.lt_of_lt_of_le hlt hb.size, fun i hi => ?_⟩
    rw [hb.cell (p := ⟨g, o + i, none⟩) hlt]
    exact hc i hi
/-- A piece that came in. -/
structure PcAt (W : World) (b o : Nat) (pc : T.Pc) (ao : Option Addr) (c : Nat) : Prop where
  q : W.cell? ⟨b, o, none⟩ = some (.bool pc.quoted)
  s : W.cell? ⟨b, o + 1, none⟩ = some (.slice ao pc.b.length c)
  g : W.cell? ⟨b, o + 2, none⟩ = some (.int .i64 pc.gap)
  t : W.cell? ⟨b, o + 3, none⟩ = some (.bool pc.tab)
  at' : AtB W ao pc.b
  nil : ao = none → c = 0
  lt : b < W.heap.size
end Go.Proofs.YtbjinmlelchmgaaDoor
