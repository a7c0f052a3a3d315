/- Decode. -/
import Derived.Test.YtmomidkodjihjaaDoorMe
namespace Go.Proofs.YtmomidkodjihjaaDoor
open Go.RowKit
open H
set_option maxHeartbeats 4000000
set_option maxRecDepth 100000
theorem Tryd.info43 : (Tryd.prog.info? 43).map (fun i => (i.zero, i.size, i.bytes)) = some (some (.agg #[.int .i64 0, .int .u32 0, .slice none 0 0]), 3, 40) := by kernel_rfl
/-- An operation's words, of the call's own. -/
def OW (W wr : World) (x : Ov) : Prop := wr.ownsRow W.heap.size 24 1 (.slice x.p x.o.ws.length x.c) x.o.ws.length (x.o.ws.map (Value.int .u32))
/-- A list of operations, of the call's own. -/
structure HO (W wr : World) (v : Value) (l : List Ov) : Prop where
  own : wr.ownsRow W.heap.size 43 3 v l.length (l.flatMap Ov.cs)
  below : Below W.heap.size W wr
  ws : ∀ x ∈ l, OW W wr x
  apart : l.Pairwise (fun x y => ∀ g, (Value.slice x.p x.o.ws.length x.c).ownBlock = some g → (Value.slice y.p y.o.ws.length y.c).ownBlock ≠ some g)
theorem HO.start (W : World) : HO W W (.slice none 0 0) [] := ⟨World.ownsRow_nil _ _ _ _, Below.refl _ _, by simp, .nil⟩
theorem HO.on {W w w' : World} {v : Value} {l : List Ov} (h : HO W w v l) (hb : Below w.heap.size w w') : HO W w' v l :=
  ⟨ownsRow_below h.own hb, below_on h.below hb, fun x hx => ownsRow_below (h.ws x hx) hb, h.apart⟩
theorem own_blk {w : World} {B : Nat} {e : TypeId} {s : Nat} {v : Value} {n : Nat} {L : List Value} (h : w.ownsRow B e s v n L) {g : Nat} (hg : v.ownBlock = some g) : B ≤ g ∧ ∃ cur, w.heap[g]? = some (.cells cur e (0, 0)) := by
  rcases h.2 with ⟨rfl, _⟩ | ⟨gg, cap, cur, rfl, h1, h2, _⟩
  · cases hg
  · obtain rfl : gg = g := Option.some.inj hg
    exact ⟨h1, cur, h2⟩
theorem own_grown {w w' : World} {B : Nat} {e : TypeId} {s : Nat} {v : Value} {n : Nat} {L : List Value} {og : Option Nat} (h : w.ownsRow B e s v n L) (hg : w.grownBy w' og) (hn : ∀ g, v.ownBlock = some g → og ≠ some g) : w'.ownsRow B e s v n L :=
  ⟨h.1, h.2.imp id fun ⟨gg, cap, cur, hv, hB, hh, r⟩ => ⟨gg, cap, cur, hv, hB, (hg.block gg (Array.getElem?_eq_some_iff.1 hh).1 (fun e => hn gg (by rw [hv]; rfl) e.symm)).trans hh, r⟩⟩
/-- append of one operation. -/
theorem run_append_o {W w : World} (ty : TypeId) {v : Value} {l : List Ov} (H : HO W w v l) (g : Nat) (x : Ov) (hc : Cel w g 43 x.cs) (hx : OW W w x) (hap : ∀ y ∈ l, ∀ g, (Value.slice y.p y.o.ws.length y.c).ownBlock = some g → (Value.slice x.p x.o.ws.length x.c).ownBlock ≠ some g) (hb : (l.length + 1) * 40 ≤ 140737488355328) :
    ∃ v' w', (Builtin.append_ #[25, 25] ty #[v, .slice (some ⟨g, 0, none⟩) 1 1]).run Tryd.prog w = .ok v' w' ∧ HO W w' v' (l ++ [x]) := by
  obtain ⟨i, hi, hz, hsize, hby⟩ := info_parts Tryd.info43
  obtain ⟨v', w', hr, h1, h2, _⟩ := run_append_own (P := Tryd.prog) w W.heap.size 25 ty 43 i _ 3 40 Tryd.underlying25 hi hz hsize hby rfl (by decide) v l.length _ H.own ⟨g, 0, none⟩ 1 1 x.cs rfl (fun j u hu => by rw [Addr.add_mid, Nat.zero_add, hc.cell j]; exact hu) (fun u hu => by
    simp only [Ov.cs, List.mem_cons, List.not_mem_nil, or_false] at hu
    rcases hu with rfl | rfl | rfl <;> rfl) (by unfold maxLen; omega) hb H.below.size
  have hne : ∀ y, OW W w y → ∀ g, (Value.slice y.p y.o.ws.length y.c).ownBlock = some g → v.ownBlock ≠ some g := fun y hy g hg hv => by
    obtain ⟨_, c1, e1⟩ := own_blk hy hg
    obtain ⟨_, c2, e2⟩ := own_blk H.own hv
    have := Option.some.inj (e1.symm.trans e2)
    injection this with _ h5
    exact absurd h5 (by decide)
  refine ⟨v', w', hr, ?_, H.below.grown h2 H.below.size (fun g hg => (H.own.lt g hg).1), fun y hy => ?_, ?_⟩
  · rw [List.length_append, List.flatMap_append]
    simpa using h1
  · rw [List.mem_append, List.mem_singleton] at hy
    rcases hy with hy | rfl
    · exact own_grown (H.ws y hy) h2 (hne y (H.ws y hy))
    · exact own_grown hx h2 (hne y hx)
  · rw [List.pairwise_append]
    refine ⟨H.apart, List.pairwise_singleton _ _, fun y hy z hz => ?_⟩
    rw [List.mem_singleton] at hz
    subst hz
    exact hap y hy
theorem wpList_append_o {W w : World} {ops : Array Oper} {rest : List Oper} {o : Oper} {a : Act} {Q : Exit → Act → World → Prop} (hgd : o.guard = none) (s x : Operand)
    (ho : o.op = .call { callee := .builtin .append, args := #[s, x], argTypes := #[25, 25] }) (v : Value) (l : List Ov) (hs : a.eval s = v) (H : HO W w v l) (g : Nat) (y : Ov) (hx : a.eval x = .slice (some ⟨g, 0, none⟩) 1 1) (hc : Cel w g 43 y.cs) (hy : OW W w y) (hap : ∀ z ∈ l, ∀ g, (Value.slice z.p z.o.ws.length z.c).ownBlock = some g → (Value.slice y.p y.o.ws.length y.c).ownBlock ≠ some g) (hb : (l.length + 1) * 40 ≤ 140737488355328)
    (h : ∀ v' w', HO W w' v' (l ++ [y]) → wpList Tryd.prog ops Q rest (a.put o.dst v') w') : wpList Tryd.prog ops Q (o :: rest) a w := by
  obtain ⟨v', w', hr, hh⟩ := run_append_o o.type H g y hc hy hap hb
  refine wpList_plain hgd fun K hK => ?_
  unfold Oper.wp execOp
  simp only [ho, resolve, invoke, builtin, Sem.run_bind, Sem.run_pure, Result.andThen_ok, List.map_toArray, List.map_cons, List.map_nil, hs, hx, hr]
  exact hK _ _ (h _ _ hh)
/-- It can be read as a list. -/
theorem OW.at {W wr : World} {x : Ov} (h : OW W wr x) : At wr .u32 x.p x.o.ws := by
  rcases h.2 with ⟨e, h0⟩ | ⟨g, cap, cur, hv, hg, hh, hn, hm, hs, ht⟩
  · exact .inl (List.eq_nil_of_length_eq_zero h0)
  · injection hv with e1 _ e3
    refine .inr ⟨g, 0, e1, (Array.getElem?_eq_some_iff.1 hh).1, fun i hi => ?_⟩
    have := World.ownsRow.cellAt (w := wr) (base := W.heap.size) (e := 24) (size := 1) (g := g) (n := x.o.ws.length) (xs := x.o.ws.map (Value.int .u32)) ⟨h.1, .inr ⟨g, cap, cur, rfl, hg, hh, hn, hm, hs, ht⟩⟩ i (by omega)
    rw [Nat.zero_add, this]
    simp [List.getD_eq_getElem?_getD, hi]
theorem flat_get (l : List Ov) (i j : Nat) (x : Ov) (h : l[i]? = some x) (hj : j < 3) : (l.flatMap Ov.cs)[i * 3 + j]? = x.cs[j]? := by
  induction l generalizing i with
  | nil => simp at h
  | cons y l ih =>
    cases i with
    | zero =>
      simp only [List.getElem?_cons_zero, Option.some.injEq] at h
      subst h
      rw [List.flatMap_cons, List.getElem?_append_left (by simp [Ov.cs]; omega)]
      simp
    | succ i =>
      rw [List.getElem?_cons_succ] at h
      rw [List.flatMap_cons, List.getElem?_append_right (by simp [Ov.cs]; omega), show (i + 1) * 3 + j - y.cs.length = i * 3 + j by simp [Ov.cs]; omega]
      exact ih i h
theorem HO.ol {W wr : World} {v : Value} {l : List Ov} (h : HO W wr v l) : ∃ ao c, v = .slice ao l.length c ∧ l.length ≤ c ∧ OL wr ao l := by
  rcases h.own.2 with ⟨rfl, h0⟩ | ⟨g, cap, cur, rfl, hg, hh, hn, hm, hs, ht⟩
  · exact ⟨none, 0, by rw [h0], by omega, .inl (List.eq_nil_of_length_eq_zero h0), fun x hx => (h.ws x hx).at⟩
  · refine ⟨_, cap, rfl, hn, .inr ⟨g, 0, rfl, (Array.getElem?_eq_some_iff.1 hh).1, fun i x hx => ?_⟩, fun x hx => (h.ws x hx).at⟩
    have hi : i < l.length := (List.getElem?_eq_some_iff.1 hx).1
    have key : ∀ j, j < 3 → wr.cell? ⟨g, i * 3 + j, none⟩ = x.cs[j]? := fun j hj => by
      rw [h.own.cellAt (i * 3 + j) (by omega), flat_get l i j x hx hj]
    refine ⟨?_, ?_, ?_⟩
    · have := key 0 (by decide); simpa [Ov.cs] using this
    · have := key 1 (by decide); simpa [Ov.cs] using this
    · have := key 2 (by decide); simpa [Ov.cs] using this
end Go.Proofs.YtmomidkodjihjaaDoor
