import Derived.Test.YtdfnbcbnmiohnaaGreatDoorP07
import Derived.Test.YtdfnbcbnmiohnaaGreatDoorP09
import Derived.Test.YtdfnbcbnmiohnaaGreatDoorP01
namespace Go.Proofs.YtdfnbcbnmiohnaaGreatDoor.Q
open Go.RowKit
open Go.Proofs.YtdfnbcbnmiohnaaGreatDoor.H
set_option maxHeartbeats 4000000
set_option maxRecDepth 100000
theorem Cel.setr {w : World} {g : Nat} {t : TypeId} {cs : List Value} (h : Cel w g t cs) (vs : List Value) : Cel (w.setRow g vs.toArray) g t vs := setRow_heap w g _ _ t _ h
theorem _root_.Go.Proofs.YtdfnbcbnmiohnaaGreatDoor.H.Cel.on {w w' : World} {g : Nat} {t : TypeId} {cs : List Value} (h : Cel w g t cs) (hb : Below w.heap.size w w') : Cel w' g t cs := h.below hb h.lt
theorem wp_store_st {P : Program} {op : Oper} {a : Act} {w : World} {K : Act → World → Prop} {Q : Exit → Act → World → Prop} (ty : TypeId) (x y : Operand) (ho : op.op = .store ty x y)
    (g : Nat) (vs : List Value) (hx : a.eval x = .pointer (some ⟨g, 0, none⟩)) (hy : a.eval y = .agg vs.toArray) {e : TypeId} {cs : List Value} (hg : Cel w g e cs) (hi : (P.info? ty).map (·.size) = some vs.length) (hl : cs.length = vs.length) (h1 : vs.all (·.oneCell') = true)
    (h : ∀ w', Cel w' g e vs → But g w w' → w'.heap.size = w.heap.size → K (a.put op.dst undef) w') : op.wp P a w K Q := by
  have hs : (Instr.storeAt ty (.pointer (some ⟨g, 0, none⟩)) (.agg vs.toArray)).run P w = .ok () (w.setRow g vs.toArray) := by
    simp only [Instr.storeAt, Instr.sureAddr, Sem.run_bind, Sem.run_pure, Result.andThen]
    exact run_storeVar_row w g e ty _ _ hg (by rw [hi]; simp) (by simp [hl]) (by simpa using h1)
  unfold Oper.wp execOp
  simp only [ho, hx, hy, Sem.run_bind, Sem.run_pure, hs, Result.andThen_ok]
  exact h _ (Cel.setr hg _) (but_setRow _ _ _) (by simp)
def cutA (b off c e : Nat) : Addr := if c = e then ⟨b, off, none⟩ else ⟨b, off + e, none⟩
def zop : List Value := [.int .i64 0, .int .u32 0, .slice none 0 0]
theorem wrap_i64 (x : Int) (h0 : -9223372036854775808 ≤ x) (h1 : x < 9223372036854775808) : IntKind.wrap .i64 x = x := by
  rw [IntKind.wrap_i64]; omega
theorem wpList_store_st {P : Program} {ops : Array Oper} {rest : List Oper} {o : Oper} {a : Act} {w : World} {Q : Exit → Act → World → Prop} (hgd : o.guard = none) (ty : TypeId) (x y : Operand) (ho : o.op = .store ty x y)
    (g : Nat) (vs : List Value) (hx : a.eval x = .pointer (some ⟨g, 0, none⟩)) (hy : a.eval y = .agg vs.toArray) {e : TypeId} {cs : List Value} (hg : Cel w g e cs) (hi : (P.info? ty).map (·.size) = some vs.length) (hl : cs.length = vs.length) (h1 : vs.all (·.oneCell') = true)
    (h : ∀ w', Cel w' g e vs → But g w w' → w'.heap.size = w.heap.size → wpList P ops Q rest (a.put o.dst undef) w') : wpList P ops Q (o :: rest) a w :=
  wpList_store_row hgd ty x y ho g _ hx hy e _ hg (by rw [hi]; simp) (by simp [hl]) (by simpa using h1) (h _ (Cel.setr hg _) (but_setRow _ _ _) (by simp))
theorem cel_range {w : World} {g : Nat} {t : TypeId} {cs : List Value} (h : Cel w g t cs) : w.rangeAt g 0 cs := fun j v hv => by rw [Nat.zero_add, h.cell j]; exact hv
theorem own_but {w w' : World} {B : Nat} {e : TypeId} {s : Nat} {v : Value} {n : Nat} {L : List Value} {g : Nat} (h : w.ownsRow B e s v n L) (hb : But g w w') (hn : ¬ v.ownBlock = some g) : w'.ownsRow B e s v n L :=
  ⟨h.1, h.2.imp id fun ⟨gg, cap, cur, hv, hB, hg, r⟩ => ⟨gg, cap, cur, hv, hB, (hb.block gg (Array.getElem?_eq_some_iff.1 hg).1 (fun e => hn (by rw [hv, ← e]; rfl))).trans hg, r⟩⟩
open Go.Proofs.YtdfnbcbnmiohnaaGreatDoor.H
set_option maxHeartbeats 4000000
set_option maxRecDepth 100000
def OW (W wr : World) (x : Ov) : Prop := wr.ownsRow W.heap.size 43 1 (.slice x.p x.o.ws.length x.c) x.o.ws.length (x.o.ws.map (Value.int .u32))
structure HO (W wr : World) (v : Value) (l : List Ov) : Prop where
  own : wr.ownsRow W.heap.size 53 3 v l.length (l.flatMap Ov.cs)
  below : Below W.heap.size W wr
  ws : ∀ x ∈ l, OW W wr x
  apart : l.Pairwise (fun x y => ∀ g, (Value.slice x.p x.o.ws.length x.c).ownBlock = some g → (Value.slice y.p y.o.ws.length y.c).ownBlock ≠ some g)
theorem HO.start (W : World) : HO W W (.slice none 0 0) [] := ⟨World.ownsRow_nil _ _ _ _, Below.refl _ _, by simp, .nil⟩
theorem HO.on {W w w' : World} {v : Value} {l : List Ov} (h : HO W w v l) (hb : Below w.heap.size w w') : HO W w' v l :=
  ⟨ownsRow_below h.own hb, below_on h.below hb, fun x hx => ownsRow_below (h.ws x hx) hb, h.apart⟩
theorem own_blk {w : World} {B : Nat} {e : TypeId} {s : Nat} {v : Value} {n : Nat} {L : List Value} (h : w.ownsRow B e s v n L) {g : Nat} (hg : v.ownBlock = some g) : B ≤ g ∧ ∃ cur, w.heap[g]? = some (.cells cur e (0, 0)) := by
  rcases h.2 with ⟨rfl, _⟩ | ⟨gg, cap, cur, rfl, h1, h2, _⟩
  · cases hg
  · obtain rfl : gg = g := Option.some.inj hg
    exact ⟨h1, cur, h2⟩
theorem OW.at {W wr : World} {x : Ov} (h : OW W wr x) : At wr .u32 x.p x.o.ws := by
  rcases h.2 with ⟨e, h0⟩ | ⟨g, cap, cur, hv, hg, hh, hn, hm, hs, ht⟩
  · exact .inl (List.eq_nil_of_length_eq_zero h0)
  · injection hv with e1 _ e3
    refine .inr ⟨g, 0, e1, (Array.getElem?_eq_some_iff.1 hh).1, fun i hi => ?_⟩
    have := World.ownsRow.cellAt (w := wr) (base := W.heap.size) (e := 43) (size := 1) (g := g) (n := x.o.ws.length) (xs := x.o.ws.map (Value.int .u32)) ⟨h.1, .inr ⟨g, cap, cur, rfl, hg, hh, hn, hm, hs, ht⟩⟩ i (by omega)
    rw [Nat.zero_add, this]
    simp [List.getD_eq_getElem?_getD, hi]
theorem flat_get (l : List Ov) (i j : Nat) (x : Ov) (h : l[i]? = some x) (hj : j < 3) : (l.flatMap Ov.cs)[i * 3 + j]? = x.cs[j]? := by
  induction l generalizing i with
  | nil => simp at h
  | cons y l ih =>
    cases i with
    | zero =>
      simp only [tqG, Option.some.injEq] at h
      subst h
      rw [List.flatMap_cons, List.getElem?_append_left (by simp [Ov.cs]; omega)]
      simp
    | succ i =>
      rw [tqH] at h
      rw [List.flatMap_cons, List.getElem?_append_right (by simp [Ov.cs]; omega), show (i + 1) * 3 + j - y.cs.length = i * 3 + j by simp [Ov.cs]; omega]
      exact ih i h
theorem HO.ol {W wr : World} {v : Value} {l : List Ov} (h : HO W wr v l) : ∃ ao c, v = .slice ao l.length c ∧ l.length ≤ c ∧ OL wr ao l := by
  rcases h.own.2 with ⟨rfl, h0⟩ | ⟨g, cap, cur, rfl, hg, hh, hn, hm, hs, ht⟩
  · exact ⟨none, 0, by rw [h0], by omega, .inl (List.eq_nil_of_length_eq_zero h0), fun x hx => (h.ws x hx).at⟩
  · refine ⟨_, cap, rfl, hn, .inr ⟨g, 0, rfl, (Array.getElem?_eq_some_iff.1 hh).1, fun i x hx => ?_⟩, fun x hx => (h.ws x hx).at⟩
    have hi : i < l.length := (List.getElem?_eq_some_iff.1 hx).1
    have key : ∀ j, j < 3 → wr.cell? ⟨g, i * 3 + j, none⟩ = x.cs[j]? := fun j hj => by
      rw [h.own.cellAt (i * 3 + j) (by omega), flat_get l i j x hx hj]
    refine ⟨?_, ?_, ?_⟩
    · have := key 0 (by decide); simpa [Ov.cs] using this
    · have := key 1 (by decide); simpa [Ov.cs] using this
    · have := key 2 (by decide); simpa [Ov.cs] using this
end Go.Proofs.YtdfnbcbnmiohnaaGreatDoor.Q
