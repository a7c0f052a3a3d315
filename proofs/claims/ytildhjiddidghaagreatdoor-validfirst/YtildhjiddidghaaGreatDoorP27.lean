import Derived.Test.YtildhjiddidghaaGreatDoorP26
import Derived.Test.YtildhjiddidghaaGreatDoorP25
namespace Go.Proofs.YtildhjiddidghaaGreatDoor
open Go.RowKit
theorem Hl.pg {W w : World} {v : Value} {L : List Int} (h : Hl W w v L) (hL : L.length = 1024) : PgIs w v L ∧ (∀ b, blkOf v = some b → W.heap.size ≤ b) := by
  rcases h.own.2 with ⟨hv, h0⟩ | ⟨g, cap, cur, hv, hB, hg, hle, r⟩
  · omega
  · rw [hL] at hv
    refine ⟨⟨hL, .inr ⟨g, cap, cur, hv, hg, ?_⟩⟩, fun b hb => by rw [hv] at hb; simp only [blkOf, Option.some.injEq] at hb; rw [← hb]; exact hB⟩
    apply List.ext_getElem?
    intro j
    by_cases hj : j < 1024
    · have hjl : j < (u32s L).length := by rw [u32s_len, hL]; exact hj
      have hc := h.own.cells (g := g) (by rw [hv]; rfl) j _ (List.getElem?_eq_getElem hjl)
      rw [Addr.add_mid, Nat.zero_add, cell_of_row w g j _ 22 (0, 0) hg] at hc
      rw [List.getElem?_take_of_lt hj, List.getElem?_eq_getElem hjl]
      simpa using hc
    · rw [List.getElem?_take_eq_none (by omega), List.getElem?_eq_none (by rw [u32s_len, hL]; omega)]
set_option maxRecDepth 40000 in
set_option maxHeartbeats 4000000 in
theorem PgIs.grown {W w w' : World} {v x : Value} {L : List Value} {L' : List Int} (h : PgIs w x L') (hv : Hv W w v L) (hgr : w.grownBy w' v.ownBlock) : PgIs w' x L' := by
  refine ⟨h.1, h.2.imp id ?_⟩
  rintro ⟨b, cap, cur, e1, e2, e3⟩
  refine ⟨b, cap, cur, e1, (hgr.block b (Array.getElem?_eq_some_iff.1 e2).1 (fun e => ?_)).trans e2, e3⟩
  obtain ⟨_, cur', hc⟩ := hv.blk (ownBlock_blk hv e.symm)
  rw [hc] at e2
  injection e2 with e2
  injection e2 with _ h4 _
  exact absurd h4 (by decide)
theorem PgIs.setG {w : World} {x : Value} {L' : List Int} (h : PgIs w x L') {g : Nat} {cs : List Value} {t : TypeId} (hg : Cel w g t cs) (ht : t ≠ 22) (j : Nat) (u : Value) : PgIs (w.setCell ⟨g, j, none⟩ u) x L' :=
  h.but (G := [g]) (.setCell _ _ _ _ (by simp)) (fun b hb => by rw [List.mem_singleton]; intro e; subst e; exact ht (h.ty hb hg))
structure CI (w wr : World) (g : Nat) (v : Value) (vs : List Value) (m : MS) (j : Nat) : Prop where
  rb : RB w wr g v vs (m.ns : Int) m.c
  len : vs.length = j
  pg : ∀ k, k < j → PgIs wr (vs.getD k nilV) (m.p k)
  bl : ∀ k, k < j → ∀ b, blkOf (vs.getD k nilV) = some b → w.heap.size ≤ b
  ap : ∀ i k, i < j → k < j → i ≠ k → ∀ b, blkOf (vs.getD i nilV) = some b → blkOf (vs.getD k nilV) ≠ some b
theorem getD_snoc (vs : List Value) (x : Value) (k : Nat) (hk : k < vs.length + 1) : (vs ++ [x]).getD k nilV = if k = vs.length then x else vs.getD k nilV := by
  by_cases e : k = vs.length
  · subst e; rw [if_pos rfl, List.getD_eq_getElem?_getD, List.getElem?_append_right (Nat.le_refl _)]; simp
  · rw [if_neg e, List.getD_eq_getElem?_getD, List.getElem?_append_left (by omega), ← List.getD_eq_getElem?_getD]
theorem CI.snoc {w wr w1 w2 : World} {g : Nat} {v v' x : Value} {vs : List Value} {m : MS} {j : Nat} (h : CI w wr g v vs m j) (hb : Below wr.heap.size wr w1) (hx : PgIs w1 x (m.p j)) (hxb : ∀ b, blkOf x = some b → wr.heap.size ≤ b) (h2 : Hv w w2 v' (vs ++ [x])) (hgr : w1.grownBy w2 v.ownBlock) :
    CI w (w2.setCell ⟨g, 0, none⟩ v') g v' (vs ++ [x]) m (j + 1) := by
  have hrb := h.rb.on hb
  have hlen := h.len
  have key : ∀ (y : Value) (L : List Int), PgIs w1 y L → PgIs (w2.setCell ⟨g, 0, none⟩ v') y L := fun y L hy => (hy.grown hrb.hv hgr).setG (hrb.celG hgr) (by decide) 0 v'
  refine ⟨hrb.grown h2 hgr, by simp [hlen], fun k hk => ?_, fun k hk b => ?_, fun i k hi hk hik b => ?_⟩
  · rw [getD_snoc vs x k (by omega)]
    split
    · rename_i e; rw [e, hlen]; exact key _ _ hx
    · exact key _ _ ((h.pg k (by omega)).on hb)
  · rw [getD_snoc vs x k (by omega)]
    split
    · intro hbx; have := hxb b hbx; have := h.rb.hv.below.size; omega
    · exact h.bl k (by omega) b
  · rw [getD_snoc vs x i (by omega), getD_snoc vs x k (by omega)]
    split
    · rename_i e1
      rw [if_neg (by omega)]
      intro h1 h3
      have a := hxb b h1
      have c := (h.pg k (by omega)).lt h3
      omega
    · split
      · intro h1 h3
        have a := hxb b h3
        have c := (h.pg i (by omega)).lt h1
        omega
      · exact h.ap i k (by omega) (by omega) hik b
theorem Hl.blk {W w : World} {v : Value} {L : List Int} (h : Hl W w v L) {b : Nat} (hb : blkOf v = some b) : W.heap.size ≤ b := by
  rcases h.own.2 with ⟨hv, h0⟩ | ⟨g, cap, cur, hv, hB, hg, r⟩
  · rw [hv] at hb; cases hb
  · rw [hv] at hb
    simp only [blkOf, Option.some.injEq] at hb
    subst hb
    exact hB
end Go.Proofs.YtildhjiddidghaaGreatDoor
