/- The law's row 36, acted 20. -/
import Derived.Test.YtajkhkaidjjioaaM6
import Derived.OwnWalk
namespace Go.Proofs.Ytajkhkaidjjioaa
open Go.RowKit
/-- A list of words of the call's own. -/
structure Hl (W wr : World) (v : Value) (L : List Int) : Prop where
  own : wr.ownsRow W.heap.size 27 1 v L.length (u32s L)
  below : Below W.heap.size W wr
theorem Hl.start (W : World) : Hl W W (.slice none 0 0) [] := ⟨World.ownsRow_nil _ _ _ _, Below.refl _ _⟩
theorem Hl.on {W w w' : World} {v : Value} {L : List Int} (h : Hl W w v L) (hb : Below w.heap.size w w') : Hl W w' v L :=
  ⟨⟨h.own.1, h.own.2.imp id fun ⟨g, cap, cur, hv, hB, hg, r⟩ => ⟨g, cap, cur, hv, hB, (hb.block g (Array.getElem?_eq_some_iff.1 hg).1).trans hg, r⟩⟩, below_on h.below hb⟩
theorem Hl.form {W w : World} {v : Value} {L : List Int} (h : Hl W w v L) : ∃ ao c, v = .slice ao L.length c ∧ (0 < L.length → ∃ g, ao = some ⟨g, 0, none⟩ ∧ W.heap.size ≤ g ∧ g < w.heap.size ∧ (∃ cur, w.heap[g]? = some (.cells cur 27 (0, 0))) ∧ ∀ j u, (u32s L)[j]? = some u → w.cell? ⟨g, j, none⟩ = some u) := by
  rcases h.own.2 with ⟨hv, h0⟩ | ⟨g, cap, cur, hv, hB, hg, r⟩
  · exact ⟨none, 0, by rw [hv, h0], fun hp => by omega⟩
  · refine ⟨some ⟨g, 0, none⟩, cap, hv, fun _ => ⟨g, rfl, hB, (Array.getElem?_eq_some_iff.1 hg).1, ⟨cur, hg⟩, fun j u hu => ?_⟩⟩
    have := h.own.cells (g := g) (by rw [hv]; rfl) j u hu
    rwa [Addr.add_mid, Nat.zero_add] at this
theorem wpList_append_w {W w : World} {ops : Array Oper} {rest : List Oper} {o : Oper} {a : Act} {Q : Exit → Act → World → Prop} (hgd : o.guard = none) (s x : Operand)
    (ho : o.op = .call { callee := .builtin .append, args := #[s, x], argTypes := #[32, 32] }) (v : Value) (L : List Int) (hs : a.eval s = v) (H : Hl W w v L) (ad : Addr) (m c : Nat) (xs : List Int) (hx : a.eval x = .slice (some ad) m c) (hl : xs.length = m)
    (hsrc : ∀ j u, (u32s xs)[j]? = some u → w.cell? (ad.add j) = some u) (hbytes : (L.length + m) * 4 ≤ 140737488355328)
    (h : ∀ v' w', Hl W w' v' (L ++ xs) → w.grownBy w' v.ownBlock → wpList Try.prog ops Q rest (a.put o.dst v') w') : wpList Try.prog ops Q (o :: rest) a w := by
  obtain ⟨i, hi, hz, hsize, hby⟩ := info_parts info32
  obtain ⟨v', w', hr, h1, h2, _⟩ := run_append_own (P := Try.prog) w W.heap.size 32 o.type 27 i (.int .u32 0) 1 4 under24 hi hz hsize hby rfl (by decide) v L.length _ H.own ad m c (u32s xs) (by rw [u32s_len, hl, Nat.mul_one]) hsrc (u32s_one xs) (by unfold maxLen; omega) hbytes H.below.size
  have hH : Hl W w' v' (L ++ xs) := ⟨by
    have e : u32s (L ++ xs) = u32s L ++ u32s xs := by simp [u32s]
    rw [e, List.length_append, hl]; exact h1, H.below.grown h2 H.below.size (fun g hg => (H.own.lt g hg).1)⟩
  refine wpList_plain hgd fun K hK => ?_
  unfold Oper.wp execOp
  simp only [ho, resolve, invoke, builtin, Sem.run_bind, Sem.run_pure, Result.andThen_ok, List.map_toArray, List.map_cons, List.map_nil, hs, hx, hr]
  exact hK _ _ (h _ _ hH h2)
theorem new_src (w : World) (x : Int) : ∀ j u, (u32s [x])[j]? = some u → (w.alloc (.cells #[.int .u32 x] 27)).cell? ((⟨w.heap.size, 0, none⟩ : Addr).add j) = some u :=
  (Cel.new w 27 (u32s [x])).src
end Go.Proofs.Ytajkhkaidjjioaa
