/- A document's database that is being made (New, Clone, Load). -/
import Derived.Test.YtajkhkaidjjioaaS0
namespace Go.Proofs.Ytajkhkaidjjioaa
open Go.RowKit
set_option maxHeartbeats 4000000
set_option maxRecDepth 100000
theorem under78 : Try.prog.underlying 78 = some (.slice 124) := by kernel_rfl
theorem info124 : (Try.prog.info? 124).map (fun i => (i.zero, i.size, i.bytes)) = some (some En.zero.v, 5, 40) := by kernel_rfl
theorem ecs_snoc (E : List En) (x : En) : ecs (E ++ [x]) = ecs E ++ x.cs := by simp [ecs]
theorem cs_one (x : En) : ∀ u ∈ x.cs, u.oneCell' = true := by
  intro u hu
  simp only [En.cs, List.mem_cons, List.not_mem_nil, or_false] at hu
  rcases hu with rfl | rfl | rfl | rfl | rfl <;> rfl
theorem wpList_append_e {B : Nat} {w : World} {ops : Array Oper} {rest : List Oper} {o : Oper} {a : Act} {Q : Exit → Act → World → Prop} (hgd : o.guard = none) (s x : Operand)
    (ho : o.op = .call { callee := .builtin .append, args := #[s, x], argTypes := #[78, 78] }) (v : Value) (E : List En) (hs : a.eval s = v) (H : w.ownsRow B 124 5 v E.length (ecs E)) (hB : B ≤ w.heap.size) (ad : Addr) (c : Nat) (y : En) (hx : a.eval x = .slice (some ad) 1 c)
    (hsrc : ∀ j u, y.cs[j]? = some u → w.cell? (ad.add j) = some u) (hlen : E.length ≤ 1000)
    (h : ∀ v' w', w'.ownsRow B 124 5 v' (E ++ [y]).length (ecs (E ++ [y])) → w.grownBy w' v.ownBlock → wpList Try.prog ops Q rest (a.put o.dst v') w') : wpList Try.prog ops Q (o :: rest) a w := by
  obtain ⟨i, hi, hz, hsize, hby⟩ := info_parts info124
  obtain ⟨v', w', hr, h1, h2, _⟩ := run_append_own (P := Try.prog) w B 78 o.type 124 i En.zero.v 5 40 under78 hi hz hsize hby rfl (by decide) v E.length _ H ad 1 c y.cs rfl hsrc (cs_one y) (by unfold maxLen; omega) (by omega) hB
  have hH : w'.ownsRow B 124 5 v' (E ++ [y]).length (ecs (E ++ [y])) := by rw [List.length_append, ecs_snoc]; exact h1
  refine wpList_plain hgd fun K hK => ?_
  unfold Oper.wp execOp
  simp only [ho, resolve, invoke, builtin, Sem.run_bind, Sem.run_pure, Result.andThen_ok, List.map_toArray, List.map_cons, List.map_nil, hs, hx, hr]
  exact hK _ _ (h _ _ hH h2)
theorem own_blk {w : World} {B : Nat} {v : Value} {n : Nat} {L : List Value} (h : w.ownsRow B 124 5 v n L) {b : Nat} (hb : v.ownBlock = some b) : B ≤ b ∧ ∃ cur, w.heap[b]? = some (.cells cur 124 (0, 0)) := by
  rcases h.2 with ⟨hv, h0⟩ | ⟨g, cap, cur, hv, hB, hg, r⟩
  · rw [hv] at hb; cases hb
  · rw [hv] at hb
    have : g = b := by injection hb
    subst this
    exact ⟨hB, cur, hg⟩
theorem own_but {w w' : World} {B : Nat} {v : Value} {n : Nat} {L : List Value} {G : List Nat} (h : w.ownsRow B 124 5 v n L) (hb : ButL G w w') (hn : ∀ b cur, w.heap[b]? = some (.cells cur 124 (0, 0)) → B ≤ b → b ∉ G) : w'.ownsRow B 124 5 v n L :=
  ⟨h.1, h.2.imp id fun ⟨g, cap, cur, hv, hB, hg, r⟩ => ⟨g, cap, cur, hv, hB, (hb.block g (Array.getElem?_eq_some_iff.1 hg).1 (hn g cur hg hB)).trans hg, r⟩⟩
structure RN (W w : World) (r0 : Rf) (g : Nat) (v : Value) (r : Rf) (E : List En) (b : Int) (m : MS) : Prop where
  own : w.ownsRow W.heap.size 124 5 v E.length (ecs E)
  cel : Cel w g 80 [ptr r.g, v, .int .i64 b]
  hg : W.heap.size ≤ g
  mem : RMem w r m
  but : ButL r0.all W w
  sub : ∀ k ∈ r.all, k ∈ r0.all ∨ W.heap.size ≤ k
theorem RN.on {W w w' : World} {r0 r : Rf} {g : Nat} {v : Value} {E : List En} {b : Int} {m : MS} (h : RN W w r0 g v r E b m) (hb : Below w.heap.size w w') : RN W w' r0 g v r E b m :=
  ⟨own_but h.own (.of (G := []) hb) (by simp), h.cel.on hb, h.hg, h.mem.on hb, h.but.on hb, h.sub⟩
theorem off_cells {w : World} {r : Rf} {m : MS} (h : RMem w r m) {b : Nat} {cur : Array Value} {t : TypeId} (hc : w.heap[b]? = some (.cells cur t (0, 0))) (ht : t ≠ 146 ∧ t ≠ 32 ∧ t ≠ 27) : b ∉ r.all :=
  h.off (cs := cur.toList) (by show w.heap[b]? = _; rw [hc]) ht
theorem RN.st {W w w' : World} {r0 r r' : Rf} {g : Nat} {v : Value} {E : List En} {b : Int} {m m' : MS} (h : RN W w r0 g v r E b m) (hs : RSt w w' r r' m') : RN W w' r0 g v r' E b m' := by
  refine ⟨own_but h.own hs.but (fun b cur hc _ => off_cells h.mem hc (by decide)), ?_, h.hg, hs.mem, h.but.trans_sub hs.but h.sub, fun k hk => ?_⟩
  · rw [hs.g]; exact h.cel.but hs.but (h.mem.off h.cel (by decide))
  · rcases hs.sub k hk with hk | hk
    · exact h.sub k hk
    · exact .inr (Nat.le_trans h.but.size hk)
/-- Something was appended, and the new header is laid down. -/
theorem RN.snoc {W w w' : World} {r0 r : Rf} {g : Nat} {v v' : Value} {E E' : List En} {b : Int} {m : MS} (h : RN W w r0 g v r E b m) (h2 : w'.ownsRow W.heap.size 124 5 v' E'.length (ecs E')) (hgr : w.grownBy w' v.ownBlock) :
    RN W (w'.setCell ⟨g, 1, none⟩ v') r0 g v' r E' b m ∧ w'.cell? ⟨g, 1, none⟩ = some v ∧ w'.frozen? ⟨g, 1, none⟩ = false := by
  obtain ⟨G, hG⟩ : ∃ G : List Nat, G = v.ownBlock.toList := ⟨_, rfl⟩
  have hbt : ButL G w w' := grown_but hgr (fun b hb => by rw [hG, hb]; simp)
  have hGe : ∀ k ∈ G, W.heap.size ≤ k ∧ ∃ cur, w.heap[k]? = some (.cells cur 124 (0, 0)) := fun k hk => by
    rw [hG, Option.mem_toList] at hk
    exact own_blk h.own hk
  have hgG : g ∉ G := fun hk => by
    obtain ⟨_, cur, hc⟩ := hGe g hk
    have hc' : Cel w g 124 cur.toList := by show w.heap[g]? = _; rw [hc]
    exact absurd (h.cel.ty hc') (by decide)
  have hrG : ∀ k ∈ r.all, k ∉ G := fun k hk hm => by
    obtain ⟨_, cur, hc⟩ := hGe k hm
    exact off_cells h.mem hc (by decide) hk
  have hcel := h.cel.but hbt hgG
  have hb1 : ButL [g] w' (w'.setCell ⟨g, 1, none⟩ v') := .setCell _ _ _ _ (by simp)
  have hmem := h.mem.frame hbt hrG
  refine ⟨⟨own_but h2 hb1 (fun k cur hc _ => ?_), hcel.setCell 1 v', h.hg, hmem.frame hb1 (fun k hk hm => ?_), (h.but.trans_sub hbt (fun k hk => .inr (hGe k hk).1)).trans_sub hb1 (fun k hk => ?_), h.sub⟩, hcel.cell 1, hcel.free 1⟩
  · intro hm
    rw [List.mem_singleton] at hm
    subst hm
    have hc' : Cel w' k 124 cur.toList := by show w'.heap[k]? = _; rw [hc]
    exact absurd (hcel.ty hc') (by decide)
  · rw [List.mem_singleton] at hm
    subst hm
    exact hmem.off hcel (by decide) hk
  · rw [List.mem_singleton] at hk
    subst hk
    exact .inr h.hg
/-- It is made. -/
theorem RN.done {W w : World} {r0 r : Rf} {g : Nat} {v : Value} {E : List En} {b : Int} {m : MS} (h : RN W w r0 g v r E b m) (hn : 0 < m.ns) (hl : E.length = m.ns) (hk : DS.Ok ⟨m, b, E⟩) :
    ∃ ge cap, RDB w ⟨g, ge, cap, r⟩ ⟨m, b, E⟩ ∧ W.heap.size ≤ ge := by
  rcases h.own.2 with ⟨hv, h0⟩ | ⟨ge, cap, cur, hv, hB, hg, hle, hm, hsz, ht⟩
  · omega
  · refine ⟨ge, cap, ⟨h.mem, ?_, ⟨cur.toList.drop (E.length * 5), ?_⟩, hk⟩, hB⟩
    · have := h.cel
      rw [hv, hl] at this
      exact this
    · show w.heap[ge]? = _
      rw [hg]
      show some (Obj.cells cur 124 (0, 0)) = some (.cells (ecs E ++ cur.toList.drop (E.length * 5)).toArray 124 (0, 0))
      rw [← ht, List.take_append_drop]
end Go.Proofs.Ytajkhkaidjjioaa
