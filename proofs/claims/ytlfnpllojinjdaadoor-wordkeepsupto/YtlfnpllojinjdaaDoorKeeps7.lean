import Derived.Test.YtlfnpllojinjdaaDoorKeeps6
import Derived.Deep.AppendLies
namespace Go.Proofs.YtlfnpllojinjdaaDoor
open Go.RowKit

/-- The first t rows are written over. -/
def Mk3 (t m : Nat) (E : Nat → Ent) : Prop := (∀ i, i < m → (E i).n ≤ 262144) ∧ ∀ i, i < t → i < m → (E i).mark = 1000 + (i : Int) ∧ (E i).lw = List.replicate (E i).n (1000 + (i : Int)) ∧ (E i).lb = List.replicate (4 * (E i).n) ((1000 + (i : Int)) % 256)
/-- Row t is being written over: its words up to s. -/
def InA (t s : Nat) (E E1 : Nat → Ent) : Prop := (∀ i, i ≠ t → E1 i = E i) ∧ (E1 t).mark = 1000 + (t : Int) ∧ (E1 t).n = (E t).n ∧ (E1 t).lw.take s = List.replicate s (1000 + (t : Int))
def InB (t s : Nat) (E E1 : Nat → Ent) : Prop := (∀ i, i ≠ t → E1 i = E i) ∧ (E1 t).mark = 1000 + (t : Int) ∧ (E1 t).n = (E t).n ∧ (E1 t).lw = List.replicate (E t).n (1000 + (t : Int)) ∧ (E1 t).lb.take s = List.replicate s ((1000 + (t : Int)) % 256)
theorem take_set_rep (l : List Int) (s : Nat) (u : Int) (h : l.take s = List.replicate s u) (hs : s < l.length) : (l.set s u).take (s + 1) = List.replicate (s + 1) u := by
  apply List.ext_getElem?
  intro i
  have hi := congrArg (fun q => q[i]?) h
  simp only [List.getElem?_take, List.getElem?_replicate, List.getElem?_set] at hi ⊢
  by_cases a : i = s
  · subst a; simp [hs]
  · by_cases b : i < s
    · rw [if_pos b, if_pos b] at hi
      rw [if_pos (by omega), if_neg (by omega), if_pos (by omega)]
      exact hi
    · rw [if_neg (by omega), if_neg (by omega)]
theorem InA.step {t s : Nat} {E E1 : Nat → Ent} (h : InA t s E E1) (hs : s < (E1 t).lw.length) : InA t (s + 1) E (upd E1 t { E1 t with lw := (E1 t).lw.set s (1000 + (t : Int)) }) := by
  obtain ⟨a, b, c, d⟩ := h
  refine ⟨fun i hi => by rw [upd_other _ _ _ _ hi]; exact a i hi, by rw [upd_same]; exact b, by rw [upd_same]; exact c, ?_⟩
  rw [upd_same]
  exact take_set_rep _ _ _ d hs
theorem InB.step {t s : Nat} {E E1 : Nat → Ent} (h : InB t s E E1) (hs : s < (E1 t).lb.length) : InB t (s + 1) E (upd E1 t { E1 t with lb := (E1 t).lb.set s ((1000 + (t : Int)) % 256) }) := by
  obtain ⟨a, b, c, d, e⟩ := h
  refine ⟨fun i hi => by rw [upd_other _ _ _ _ hi]; exact a i hi, by rw [upd_same]; exact b, by rw [upd_same]; exact c, by rw [upd_same]; exact d, ?_⟩
  rw [upd_same]
  exact take_set_rep _ _ _ e hs
theorem InA.start {t : Nat} {E : Nat → Ent} : InA t 0 E (upd E t { E t with mark := 1000 + (t : Int) }) :=
  ⟨fun i hi => upd_other _ _ _ _ hi, by rw [upd_same], by rw [upd_same], by simp⟩
theorem InA.turn {t : Nat} {E E1 : Nat → Ent} (h : InA t (E t).n E E1) (hl : (E1 t).lw.length = (E1 t).n) : InB t 0 E E1 := by
  obtain ⟨a, b, c, d⟩ := h
  refine ⟨a, b, c, ?_, by simp⟩
  rwa [List.take_of_length_le (by omega)] at d
theorem InB.turn {t m : Nat} {E E1 : Nat → Ent} (h : InB t (4 * (E t).n) E E1) (hl : (E1 t).lb.length = 4 * (E1 t).n) (hM : Mk3 t m E) (ht : t < m) : Mk3 (t + 1) m E1 := by
  obtain ⟨a, b, c, d, e⟩ := h
  rw [List.take_of_length_le (by omega)] at e
  refine ⟨fun i hi => ?_, fun i hi him => ?_⟩
  · by_cases x : i = t
    · subst x; rw [c]; exact hM.1 i hi
    · rw [a i x]; exact hM.1 i hi
  · by_cases x : i = t
    · subst x; exact ⟨b, by rw [c]; exact d, by rw [c]; exact e⟩
    · rw [a i x]; exact hM.2 i (by omega) him

/-- At a step of a region that draws: an append onto a full slice. -/
theorem step_append_full {P : Program} (w : World) {ops : Array Oper} {o : Oper} {a : Act} {K : Act → World → Prop} {Q : Exit → Act → World → Prop} {F : Prop} (hgd : o.guard = none) (s x : Operand) (t : TypeId)
    (ho : o.op = .call { callee := .builtin .append, args := #[s, x], argTypes := #[t, t] })
    (e : TypeId) (i : TypeInfo) (z : Value) (size bytes : Nat) (ht : P.underlying t = some (.slice e)) (hi : P.info? e = some i) (hz : i.zero = some z)
    (hsize : i.size = size) (hby : i.bytes = bytes) (hzs : z.cells.size = size) (hsz : 0 < size)
    (b : Addr) (n cap : Nat) (olds : List Value) (hs : a.eval s = .slice (some b) n cap) (hlo : olds.length = n * size) (holds : ∀ j u, olds[j]? = some u → w.cell? (b.add j) = some u)
    (ad : Addr) (m c : Nat) (news : List Value) (hx : a.eval x = .slice (some ad) m c) (hl : news.length = m * size) (hnews : ∀ j u, news[j]? = some u → w.cell? (ad.add j) = some u)
    (hg : cap < n + m) (hm : 0 < m) (h63 : n + m ≤ maxLen) (hbytes : (n + m) * bytes ≤ 140737488355328)
    (h : ∀ g cap' w', w'.ownsRow w.heap.size e size (.slice (some ⟨g, 0, none⟩) (n + m) cap') (n + m) (olds ++ news) → w.grownBy w' none → K (a.put o.dst (.slice (some ⟨g, 0, none⟩) (n + m) cap')) w') :
    if Region.wanted o (yielded ops a.tmps) = true then Oper.wp P o a w K Q else F := by
  have hw : Region.wanted o (yielded ops a.tmps) = true := by simp [Region.wanted, hgd]
  rw [if_pos hw]
  obtain ⟨v', w', hr, h2, h3⟩ := run_append_arg_grows (P := P) w t o.type e i z size bytes ht hi hz hsize hby hzs hsz b n cap olds hlo holds ad m c news hl hnews hg h63 hbytes
  obtain ⟨g, cap', rfl, _, _⟩ := h2.form (by omega)
  unfold Oper.wp execOp
  simp only [ho, resolve, invoke, builtin, Sem.run_bind, Sem.run_pure, Result.andThen_ok, List.map_toArray, List.map_cons, List.map_nil, hs, hx, hr]
  exact h g cap' w' h2 h3
theorem cell_beside (w : World) (g i j : Nat) (u : Value) (h : i ≠ j) : (w.setCell ⟨g, i, none⟩ u).cell? ⟨g, j, none⟩ = w.cell? ⟨g, j, none⟩ :=
  World.cell?_setCell_other w ⟨g, i, none⟩ ⟨g, j, none⟩ u (fun e => h (by cases e; rfl))
theorem one_bytes : bytesD [16909060] = [1, 2, 3, 4] := by decide
theorem replicate_one (n : Nat) (u : Value) : List.replicate n u ++ [u] = List.replicate (n + 1) u := by rw [List.replicate_succ']
/-- A row's More and Extra. -/
def Ext (W wr : World) (e : Ent) (i : Nat) : Prop := wr.ownsRow W.heap.size 22 1 e.mo (e.n + 1) (List.replicate (e.n + 1) (.int .u32 (1000 + (i : Int)))) ∧ wr.ownsRow W.heap.size 5 1 e.ex (4 * e.n + 1) (List.replicate (4 * e.n + 1) (.int .u8 ((1000 + (i : Int)) % 256)))
theorem Bk.own_put {W w : World} {gk m cap : Nat} {E : Nat → Ent} (B : Bk W w (.slice (some ⟨gk, 0, none⟩) m cap) m E) {base : Nat} {e : TypeId} {v : Value} {n : Nat} {xs : List Value} (h : w.ownsRow base e 1 v n xs) (he : e ≠ 61) (j : Nat) (u : Value) : (w.setCell ⟨gk, j, none⟩ u).ownsRow base e 1 v n xs := by
  refine own_other h u (fun ho => ?_)
  obtain ⟨⟨ys, o, _⟩, _⟩ := B
  obtain ⟨cs, hc⟩ := own_type o
  rcases h.2 with ⟨rfl, _⟩ | ⟨g, cap, cur, rfl, _, hgg, _⟩
  · simp [Value.ownBlock] at ho
  · simp only [Value.ownBlock, Option.some.injEq] at ho
    subst ho
    rw [hc] at hgg
    simp at hgg
    exact he hgg.2.symm
theorem Mk3.upd {t m : Nat} {E : Nat → Ent} (h : Mk3 t m E) (i : Nat) (e : Ent) (h1 : e.n = (E i).n) (h2 : e.mark = (E i).mark) (h3 : e.lw = (E i).lw) (h4 : e.lb = (E i).lb) : Mk3 t m (upd E i e) := by
  refine ⟨fun j hj => ?_, fun j hj hjm => ?_⟩
  · by_cases x : j = i
    · subst x; rw [upd_same, h1]; exact h.1 j hj
    · rw [upd_other _ _ _ _ x]; exact h.1 j hj
  · by_cases x : j = i
    · subst x; rw [upd_same, h1, h2, h3, h4]; exact h.2 j hj hjm
    · rw [upd_other _ _ _ _ x]; exact h.2 j hj hjm
theorem Bk.more {W wr w1 : World} {gk m cap t : Nat} {E : Nat → Ent} (B : Bk W wr (.slice (some ⟨gk, 0, none⟩) m cap) m E) (M : Mk3 m m E) (X : ∀ i, i < t → Ext W wr (E i) i) (ht : t < m) (hb : Below wr.heap.size wr w1) (v : Value)
    (o1 : w1.ownsRow W.heap.size 22 1 v ((E t).n + 1) (List.replicate ((E t).n + 1) (.int .u32 (1000 + (t : Int))))) :
    ∃ E2, Bk W (w1.setCell ⟨gk, t * 5 + 1, none⟩ v) (.slice (some ⟨gk, 0, none⟩) m cap) m E2 ∧ Mk3 m m E2 ∧ (∀ i, i < t → Ext W (w1.setCell ⟨gk, t * 5 + 1, none⟩ v) (E2 i) i) ∧ (E2 t).n = (E t).n ∧ (w1.setCell ⟨gk, t * 5 + 1, none⟩ v).ownsRow W.heap.size 22 1 (E2 t).mo ((E t).n + 1) (List.replicate ((E t).n + 1) (.int .u32 (1000 + (t : Int)))) := by
  have B1 := B.carry hb
  refine ⟨_, B1.setMore t ht v, M.upd t _ rfl rfl rfl rfl, fun i hi => ?_, by rw [upd_same], by rw [upd_same]; exact B1.own_put o1 (by decide) _ _⟩
  rw [upd_other _ _ _ _ (by omega)]
  obtain ⟨a, b⟩ := X i hi
  exact ⟨B1.own_put (ownsRow_below a hb) (by decide) _ _, B1.own_put (ownsRow_below b hb) (by decide) _ _⟩
theorem Bk.extra {W wr w1 : World} {gk m cap t : Nat} {E : Nat → Ent} (B : Bk W wr (.slice (some ⟨gk, 0, none⟩) m cap) m E) (M : Mk3 m m E) (X : ∀ i, i < t → Ext W wr (E i) i) (ht : t < m) (hb : Below wr.heap.size wr w1) (v : Value)
    (om : wr.ownsRow W.heap.size 22 1 (E t).mo ((E t).n + 1) (List.replicate ((E t).n + 1) (.int .u32 (1000 + (t : Int)))))
    (o1 : w1.ownsRow W.heap.size 5 1 v (4 * (E t).n + 1) (List.replicate (4 * (E t).n + 1) (.int .u8 ((1000 + (t : Int)) % 256)))) :
    ∃ E2, Bk W (w1.setCell ⟨gk, t * 5 + 3, none⟩ v) (.slice (some ⟨gk, 0, none⟩) m cap) m E2 ∧ Mk3 m m E2 ∧ (∀ i, i < t + 1 → Ext W (w1.setCell ⟨gk, t * 5 + 3, none⟩ v) (E2 i) i) := by
  have B1 := B.carry hb
  refine ⟨_, B1.setExtra t ht v, M.upd t _ rfl rfl rfl rfl, fun i hi => ?_⟩
  by_cases x : i = t
  · subst x
    rw [upd_same]
    exact ⟨B1.own_put (ownsRow_below om hb) (by decide) _ _, B1.own_put o1 (by decide) _ _⟩
  · rw [upd_other _ _ _ _ x]
    obtain ⟨a, b⟩ := X i (by omega)
    exact ⟨B1.own_put (ownsRow_below a hb) (by decide) _ _, B1.own_put (ownsRow_below b hb) (by decide) _ _⟩
theorem Mk3.over {W wr : World} {m : Nat} {E : Nat → Ent} (M : Mk3 m m E) (X : ∀ i, i < m → Ext W wr (E i) i) : ∀ i, i < m → Over W wr (E i) i := fun i hi =>
  ⟨(M.2 i hi hi).1, (M.2 i hi hi).2.1, (M.2 i hi hi).2.2, (X i hi).1, (X i hi).2⟩
end Go.Proofs.YtlfnpllojinjdaaDoor
