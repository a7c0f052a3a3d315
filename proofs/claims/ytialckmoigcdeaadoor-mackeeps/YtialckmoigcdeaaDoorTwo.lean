/- An append onto one of several lists of the call's own. -/
import Derived.Test.YtialckmoigcdeaaDoorCat
namespace Go.Proofs.YtialckmoigcdeaaDoor
open Go.RowKit

/-- Two lists that lie in no common block. -/
def Apart (v u : Value) : Prop := ∀ g, v.ownBlock = some g → u.ownBlock = some g → False
theorem Apart.symm {v u : Value} (h : Apart v u) : Apart u v := fun g a b => h g b a
theorem Apart.nil (v : Value) : Apart (.slice none 0 0) v := fun g h => by cases h
theorem Holds.on {W wr w : World} {k : IntKind} {e : TypeId} {v : Value} {L : List Int} (h : Holds W wr k e v L) (hb : Below wr.heap.size wr w) : Holds W w k e v L := ⟨ownsRow_below h.own hb, h.below.trans (hb.mono h.below.size)⟩
theorem append_where {P : Program} {w : World} {base : Nat} {t ty e : TypeId} {i : TypeInfo} {z : Value} {bytes : Nat} (ht : P.underlying t = some (.slice e)) (hi : P.info? e = some i) (hz : i.zero = some z) (hsize : i.size = 1) (hby : i.bytes = bytes) (hzs : z.cells.size = 1)
    {v : Value} {n : Nat} {xs : List Value} (hown : w.ownsRow base e 1 v n xs) {a : Addr} {m c : Nat} {news : List Value} (hl : news.length = m) (hnews : ∀ j u, news[j]? = some u → w.cell? (a.add j) = some u) (h1 : ∀ u ∈ news, u.oneCell' = true)
    (h63 : n + m ≤ maxLen) (hbytes : (n + m) * bytes ≤ 140737488355328) {v' : Value} {w' : World} (hr : (Builtin.append_ #[t, t] ty #[v, .slice (some a) m c]).run P w = .ok v' w') :
    v'.ownBlock = v.ownBlock ∨ ∀ g, v'.ownBlock = some g → w.heap.size ≤ g := by
  rcases hown.2 with ⟨rfl, rfl⟩ | ⟨g, cap, cur, rfl, hbg, hg, hnc, hcm, hcs, htake⟩
  · right
    have hx : xs = [] := List.eq_nil_of_length_eq_zero (by simpa using hown.1)
    subst hx
    obtain ⟨v2, w2, hr2, ho, _⟩ := run_append_own (P := P) w w.heap.size t ty e i z 1 bytes ht hi hz hsize hby hzs (by decide) (.slice none 0 0) 0 [] (World.ownsRow_nil w _ e 1) a m c news (by omega) hnews h1 h63 hbytes (Nat.le_refl _)
    rw [hr] at hr2
    cases hr2
    exact fun g hg => (ho.lt g hg).1
  · by_cases hroom : n + m ≤ cap
    · left
      have hr2 := run_append_room (P := P) w t ty e i ht hi g n cap cur hg a m c news (by rw [hsize]; omega) hnews h1 hroom (by rw [hsize]; omega)
      rw [hr] at hr2
      cases hr2
      rfl
    · right
      have holds : ∀ j u, xs[j]? = some u → w.cell? ((⟨g, 0, none⟩ : Addr).add j) = some u := hown.cells (g := g) rfl
      have hr2 := run_append_grow (P := P) w t ty e i z ht hi hz ⟨g, 0, none⟩ n cap xs (by rw [hsize]; exact hown.1) holds a m c news (by rw [hsize]; omega) hnews (by omega) (by simp only [maxLen] at h63; omega) (growslice_fits (by omega) (by rw [hby]; exact hbytes))
      rw [hr] at hr2
      cases hr2
      intro k hk
      simp [Value.ownBlock] at hk
      omega
theorem wpList_append_apart {P : Program} {W w : World} {ops : Array Oper} {rest : List Oper} {o : Oper} {a : Act} {Q : Exit → Act → World → Prop} (hgd : o.guard = none) (s x : Operand) (t : TypeId)
    (ho : o.op = .call { callee := .builtin .append, args := #[s, x], argTypes := #[t, t] }) (k : IntKind) (e : TypeId) (i : TypeInfo) (z : Value) (bytes : Nat) (ht : P.underlying t = some (.slice e)) (hi : P.info? e = some i) (hz : i.zero = some z) (hsize : i.size = 1) (hby : i.bytes = bytes) (hzs : z.cells.size = 1)
    (v : Value) (L : List Int) (hs : a.eval s = v) (H : Holds W w k e v L) (ad : Addr) (m c : Nat) (xs : List Int) (hx : a.eval x = .slice (some ad) m c) (hl : xs.length = m) (hat : At w k (some ad) xs) (h63 : L.length + m ≤ maxLen) (hbytes : (L.length + m) * bytes ≤ 140737488355328)
    (h : ∀ v' w', Holds W w' k e v' (L ++ xs) → (∀ k' e' u M, Holds W w k' e' u M → Apart v u → Holds W w' k' e' u M ∧ Apart v' u) → wpList P ops Q rest (a.put o.dst v') w') : wpList P ops Q (o :: rest) a w := by
  obtain ⟨v', w', hr, h1, h2, _⟩ := run_append_own (P := P) w W.heap.size t o.type e i z 1 bytes ht hi hz hsize hby hzs (by decide) v L.length _ H.own ad m c (xs.map (Value.int k)) (by simp [hl]) hat.cells (ints_oneCell k xs) h63 hbytes H.below.size
  have hH : Holds W w' k e v' (L ++ xs) := Holds.grow H.below (fun g hg => (H.own.lt g hg).1) h1 h2 (by simp [hl]) (by simp)
  have hw := append_where (P := P) ht hi hz hsize hby hzs H.own (by simp [hl]) hat.cells (ints_oneCell k xs) h63 hbytes hr
  have keep : ∀ k' e' u M, Holds W w k' e' u M → Apart v u → Holds W w' k' e' u M ∧ Apart v' u := by
    intro k' e' u M hu hap
    refine ⟨⟨⟨hu.own.1, ?_⟩, hH.below⟩, ?_⟩
    · rcases hu.own.2 with hn | ⟨g, cap, cur, rfl, hbg, hg, r⟩
      · exact .inl hn
      · refine .inr ⟨g, cap, cur, rfl, hbg, ?_, r⟩
        rw [h2.block g (Array.getElem?_eq_some_iff.1 hg).1 (fun he => hap g he.symm rfl)]
        exact hg
    · rcases hw with hw | hw
      · exact fun g hg hu' => hap g (hw ▸ hg) hu'
      · intro g hg hu'
        have := hw g hg
        have := (hu.own.lt g hu').2
        omega
  refine wpList_plain hgd fun K hK => ?_
  unfold Oper.wp execOp
  simp only [ho, resolve, invoke, builtin, Sem.run_bind, Sem.run_pure, Result.andThen_ok, List.map_toArray, List.map_cons, List.map_nil, hs, hx, hr]
  exact hK _ _ (h _ _ hH keep)
theorem wpList_append_any {P : Program} {W w : World} {ops : Array Oper} {rest : List Oper} {o : Oper} {a : Act} {Q : Exit → Act → World → Prop} (hgd : o.guard = none) (s x : Operand) (t : TypeId)
    (ho : o.op = .call { callee := .builtin .append, args := #[s, x], argTypes := #[t, t] }) (k : IntKind) (e : TypeId) (i : TypeInfo) (z : Value) (bytes : Nat) (ht : P.underlying t = some (.slice e)) (hi : P.info? e = some i) (hz : i.zero = some z) (hsize : i.size = 1) (hby : i.bytes = bytes) (hzs : z.cells.size = 1)
    (v : Value) (L : List Int) (hs : a.eval s = v) (H : Holds W w k e v L) (ao : Option Addr) (m c : Nat) (xs : List Int) (hx : a.eval x = .slice ao m c) (hl : xs.length = m) (hat : At w k ao xs) (hn : Sl ao c) (h63 : L.length + m ≤ maxLen) (hbytes : (L.length + m) * bytes ≤ 140737488355328)
    (h : ∀ v' w', Holds W w' k e v' (L ++ xs) → (∀ k' e' u M, Holds W w k' e' u M → Apart v u → Holds W w' k' e' u M ∧ Apart v' u) → wpList P ops Q rest (a.put o.dst v') w') : wpList P ops Q (o :: rest) a w := by
  cases ao with
  | none =>
    have hx0 : xs = [] := by
      rcases hat with h0 | ⟨b, off, h1, _⟩
      · exact h0
      · cases h1
    subst hx0
    simp at hl
    subst hl
    obtain rfl := hn rfl
    refine wpList_append_own_none hgd s x t ho W.heap.size e i 1 ht hi v L.length _ hs H.own hx ?_
    have := h v w
    rw [List.append_nil] at this
    exact this H fun _ _ _ _ h1 h2 => ⟨h1, h2⟩
  | some ad => exact wpList_append_apart hgd s x t ho k e i z bytes ht hi hz hsize hby hzs v L hs H ad m c xs hx hl hat h63 hbytes h
end Go.Proofs.YtialckmoigcdeaaDoor
