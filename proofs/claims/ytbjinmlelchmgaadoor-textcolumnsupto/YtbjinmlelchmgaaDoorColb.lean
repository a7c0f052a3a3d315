/- Rows of texts and two lists of numbers, side by side. -/
import Derived.Test.YtbjinmlelchmgaaDoorColM
namespace Go.Proofs.YtbjinmlelchmgaaDoor
open Go.RowKit

def Apart (v u : Value) : Prop := ∀ g, v.ownBlock = some g → u.ownBlock = some g → False
theorem Apart.symm {v u : Value} (h : Apart v u) : Apart u v := fun g a b => h g b a
theorem append_where {P : Program} {w : World} {base : Nat} {t ty e : TypeId} {i : TypeInfo} {z : Value} {bytes : Nat} (ht : P.underlying t = some (.slice e)) (hi : P.info? e = some i) (hz : i.zero = some z) (hsize : i.size = 1) (hby : i.bytes = bytes) (hzs : z.cells.size = 1)
    {v : Value} {n : Nat} {xs : List Value} (hown : w.ownsRow base e 1 v n xs) {a : Addr} {m c : Nat} {news : List Value} (hl : news.length = m) (hnews : ∀ j u, news[j]? = some u → w.cell? (a.add j) = some u) (h1 : ∀ u ∈ news, u.oneCell' = true)
    (h63 : n + m ≤ maxLen) (hbytes : (n + m) * bytes ≤ 140737488355328) {v' : Value} {w' : World} (hr : (Builtin.append_ #[t, t] ty #[v, .slice (some a) m c]).run P w = .ok v' w') :
    v'.ownBlock = v.ownBlock ∨ ∀ g, v'.ownBlock = some g → w.heap.size ≤ g := by
  rcases hown.2 with ⟨rfl, rfl⟩ | ⟨g, cap, cur, rfl, hbg, hg, hnc, hcm, hcs, htake⟩
  · right
    have hx : xs = [] := List.eq_nil_of_length_eq_zero (by simpa using hown.1)
    subst hx
    obtain ⟨v2, w2, hr2, ho, _⟩ := run_append_own (P := P) w w.heap.size t ty e i z 1 bytes ht hi hz hsize hby hzs (by decide) (.slice none 0 0) 0 [] (World.ownsRow_nil w _ e 1) a m c news (by omega) hnews h1 h63 hbytes (Nat.le_refl _)
    rw [hr] at hr2
    cases hr2
    exact fun g hg => (ho.lt g hg).1
  · by_cases hroom : n + m ≤ cap
    · left
      have hr2 := run_append_room (P := P) w t ty e i ht hi g n cap cur hg a m c news (by rw [hsize]; omega) hnews h1 hroom (by rw [hsize]; omega)
      rw [hr] at hr2
      cases hr2
      rfl
    · right
      have holds : ∀ j u, xs[j]? = some u → w.cell? ((⟨g, 0, none⟩ : Addr).add j) = some u := hown.cells (g := g) rfl
      have hr2 := run_append_grow (P := P) w t ty e i z ht hi hz ⟨g, 0, none⟩ n cap xs (by rw [hsize]; exact hown.1) holds a m c news (by rw [hsize]; omega) hnews (by omega) (by simp only [maxLen] at h63; omega) (growslice_fits (by omega) (by rw [hby]; exact hbytes))
      rw [hr] at hr2
      cases hr2
      intro k hk
      simp [Value.ownBlock] at hk
      omega
/-- append(own, one value), with where it lies. -/
theorem wpList_append_raw {P : Program} {w : World} {ops : Array Oper} {rest : List Oper} {o : Oper} {a : Act} {Q : Exit → Act → World → Prop} (hgd : o.guard = none) (s x : Operand) (t e : TypeId)
    (ho : o.op = .call { callee := .builtin .append, args := #[s, x], argTypes := #[t, t] }) (i : TypeInfo) (z : Value) (by' : Nat) (ht : P.underlying t = some (.slice e)) (hi : P.info? e = some i) (hz : i.zero = some z) (hsize : i.size = 1) (hby : i.bytes = by') (hzs : z.cells.size = 1)
    (B : Nat) (v : Value) (n : Nat) (xs : List Value) (hs : a.eval s = v) (H : w.ownsRow B e 1 v n xs) (hB : B ≤ w.heap.size) (ad : Addr) (c : Nat) (m : Value) (hx : a.eval x = .slice (some ad) 1 c) (hc : w.cell? ad = some m) (hm : m.oneCell' = true) (h63 : n ≤ 1000000000) (hb24 : by' ≤ 24)
    (h : ∀ v' w', w'.ownsRow B e 1 v' (n + 1) (xs ++ [m]) → w.grownBy w' v.ownBlock → (v'.ownBlock = v.ownBlock ∨ ∀ g, v'.ownBlock = some g → w.heap.size ≤ g) → wpList P ops Q rest (a.put o.dst v') w') : wpList P ops Q (o :: rest) a w := by
  have hc' : ∀ j u, [m][j]? = some u → w.cell? (ad.add j) = some u := by
    intro j u hu
    match j, hu with
    | 0, hu => simp at hu; subst hu; rw [show ad.add 0 = ad from by simp [Addr.add]]; exact hc
  have h1c : ∀ u ∈ [m], u.oneCell' = true := by intro u hu; simp at hu; subst hu; exact hm
  have hbb : (n + 1) * by' ≤ 140737488355328 := by
    have : (n + 1) * by' ≤ 1000000001 * 24 := Nat.mul_le_mul (by omega) hb24
    omega
  have h63' : n + 1 ≤ maxLen := by unfold maxLen; omega
  obtain ⟨v', w', hr, h1, h2, _⟩ := run_append_own (P := P) w B t o.type e i z 1 by' ht hi hz hsize hby hzs (by decide) v n xs H ad 1 c [m] rfl hc' h1c h63' hbb hB
  have hw := append_where (P := P) ht hi hz hsize hby hzs H rfl hc' h1c h63' hbb hr
  refine wpList_plain hgd fun K hK => ?_
  unfold Oper.wp execOp
  simp only [ho, resolve, invoke, builtin, Sem.run_bind, Sem.run_pure, Result.andThen_ok, List.map_toArray, List.map_cons, List.map_nil, hs, hx, hr]
  exact hK _ _ (h _ _ h1 h2 hw)
/-- Blocks that hold no numbers of type int stay. -/
def K3 (w w' : World) : Prop := ∀ (g : Nat) (cur : Array Value) (e : TypeId) (fr : Nat × Nat), e ≠ 3 → w.heap[g]? = some (.cells cur e fr) → w'.heap[g]? = some (.cells cur e fr)
theorem K3.refl (w : World) : K3 w w := fun _ _ _ _ _ h => h
theorem K3.trans {a b c : World} (h : K3 a b) (k : K3 b c) : K3 a c := fun g cur e fr he hg => k g cur e fr he (h g cur e fr he hg)
theorem K3.on {w w' : World} (hb : Below w.heap.size w w') : K3 w w' := fun g cur e fr _ hg => by rw [hb.block g (Array.getElem?_eq_some_iff.1 hg).1]; exact hg
theorem K3.set {w : World} {g j : Nat} {cur : Array Value} {fr : Nat × Nat} (h : w.heap[g]? = some (.cells cur 3 fr)) (u : Value) : K3 w (w.setCell ⟨g, j, none⟩ u) := by
  intro g' cur' e fr' he hg'
  rw [Below.heap_setCell _ _ _ _ (fun e1 => ?_)]
  · exact hg'
  · subst e1
    rw [hg'] at h
    injection h with h
    injection h with h1 h2
    exact he h2
theorem K3.grown {w w' : World} {B n : Nat} {v : Value} {xs : List Value} (hown : w.ownsRow B 3 1 v n xs) (h2 : w.grownBy w' v.ownBlock) : K3 w w' := fun _ _ _ _ he hg => keep_block hown h2 hg he
def StrsT (w : World) (ai : Option Addr) (row : List (List UInt8)) : Prop := row = [] ∨ ∃ b cur, ai = some ⟨b, 0, none⟩ ∧ w.heap[b]? = some (.cells cur 9 (0, 0)) ∧ ∀ j (h : j < row.length), cur[j]? = some (.string ⟨row[j].toArray⟩)
def RowsT (w : World) (ao : Option Addr) (rows : List (List (List UInt8))) : Prop := rows = [] ∨ ∃ b cur, ao = some ⟨b, 0, none⟩ ∧ w.heap[b]? = some (.cells cur 39 (0, 0)) ∧ ∀ i (h : i < rows.length), ∃ ai ci, cur[i]? = some (.slice ai rows[i].length ci) ∧ StrsT w ai rows[i]
theorem StrsT.keep {w w' : World} {ai : Option Addr} {row : List (List UInt8)} (h : StrsT w ai row) (k : K3 w w') : StrsT w' ai row :=
  h.imp id fun ⟨b, cur, h1, h2, h3⟩ => ⟨b, cur, h1, k _ _ _ _ (by decide) h2, h3⟩
theorem RowsT.keep {w w' : World} {ao : Option Addr} {rows : List (List (List UInt8))} (h : RowsT w ao rows) (k : K3 w w') : RowsT w' ao rows :=
  h.imp id fun ⟨b, cur, h1, h2, h3⟩ => ⟨b, cur, h1, k _ _ _ _ (by decide) h2, fun i hi => by
    obtain ⟨ai, ci, h4, h5⟩ := h3 i hi
    exact ⟨ai, ci, h4, h5.keep k⟩⟩
theorem cell_block {w : World} {b : Nat} {cur : Array Value} {e : TypeId} {fr : Nat × Nat} (h : w.heap[b]? = some (.cells cur e fr)) (j : Nat) : w.cell? ⟨b, j, none⟩ = cur[j]? := by simp [World.cell?, h]
theorem StrsT.at {w : World} {ai : Option Addr} {row : List (List UInt8)} (h : StrsT w ai row) : StrsAt w ai row :=
  h.imp id fun ⟨b, cur, h1, h2, h3⟩ => ⟨b, 0, h1, (Array.getElem?_eq_some_iff.1 h2).1, fun i hi => by rw [Nat.zero_add, cell_block h2]; exact h3 i hi⟩
theorem RowsT.at {w : World} {ao : Option Addr} {rows : List (List (List UInt8))} (h : RowsT w ao rows) : RowsAt w ao rows :=
  h.imp id fun ⟨b, cur, h1, h2, h3⟩ => ⟨b, 0, h1, (Array.getElem?_eq_some_iff.1 h2).1, fun i hi => by
    obtain ⟨ai, ci, h4, h5⟩ := h3 i hi
    exact ⟨ai, ci, by rw [Nat.zero_add, cell_block h2]; exact h4, h5.at⟩⟩
theorem RowsT.cell {w : World} {ao : Option Addr} {rows : List (List (List UInt8))} (h : RowsT w ao rows) (i : Nat) (hi : i < rows.length) : ∃ b ai ci, ao = some ⟨b, 0, none⟩ ∧ w.cell? ⟨b, i, none⟩ = some (.slice ai rows[i].length ci) ∧ StrsT w ai rows[i] := by
  rcases h with h | ⟨b, cur, h1, h2, h3⟩
  · rw [h] at hi; simp at hi
  · obtain ⟨ai, ci, h4, h5⟩ := h3 i hi
    exact ⟨b, ai, ci, h1, by rw [cell_block h2]; exact h4, h5⟩
theorem StrsT.cell {w : World} {ai : Option Addr} {row : List (List UInt8)} (h : StrsT w ai row) (j : Nat) (hj : j < row.length) : ∃ b, ai = some ⟨b, 0, none⟩ ∧ w.cell? ⟨b, j, none⟩ = some (.string ⟨row[j].toArray⟩) := by
  rcases h with h | ⟨b, cur, h1, h2, h3⟩
  · rw [h] at hj; simp at hj
  · exact ⟨b, h1, by rw [cell_block h2]; exact h3 j hj⟩
theorem HV.k3 {W w w' : World} {e : TypeId} {v : Value} {xs : List Value} (h : HV W w e v xs) (he : e ≠ 3) (k : K3 w w') (hb : Below W.heap.size W w') : HV W w' e v xs :=
  ⟨⟨h.own.1, h.own.2.imp id fun ⟨g, cap, cur, h1, h2, h3, r⟩ => ⟨g, cap, cur, h1, h2, k _ _ _ _ he h3, r⟩⟩, hb⟩
theorem HW.k3 {W w w' : World} {v : Value} {ws : List T.Wd} (h : HW W w v ws) (k : K3 w w') (hb : Below W.heap.size W w') : HW W w' v ws :=
  ⟨⟨h.own.1, h.own.2.imp id fun ⟨g, cap, cur, h1, h2, h3, r⟩ => ⟨g, cap, cur, h1, h2, k _ _ _ _ (by decide) h3, r⟩⟩, hb⟩
/-- Two lists of numbers. -/
structure Nums (W w : World) (v4 v5 : Value) (bs cs : List Nat) : Prop where
  b : HV W w 3 v4 (ints bs)
  c : HV W w 3 v5 (ints cs)
  ap : Apart v4 v5
theorem Nums.on {W w w' : World} {v4 v5 : Value} {bs cs : List Nat} (h : Nums W w v4 v5 bs cs) (hb : Below w.heap.size w w') : Nums W w' v4 v5 bs cs := ⟨h.b.on hb, h.c.on hb, h.ap⟩
theorem Nums.drewN {W w : World} {v4 v5 : Value} {bs cs : List Nat} (h : Nums W w v4 v5 bs cs) (n : Nat) : Nums W (w.drewN n) v4 v5 bs cs := h.on (below_drewN (Below.refl _ _) n)
theorem HV.other {W w : World} {e : TypeId} {v : Value} {xs : List Value} (h : HV W w e v xs) (g j : Nat) (hg : W.heap.size ≤ g) (hn : v.ownBlock ≠ some g) (u : Value) : HV W (w.setCell ⟨g, j, none⟩ u) e v xs :=
  ⟨⟨h.own.1, h.own.2.imp id fun ⟨g', cap, cur, h1, h2, h3, r⟩ => ⟨g', cap, cur, h1, h2, by
    rw [Below.heap_setCell _ _ _ _ (fun e1 => ?_)]
    · exact h3
    · subst e1; subst h1; exact hn rfl, r⟩⟩, h.below.setCell (p := ⟨g, j, none⟩) hg u⟩
theorem Nums.symm {W w : World} {v4 v5 : Value} {bs cs : List Nat} (h : Nums W w v4 v5 bs cs) : Nums W w v5 v4 cs bs := ⟨h.c, h.b, h.ap.symm⟩
theorem Nums.setB {W w : World} {g n cap : Nat} {v5 : Value} {bs cs : List Nat} (h : Nums W w (.slice (some ⟨g, 0, none⟩) n cap) v5 bs cs) (j y : Nat) : Nums W (w.setCell ⟨g, j, none⟩ (.int .i64 (y : Int))) (.slice (some ⟨g, 0, none⟩) n cap) v5 (bs.set j y) cs ∧ K3 w (w.setCell ⟨g, j, none⟩ (.int .i64 (y : Int))) := by
  have hg := h.b.own.lt g rfl
  refine ⟨⟨by rw [← ints_set]; exact h.b.set j _, h.c.other g j hg.1 (fun e => h.ap g rfl e) _, h.ap⟩, ?_⟩
  rcases h.b.own.2 with ⟨h0, _⟩ | ⟨g', cap', cur, h1, h2, h3, _⟩
  · cases h0
  · cases h1
    exact K3.set h3 _
/-- While a row is put together (in slot 7, since world Wi). -/
structure In (W Wi w : World) (v4 v5 v7 : Value) (m4 m5 : Nat) (cells : List (List UInt8)) : Prop where
  own7 : w.ownsRow Wi.heap.size 9 1 v7 cells.length (strs cells)
  nums : Nums W w v4 v5 (List.replicate m4 0) (List.replicate m5 0)
  keep : K3 Wi w
  low : W.heap.size ≤ Wi.heap.size
  sz : Wi.heap.size ≤ w.heap.size
theorem In.on {W Wi w w' : World} {v4 v5 v7 : Value} {m4 m5 : Nat} {cells : List (List UInt8)} (h : In W Wi w v4 v5 v7 m4 m5 cells) (hb : Below w.heap.size w w') : In W Wi w' v4 v5 v7 m4 m5 cells :=
  ⟨own_below h.own7 hb, h.nums.on hb, h.keep.trans (K3.on hb), h.low, Nat.le_trans h.sz hb.size⟩
theorem In.alloc {W Wi w : World} {v4 v5 v7 : Value} {m4 m5 : Nat} {cells : List (List UInt8)} (h : In W Wi w v4 v5 v7 m4 m5 cells) (o : Obj) : In W Wi (w.alloc o) v4 v5 v7 m4 m5 cells := h.on ((Below.refl _ w).alloc (Nat.le_refl _) o)
theorem In.symm {W Wi w : World} {v4 v5 v7 : Value} {m4 m5 : Nat} {cells : List (List UInt8)} (h : In W Wi w v4 v5 v7 m4 m5 cells) : In W Wi w v5 v4 v7 m5 m4 cells := ⟨h.own7, h.nums.symm, h.keep, h.low, h.sz⟩
theorem keep_own {w w' : World} {B B' n n' : Nat} {e e' : TypeId} {v v' : Value} {xs xs' : List Value} (hown : w.ownsRow B e 1 v n xs) (h2 : w.grownBy w' v.ownBlock) (h : w.ownsRow B' e' 1 v' n' xs') (hne : e' ≠ e) : w'.ownsRow B' e' 1 v' n' xs' :=
  ⟨h.1, h.2.imp id fun ⟨g, cap, cur, hv, hb, hg, r⟩ => ⟨g, cap, cur, hv, hb, keep_block hown h2 hg hne, r⟩⟩
theorem keep_apart {w w' : World} {B' n' : Nat} {e' : TypeId} {v v' : Value} {xs' : List Value} (ha : Apart v v') (h2 : w.grownBy w' v.ownBlock) (h : w.ownsRow B' e' 1 v' n' xs') : w'.ownsRow B' e' 1 v' n' xs' :=
  ⟨h.1, h.2.imp id fun ⟨g, cap, cur, hv, hb, hg, r⟩ => ⟨g, cap, cur, hv, hb, by
    rw [h2.block g (Array.getElem?_eq_some_iff.1 hg).1 (fun e => ha g e.symm (by rw [hv]; rfl))]; exact hg, r⟩⟩
/-- The row is one cell longer. -/
theorem In.more {W Wi w w' : World} {v4 v5 v7 v' : Value} {m4 m5 : Nat} {cells : List (List UInt8)} {x : List UInt8} (h : In W Wi w v4 v5 v7 m4 m5 cells) (h1 : w'.ownsRow Wi.heap.size 9 1 v' (cells.length + 1) (strs cells ++ [.string ⟨x.toArray⟩])) (h2 : w.grownBy w' v7.ownBlock) : In W Wi w' v4 v5 v' m4 m5 (cells ++ [x]) := by
  have hb : Below W.heap.size W w' := h.nums.b.below.grown h2 h.nums.b.below.size fun g hg => Nat.le_trans h.low (h.own7.lt g hg).1
  refine ⟨by rw [strs_append, List.length_append]; exact h1, ⟨⟨keep_own h.own7 h2 h.nums.b.own (by decide), hb⟩, ⟨keep_own h.own7 h2 h.nums.c.own (by decide), hb⟩, h.nums.ap⟩, ?_, h.low, Nat.le_trans h.sz h2.size⟩
  intro g cur e fr he hg
  have h3 := h.keep g cur e fr he hg
  have hlt := (Array.getElem?_eq_some_iff.1 hg).1
  rw [h2.block g (Array.getElem?_eq_some_iff.1 h3).1 (fun e1 => ?_)]
  · exact h3
  · have := (h.own7.lt g e1.symm).1
    omega
/-- One column more. -/
theorem In.wide {W Wi w w' : World} {v4 v5 v7 v' : Value} {m4 m5 : Nat} {cells : List (List UInt8)} (h : In W Wi w v4 v5 v7 m4 m5 cells) (h1 : w'.ownsRow W.heap.size 3 1 v' (m4 + 1) (ints (List.replicate m4 0) ++ [.int .i64 0])) (h2 : w.grownBy w' v4.ownBlock) (hw : v'.ownBlock = v4.ownBlock ∨ ∀ g, v'.ownBlock = some g → w.heap.size ≤ g) : In W Wi w' v' v5 v7 (m4 + 1) m5 cells := by
  have hb : Below W.heap.size W w' := h.nums.b.below.grown h2 h.nums.b.below.size fun g hg => (h.nums.b.own.lt g hg).1
  have hi : ints (List.replicate (m4 + 1) 0) = ints (List.replicate m4 0) ++ [.int .i64 0] := by rw [List.replicate_succ']; simp [ints]
  refine ⟨keep_own h.nums.b.own h2 h.own7 (by decide), ⟨⟨by rw [hi]; simpa [ints] using h1, hb⟩, ⟨keep_apart h.nums.ap h2 h.nums.c.own, hb⟩, ?_⟩, h.keep.trans (K3.grown h.nums.b.own h2), h.low, Nat.le_trans h.sz h2.size⟩
  intro g hg hg5
  rcases hw with hw | hw
  · exact h.nums.ap g (hw ▸ hg) hg5
  · have := hw g hg
    have := (h.nums.c.own.lt g hg5).2
    omega
/-- Rows that are whole. -/
structure Out (W w : World) (v3 v4 v5 : Value) (m : Nat) (rows : List (List (List UInt8))) : Prop where
  rows : ∃ xs : List Value, w.ownsRow W.heap.size 39 1 v3 rows.length xs ∧ ∀ i (h : i < rows.length), ∃ ai ci, xs[i]? = some (.slice ai rows[i].length ci) ∧ StrsT w ai rows[i]
  nums : Nums W w v4 v5 (List.replicate m 0) (List.replicate m 0)
theorem Out.begin {W w : World} {v3 v4 v5 : Value} {m : Nat} {rows : List (List (List UInt8))} (h : Out W w v3 v4 v5 m rows) : In W w w v4 v5 (.slice none 0 0) m m [] :=
  ⟨World.ownsRow_nil w _ 9 1, h.nums, K3.refl w, h.nums.b.below.size, Nat.le_refl _⟩
theorem own_k3 {w w' : World} {B n : Nat} {e : TypeId} {v : Value} {xs : List Value} (h : w.ownsRow B e 1 v n xs) (he : e ≠ 3) (k : K3 w w') : w'.ownsRow B e 1 v n xs :=
  ⟨h.1, h.2.imp id fun ⟨g, cap, cur, hv, hb, hg, r⟩ => ⟨g, cap, cur, hv, hb, k _ _ _ _ he hg, r⟩⟩
theorem Out.over {W Wi w : World} {v3 a b v4 v5 v7 : Value} {m0 m : Nat} {rows : List (List (List UInt8))} {cells : List (List UInt8)} (h : Out W Wi v3 a b m0 rows) (i : In W Wi w v4 v5 v7 m m cells) : Out W w v3 v4 v5 m rows := by
  obtain ⟨xs, h1, h2⟩ := h.rows
  refine ⟨⟨xs, own_k3 h1 (by decide) i.keep, fun j hj => ?_⟩, i.nums⟩
  obtain ⟨ai, ci, h3, h4⟩ := h2 j hj
  exact ⟨ai, ci, h3, h4.keep i.keep⟩
theorem In.rowT {W Wi w : World} {v4 v5 v7 : Value} {m4 m5 : Nat} {cells : List (List UInt8)} (h : In W Wi w v4 v5 v7 m4 m5 cells) {n : Nat} (hn : cells.length = n) : ∃ ai ci, v7 = .slice ai n ci ∧ StrsT w ai cells := by
  subst hn
  rcases h.own7.2 with ⟨hv, h0⟩ | ⟨g, cap, cur, hv, hb, hg, h4, h5, h6, h7⟩
  · refine ⟨none, 0, by rw [hv, h0], .inl (List.eq_nil_of_length_eq_zero h0)⟩
  · refine ⟨_, _, hv, .inr ⟨g, cur, rfl, hg, fun j hj => ?_⟩⟩
    have e : (cur.toList.take (cells.length * 1))[j]? = (strs cells)[j]? := by rw [h7]
    rw [Nat.mul_one, List.getElem?_take, if_pos hj] at e
    rw [show cur[j]? = cur.toList[j]? from by simp, e]
    simp [strs, hj]
theorem Out.on {W w w' : World} {v3 v4 v5 : Value} {m : Nat} {rows : List (List (List UInt8))} (h : Out W w v3 v4 v5 m rows) (hb : Below w.heap.size w w') : Out W w' v3 v4 v5 m rows := by
  obtain ⟨xs, h1, h2⟩ := h.rows
  refine ⟨⟨xs, own_below h1 hb, fun j hj => ?_⟩, h.nums.on hb⟩
  obtain ⟨ai, ci, h3, h4⟩ := h2 j hj
  exact ⟨ai, ci, h3, h4.keep (K3.on hb)⟩
theorem StrsT.grown {w w' : World} {B n : Nat} {v : Value} {xs : List Value} {ai : Option Addr} {row : List (List UInt8)} (h : StrsT w ai row) (hown : w.ownsRow B 39 1 v n xs) (h2 : w.grownBy w' v.ownBlock) : StrsT w' ai row :=
  h.imp id fun ⟨b, cur, a1, a2, a3⟩ => ⟨b, cur, a1, keep_block hown h2 a2 (by decide), a3⟩
theorem Out.snoc {W w w' : World} {v3 v4 v5 v' : Value} {m : Nat} {rows : List (List (List UInt8))} {xs : List Value} (hown : w.ownsRow W.heap.size 39 1 v3 rows.length xs) (hx : ∀ i (h : i < rows.length), ∃ ai ci, xs[i]? = some (.slice ai rows[i].length ci) ∧ StrsT w ai rows[i]) (nums : Nums W w v4 v5 (List.replicate m 0) (List.replicate m 0))
    (cells : List (List UInt8)) (ai : Option Addr) (ci : Nat) (hs : StrsT w ai cells) (h1 : w'.ownsRow W.heap.size 39 1 v' (rows.length + 1) (xs ++ [.slice ai cells.length ci])) (h2 : w.grownBy w' v3.ownBlock) : Out W w' v' v4 v5 m (rows ++ [cells]) := by
  have hb : Below W.heap.size W w' := nums.b.below.grown h2 nums.b.below.size fun g hg => (hown.lt g hg).1
  have hxl : xs.length = rows.length := by simpa using hown.1
  refine ⟨⟨xs ++ [.slice ai cells.length ci], by rw [List.length_append]; exact h1, fun i hi => ?_⟩, ⟨keep_own hown h2 nums.b.own (by decide), hb⟩, ⟨keep_own hown h2 nums.c.own (by decide), hb⟩, nums.ap⟩
  by_cases hlt : i < rows.length
  · obtain ⟨a, c, h3, h4⟩ := hx i hlt
    refine ⟨a, c, ?_, ?_⟩
    · rw [List.getElem?_append_left (by omega), h3, List.getElem_append_left hlt]
    · rw [List.getElem_append_left hlt]; exact h4.grown hown h2
  · have he : i = rows.length := by simp at hi; omega
    subst he
    refine ⟨ai, ci, ?_, ?_⟩
    · rw [List.getElem?_append_right (by omega), hxl, Nat.sub_self]
      simp
    · simpa using hs.grown hown h2
theorem Out.rowsT {W w : World} {v3 v4 v5 : Value} {m n : Nat} {rows : List (List (List UInt8))} (h : Out W w v3 v4 v5 m rows) (hn : rows.length = n) : ∃ ao c, v3 = .slice ao n c ∧ RowsT w ao rows := by
  subst hn
  obtain ⟨xs, h1, h2⟩ := h.rows
  rcases h1.2 with ⟨hv, h0⟩ | ⟨g, cap, cur, hv, hb, hg, h4, h5, h6, h7⟩
  · exact ⟨none, 0, by rw [hv, h0], .inl (List.eq_nil_of_length_eq_zero h0)⟩
  · refine ⟨_, _, hv, .inr ⟨g, cur, rfl, hg, fun j hj => ?_⟩⟩
    obtain ⟨ai, ci, h8, h9⟩ := h2 j hj
    refine ⟨ai, ci, ?_, h9⟩
    have e : (cur.toList.take (rows.length * 1))[j]? = xs[j]? := by rw [h7]
    rw [Nat.mul_one, List.getElem?_take, if_pos hj] at e
    rw [show cur[j]? = cur.toList[j]? from by simp, e]
    exact h8
end Go.Proofs.YtbjinmlelchmgaaDoor
