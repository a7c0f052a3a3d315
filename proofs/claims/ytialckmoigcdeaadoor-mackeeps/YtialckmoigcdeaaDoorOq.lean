/- MacAll: the calls of a round, on both sides. -/
import Derived.Test.YtialckmoigcdeaaDoorOv
import Derived.Test.YtialckmoigcdeaaDoorLawB
import Derived.Test.YtialckmoigcdeaaDoorP1
import Derived.Deep.MidRow
namespace Go.Proofs.YtialckmoigcdeaaDoor
open Go.RowKit
set_option maxRecDepth 100000
theorem size58 : (Tryd.prog.info? 58).map (·.size) = some 23 := by kernel_rfl
theorem range_below {W w : World} {b off : Nat} {cs : List Value} (h : W.rangeAt b off cs) (hb : b < W.heap.size) (hw : Below W.heap.size W w) : w.rangeAt b off cs := fun j v hv => (hw.cell (p := ⟨b, off + j, none⟩) hb).trans (h j v hv)
theorem wds_nil : Wds [] := fun i => by simp
theorem AI.start {W w1 w2 : World} {gm gi go : Nat} (hB : Below W.heap.size W w1) (MH : MacH w2 gm gi go (keyW (bytesD [])) []) (_hm : w1.heap.size ≤ gm) (hi : w1.heap.size ≤ gi) (_ho : w1.heap.size ≤ go) (hb : Below w1.heap.size w1 w2) :
    AI W ((w2.alloc (Obj.cells #[Value.pointer (some ⟨gm, 0, none⟩)] 42)).alloc (Obj.cells #[Value.slice none 0 0, Value.slice none 0 0] 55)) 0 (.slice (some ⟨w2.heap.size, 0, none⟩) 1 1) (.slice (some ⟨w2.heap.size + 1, 0, none⟩) 1 1) [⟨gm, gi, go, [], []⟩] [⟨.slice none 0 0, .slice none 0 0, [], []⟩] := by
  have h1 := below_one w2 (Obj.cells #[Value.pointer (some ⟨gm, 0, none⟩)] 42)
  have h2 := below_one (w2.alloc (Obj.cells #[Value.pointer (some ⟨gm, 0, none⟩)] 42)) (Obj.cells #[Value.slice none 0 0, Value.slice none 0 0] 55)
  have z1 := hB.size
  have z2 := hb.size
  have hs : (w2.alloc (Obj.cells #[Value.pointer (some ⟨gm, 0, none⟩)] 42)).heap.size = w2.heap.size + 1 := by simp
  have c1 : Cel (w2.alloc (Obj.cells #[Value.pointer (some ⟨gm, 0, none⟩)] 42)) w2.heap.size 42 [Value.pointer (some ⟨gm, 0, none⟩)] := heap_alloc_new _ _
  have c2 : Cel ((w2.alloc (Obj.cells #[Value.pointer (some ⟨gm, 0, none⟩)] 42)).alloc (Obj.cells #[Value.slice none 0 0, Value.slice none 0 0] 55)) (w2.heap.size + 1) 55 [Value.slice none 0 0, Value.slice none 0 0] := by rw [← hs]; exact heap_alloc_new _ _
  have c1' := c1.on h2
  refine ⟨((hB.trans (hb.mono z1)).trans (h1.mono (by omega))).trans (h2.mono (by omega)), ⟨?_, ?_, List.pairwise_singleton _ _⟩, ⟨?_, ?_⟩, rfl, ?_, by simp, by simp⟩
  · exact ⟨rfl, .inr ⟨w2.heap.size, 1, _, rfl, by omega, c1', Nat.le_refl _, by unfold maxLen; omega, rfl, rfl⟩⟩
  · intro x hx
    obtain rfl := List.mem_singleton.1 hx
    exact ⟨(MH.on h1).on h2, by show W.heap.size ≤ gi; omega⟩
  · exact ⟨rfl, .inr ⟨w2.heap.size + 1, 1, _, rfl, by omega, c2, Nat.le_refl _, by unfold maxLen; omega, rfl, rfl⟩⟩
  · intro x hx
    obtain rfl := List.mem_singleton.1 hx
    exact ⟨World.ownsRow_nil _ _ _ _, World.ownsRow_nil _ _ _ _⟩
  · intro x hx
    obtain rfl := List.mem_singleton.1 hx
    exact ⟨wds_nil, wds_nil, by simp, by simp⟩
theorem AI.stay {W w w' : World} {k : Nat} {v3 v4 : Value} {Ps : List PH} {Ds : List DH} (h : AI W w k v3 v4 Ps Ds) (hb : Below w.heap.size w w') : AI W w' k v3 v4 Ps Ds :=
  ⟨h.below.trans (hb.mono h.below.size), h.P.on hb, h.D.on hb, h.same, h.bd, h.pos, h.most⟩
theorem AI.next {W w : World} {k : Nat} {v3 v4 : Value} {Ps : List PH} {Ds : List DH} (h : AI W w k v3 v4 Ps Ds) : AI W w (k + 1) v3 v4 Ps Ds := h.on (Below.refl _ _)
/-- With the call in a box. -/
structure AB (W w : World) (k : Nat) (v3 v4 : Value) (Ps : List PH) (Ds : List DH) (o : Ov) (g : Nat) : Prop where
  ai : AI W w k v3 v4 Ps Ds
  box : Cel w g 58 o.cs
  inn : o.In W
theorem AB.on {W w w' : World} {k : Nat} {v3 v4 : Value} {Ps : List PH} {Ds : List DH} {o : Ov} {g : Nat} (h : AB W w k v3 v4 Ps Ds o g) (hb : Below w.heap.size w w') : AB W w' k v3 v4 Ps Ds o g := ⟨h.ai.stay hb, h.box.on hb, h.inn⟩
theorem AB.start {W w : World} {k : Nat} {v3 v4 : Value} {Ps : List PH} {Ds : List DH} {o : Ov} (h : AI W w k v3 v4 Ps Ds) (ho : o.In W) (V : List Value) : AB W ((w.alloc (Obj.cells V.toArray 58)).setRow w.heap.size o.cs.toArray) k v3 v4 Ps Ds o w.heap.size := by
  have h1 := below_one w (Obj.cells V.toArray 58)
  have h2 := (but_setRow (w.alloc (Obj.cells V.toArray 58)) w.heap.size o.cs.toArray).below (B := w.heap.size) (Nat.le_refl _) (by simp)
  have hb := h1.trans h2
  exact ⟨h.stay hb, setRow_heap _ _ _ _ 58 _ (heap_alloc_new w (Obj.cells V.toArray 58)), ho⟩
theorem AB.c0 {W w : World} {k : Nat} {v3 v4 : Value} {Ps : List PH} {Ds : List DH} {o : Ov} {g : Nat} (h : AB W w k v3 v4 Ps Ds o g) : w.cell? ⟨g, 0, none⟩ = some (.int .i64 o.kd) := (h.box.cell 0).trans rfl
theorem AB.c1 {W w : World} {k : Nat} {v3 v4 : Value} {Ps : List PH} {Ds : List DH} {o : Ov} {g : Nat} (h : AB W w k v3 v4 Ps Ds o g) : w.cell? ⟨g, 1, none⟩ = some (.int .i64 o.hh) := (h.box.cell 1).trans rfl
theorem AB.c2 {W w : World} {k : Nat} {v3 v4 : Value} {Ps : List PH} {Ds : List DH} {o : Ov} {g : Nat} (h : AB W w k v3 v4 Ps Ds o g) : w.cell? ⟨g, 2, none⟩ = some (.slice o.ua o.un o.uc) := (h.box.cell 2).trans rfl
/-- Which handle. -/
def wh (h : Int) (n : Nat) : Nat := (h % (n : Int)).toNat
theorem wh_lt (h : Int) (n : Nat) (hn : 1 ≤ n) : wh h n < n := by
  have h1 := Int.emod_nonneg h (show (n : Int) ≠ 0 by omega)
  have h2 := Int.emod_lt_of_pos h (show (0 : Int) < n by omega)
  unfold wh
  omega
theorem wh_pos (h : Int) (n : Nat) (hn : 1 ≤ n) (hr : 0 ≤ h.tmod n) : h.tmod n = (wh h n : Int) := by
  have h1 := Int.emod_nonneg h (show (n : Int) ≠ 0 by omega)
  unfold wh
  rw [Int.toNat_of_nonneg h1, Int.tmod_eq_emod]
  split
  · omega
  · rename_i hc
    rw [Int.tmod_eq_emod, if_neg hc] at hr
    have := Int.emod_lt_of_pos h (show (0 : Int) < n by omega)
    omega
theorem wh_neg (h : Int) (n : Nat) (hn : 1 ≤ n) (hr : h.tmod n < 0) : h.tmod n + n = (wh h n : Int) := by
  have h1 := Int.emod_nonneg h (show (n : Int) ≠ 0 by omega)
  unfold wh
  rw [Int.toNat_of_nonneg h1, Int.tmod_eq_emod]
  split
  · rename_i hc
    rw [Int.tmod_eq_emod, if_pos hc] at hr
    omega
  · simp
/-- Between the two sides of a call. -/
structure Mid (W w : World) (v3 v4 : Value) (Ps : List PH) (Ds : List DH) (o : Ov) (g : Nat) : Prop where
  below : Below W.heap.size W w
  P : PSt w W.heap.size v3 Ps
  D : DSt w W.heap.size v4 Ds
  box : Cel w g 58 o.cs
  inn : o.In W
theorem AB.mid {W w : World} {k : Nat} {v3 v4 : Value} {Ps : List PH} {Ds : List DH} {o : Ov} {g : Nat} (h : AB W w k v3 v4 Ps Ds o g) : Mid W w v3 v4 Ps Ds o g := ⟨h.ai.below, h.ai.P, h.ai.D, h.box, h.inn⟩
theorem Mid.on {W w w' : World} {v3 v4 : Value} {Ps : List PH} {Ds : List DH} {o : Ov} {g : Nat} (h : Mid W w v3 v4 Ps Ds o g) (hb : Below w.heap.size w w') : Mid W w' v3 v4 Ps Ds o g := ⟨h.below.trans (hb.mono h.below.size), h.P.on hb, h.D.on hb, h.box.on hb, h.inn⟩
theorem Mid.c2 {W w : World} {v3 v4 : Value} {Ps : List PH} {Ds : List DH} {o : Ov} {g : Nat} (h : Mid W w v3 v4 Ps Ds o g) : w.cell? ⟨g, 2, none⟩ = some (.slice o.ua o.un o.uc) := (h.box.cell 2).trans rfl
theorem Mid.u {W w : World} {v3 v4 : Value} {Ps : List PH} {Ds : List DH} {o : Ov} {g : Nat} (h : Mid W w v3 v4 Ps Ds o g) : o.In w := h.inn.on h.below
theorem Mid.size {W w : World} {v3 v4 : Value} {Ps : List PH} {Ds : List DH} {o : Ov} {g : Nat} (h : Mid W w v3 v4 Ps Ds o g) : W.heap.size ≤ w.heap.size := h.below.size
theorem Mid.pushP {W w w' : World} {v3 v4 v3' : Value} {Ps : List PH} {Ds : List DH} {o : Ov} {g : Nat} (h : Mid W w v3 v4 Ps Ds o g) (p : PH) (hm : MacH w p.gm p.gi p.go (keyW (bytesD p.key)) p.said) {X : Nat} (hX : W.heap.size ≤ X) (hi : X ≤ p.gi) (ho' : X ≤ p.go) (hx : ∀ x ∈ Ps, x.gi < X ∧ x.go < X)
    {n : Nat} (hn : Ps.length = n) (ho : w'.ownsRow W.heap.size 42 1 v3' (n + 1) (ptrs Ps ++ [.pointer (some ⟨p.gm, 0, none⟩)])) (hw : (∃ g, v3.ownBlock = some g ∧ But g w w') ∨ Below w.heap.size w w') : Mid W w' v3' v4 (Ps ++ [p]) Ds o g := by
  subst hn
  have hP := h.P.push (p := p) hm (Nat.le_trans hX hi) (fun x hxx => by have := hx x hxx; exact ⟨by omega, by omega, by omega⟩) ho hw
  rcases hw with ⟨i, hg, hb⟩ | hb
  · obtain ⟨cs, hc⟩ := own_ty h.P.own hg
    have hB := hb.below (h.P.own.lt i hg).1 h.size
    exact ⟨h.below.trans hB, hP, h.D.ch hc hb (by decide), h.box.but hb (fun e => by subst e; exact absurd (h.box.ty hc) (by decide)), h.inn⟩
  · exact ⟨h.below.trans (hb.mono h.size), hP, h.D.on hb, h.box.on hb, h.inn⟩
theorem Mid.pushD {W w w' : World} {v3 v4 v4' : Value} {Ps : List PH} {Ds : List DH} {o : Ov} {g : Nat} (h : Mid W w v3 v4 Ps Ds o g) (d : DH) (hk : Lw w W.heap.size d.kv d.key) (hs : Lw w W.heap.size d.sv d.said)
    {n : Nat} (hn : Ds.length = n) (ho : w'.ownsRow W.heap.size 55 2 v4' (n + 1) (prs Ds ++ [d.kv, d.sv])) (hw : (∃ g, v4.ownBlock = some g ∧ But g w w') ∨ Below w.heap.size w w') : Mid W w' v3 v4' Ps (Ds ++ [d]) o g := by
  subst hn
  have hD := h.D.push (p := d) hk hs ho hw
  rcases hw with ⟨i, hg, hb⟩ | hb
  · obtain ⟨cs, hc⟩ := own_ty h.D.own hg
    have hB := hb.below (h.D.own.lt i hg).1 h.size
    exact ⟨h.below.trans hB, h.P.ch hc hb (by decide), hD, h.box.but hb (fun e => by subst e; exact absurd (h.box.ty hc) (by decide)), h.inn⟩
  · exact ⟨h.below.trans (hb.mono h.size), h.P.on hb, hD, h.box.on hb, h.inn⟩
theorem Mid.addP {W w w' : World} {v3 v4 : Value} {Ps : List PH} {Ds : List DH} {o : Ov} {g : Nat} (h : Mid W w v3 v4 Ps Ds o g) {q : Nat} {p : PH} (hq : Ps[q]? = some p) (hb : But p.gi w w') (hd : DigL w' p.gi (xorL 909522486 (keyW (bytesD p.key)) ++ p.said ++ o.us)) : Mid W w' v3 v4 (Ps.set q { p with said := p.said ++ o.us }) Ds o g := by
  obtain ⟨hm, hB⟩ := h.P.each p (List.mem_of_getElem? hq)
  obtain ⟨cs, hc⟩ := hm.inner.cel
  exact ⟨h.below.trans (hb.below hB h.size), h.P.add hq o.us hb hd, h.D.ch hc hb (by decide), h.box.but hb (fun e => by subst e; exact absurd (h.box.ty hc) (by decide)), h.inn⟩
theorem Mid.putD {W w : World} {v3 : Value} {h4 np c4 : Nat} {Ps : List PH} {Ds : List DH} {o : Ov} {g : Nat} (h : Mid W w v3 (.slice (some ⟨h4, 0, none⟩) np c4) Ps Ds o g) (hn : Ds.length = np) {q : Nat} {d : DH} (hq : Ds[q]? = some d) (v : Value) (L : List Int) (hl : Lw w W.heap.size v L) :
    Mid W (w.setCell ⟨h4, q * 2 + 1, none⟩ v) v3 (.slice (some ⟨h4, 0, none⟩) np c4) Ps (Ds.set q { d with sv := v, said := L }) o g := by
  subst hn
  obtain ⟨cs, hc⟩ := own_ty h.D.own (g := h4) rfl
  have hb := but_setCell w h4 (q * 2 + 1) v
  exact ⟨h.below.trans (hb.below (h.D.own.lt h4 rfl).1 h.size), h.P.ch hc hb (by decide), h.D.put hq v L hl, h.box.but hb (fun e => by subst e; exact absurd (h.box.ty hc) (by decide)), h.inn⟩
theorem Mid.old {W w : World} {v3 v4 : Value} {Ps : List PH} {Ds : List DH} {o : Ov} {g : Nat} (h : Mid W w v3 v4 Ps Ds o g) : ∀ x ∈ Ps, x.gi < w.heap.size ∧ x.go < w.heap.size := fun x hx => ⟨(h.P.each x hx).1.inner.lt, (h.P.each x hx).1.outer.lt⟩
/-- words: a new list. -/
theorem words_lw (w : World) {B : Nat} (hB : B ≤ w.heap.size) (ao : Option Addr) (n c : Nat) (xs : List Int) (hx : xs.length = n) (hat : At w .u32 ao xs) (hs : Sl ao c) (hn : n ≤ 2199023255552) :
    Calls Tryd.prog 15 #[.slice ao n c] w fun e w' => ∃ vo vc, e = .returned (.slice vo n vc) ∧ Lw w' B (.slice vo n vc) xs ∧ At w' .u32 vo xs ∧ Sl vo vc ∧ Holds w w' .u32 25 (.slice vo n vc) xs := by
  refine (words_law w ao n c xs hx hat hs (by omega)).mono ?_
  rintro e w' ⟨v, rfl, H⟩
  obtain ⟨vo, vc, rfl, _, h2, h3⟩ := H.at'
  rw [hx] at H ⊢
  exact ⟨vo, vc, rfl, H.lw hB, h2, fun h => (h3 h).1, H⟩
/-- An append of words in a drawn region. -/
theorem wp_append_w {W w : World} {o : Oper} {a : Act} {K : Act → World → Prop} {Q : Exit → Act → World → Prop} (s x : Operand)
    (ho : o.op = .call { callee := .builtin .append, args := #[s, x], argTypes := #[35, 35] }) (v : Value) (L : List Int) (hs : a.eval s = v) (H : Holds W w .u32 25 v L) (ao : Option Addr) (m c : Nat) (xs : List Int) (hx : a.eval x = .slice ao m c) (hl : xs.length = m) (hat : At w .u32 ao xs) (hn : Sl ao c) (h63 : L.length + m ≤ 4398046511104)
    (h : ∀ v' w', Holds W w' .u32 25 v' (L ++ xs) → K (a.put o.dst v') w') : o.wp Tryd.prog a w K Q := by
  obtain ⟨i, hi, hz, hsize, hby⟩ := info_parts Tryd.info25
  cases ao with
  | none =>
    have hx0 : xs = [] := by
      rcases hat with h0 | ⟨b, off, h1, _⟩
      · exact h0
      · cases h1
    subst hx0
    simp at hl
    subst hl
    obtain rfl := hn rfl
    have hr := run_append_owned_none (P := Tryd.prog) (w := w) W.heap.size 35 o.type 25 i 1 Tryd.underlying35 hi v L.length _ H.own
    unfold Oper.wp execOp
    simp only [ho, resolve, invoke, builtin, Sem.run_bind, Sem.run_pure, Result.andThen_ok, List.map_toArray, List.map_cons, List.map_nil, hs, hx, hr]
    exact h v w (by rw [List.append_nil]; exact H)
  | some ad =>
    obtain ⟨v', w', hr, h1, h2, _⟩ := run_append_own (P := Tryd.prog) w W.heap.size 35 o.type 25 i _ 1 4 Tryd.underlying35 hi hz hsize hby rfl (by decide) v L.length _ H.own ad m c (xs.map (Value.int .u32)) (by simp [hl]) hat.cells (ints_oneCell .u32 xs) (by unfold maxLen; omega) (by omega) H.below.size
    have hH : Holds W w' .u32 25 v' (L ++ xs) := Holds.grow H.below (fun g hg => (H.own.lt g hg).1) h1 h2 (by simp [hl]) (by simp)
    unfold Oper.wp execOp
    simp only [ho, resolve, invoke, builtin, Sem.run_bind, Sem.run_pure, Result.andThen_ok, List.map_toArray, List.map_cons, List.map_nil, hs, hx, hr]
    exact h _ _ hH
theorem info42 : (Tryd.prog.info? 42).map (fun i => (i.zero, i.size, i.bytes)) = some (some (.pointer none), 1, 8) := by kernel_rfl
theorem info55 : (Tryd.prog.info? 55).map (fun i => (i.zero, i.size, i.bytes)) = some (some (.agg #[.slice none 0 0, .slice none 0 0]), 2, 48) := by kernel_rfl
end Go.Proofs.YtialckmoigcdeaaDoor
