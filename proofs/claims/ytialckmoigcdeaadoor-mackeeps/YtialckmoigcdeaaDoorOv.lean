/- A script's call, and what stays in the rounds of MacAll. -/
import Derived.Test.YtialckmoigcdeaaDoorPlain
import Derived.Test.YtialckmoigcdeaaDoorHd
namespace Go.Proofs.YtialckmoigcdeaaDoor
open Go.RowKit
theorem hid {p : Prop} (h : p) : Hid p := h
/-- A call. -/
structure Ov where
  kd : Int
  hh : Int
  ua : Option Addr
  un : Nat
  uc : Nat
  us : List Int
  va : Option Addr
  vn : Nat
  vc : Nat
  vs : List Int
  aa : Option Addr
  an : Nat
  ac : Nat
  as' : List Int
  ba : Option Addr
  bn : Nat
  bc : Nat
  bs : List Int
  A8 : List Int
  B8 : List Int
  N : Int
def Ov.cs (o : Ov) : List Value := opC o.kd o.hh o.ua o.un o.uc o.va o.vn o.vc o.aa o.an o.ac o.ba o.bn o.bc o.A8 o.B8 o.N
def Ov.In (W : World) (o : Ov) : Prop := OpIn W o.ua o.un o.uc o.us o.va o.vn o.vc o.vs o.aa o.an o.ac o.as' o.ba o.bn o.bc o.bs o.A8 o.B8
theorem Ov.In.on {W w : World} {o : Ov} (h : o.In W) (hb : Below W.heap.size W w) : o.In w := by
  unfold Ov.In at h ⊢
  exact ⟨h.hul, h.wu, h.hua.below hb, h.hus, h.hun, h.hvl, h.wv, h.hva.below hb, h.hvs, h.hvn, h.hal, h.pa, h.haa.below hb, h.has, h.hac, h.han, h.hbl, h.pb, h.hba.below hb, h.hbs, h.hbn, h.hA8, h.wA8, h.hB8, h.wB8⟩
theorem Ov.len {W : World} {o : Ov} (h : o.In W) : o.cs.length = 23 := by
  simp [Ov.cs, opC, h.hA8, h.hB8]
theorem Ov.plain {W : World} {o : Ov} (h : o.In W) (hT : Tabs W) (hR : TabR W) : Calls Tryd.prog 25 #[.agg o.cs.toArray] W fun e W' => e = .returned (.bool true) ∧ Below W.heap.size W W' :=
  plain_any W hT hR o.kd o.hh o.ua o.un o.uc o.us o.va o.vn o.vc o.vs o.aa o.an o.ac o.as' o.ba o.bn o.bc o.bs o.A8 o.B8 o.N h
theorem Ov.one (o : Ov) : o.cs.all (·.oneCell') = true := by
  simp only [Ov.cs, opC, List.all_append, List.all_cons, List.all_nil]
  have := fun L => List.all_eq_true.2 (ints_oneCell .u32 L)
  rw [this, this]
  rfl
theorem step_le {a k : Nat} (h : a ≤ k * 1048576) : a ≤ (k + 1) * 1048576 := Nat.le_trans h (Nat.mul_le_mul_right _ (Nat.le_succ k))
theorem step_add {a b k : Nat} (h : a ≤ k * 1048576) (h' : b ≤ 1048576) : a + b ≤ (k + 1) * 1048576 := by rw [Nat.succ_mul]; exact Nat.add_le_add h h'
/-- What stays in the rounds. -/
structure AI (W w : World) (k : Nat) (v3 v4 : Value) (Ps : List PH) (Ds : List DH) : Prop where
  below : Below W.heap.size W w
  P : PSt w W.heap.size v3 Ps
  D : DSt w W.heap.size v4 Ds
  same : Ps.map PH.ks = Ds.map DH.ks
  bd : ∀ d ∈ Ds, Wds d.key ∧ Wds d.said ∧ d.key.length ≤ 1048576 ∧ d.said.length ≤ k * 1048576
  pos : 1 ≤ Ps.length
  most : Ps.length ≤ k + 1
theorem AI.len {W w : World} {k : Nat} {v3 v4 : Value} {Ps : List PH} {Ds : List DH} (h : AI W w k v3 v4 Ps Ds) : Ds.length = Ps.length := by
  have := congrArg List.length h.same
  simpa using this.symm
theorem AI.on {W w w' : World} {k : Nat} {v3 v4 : Value} {Ps : List PH} {Ds : List DH} (h : AI W w k v3 v4 Ps Ds) (hb : Below w.heap.size w w') : AI W w' (k + 1) v3 v4 Ps Ds :=
  ⟨h.below.trans (hb.mono h.below.size), h.P.on hb, h.D.on hb, h.same, fun d hd => ⟨(h.bd d hd).1, (h.bd d hd).2.1, (h.bd d hd).2.2.1, step_le (h.bd d hd).2.2.2⟩, h.pos, by have := h.most; omega⟩
theorem AI.at {W w : World} {k : Nat} {v3 v4 : Value} {Ps : List PH} {Ds : List DH} (h : AI W w k v3 v4 Ps Ds) {q : Nat} (hq : q < Ps.length) : ∃ p d, Ps[q]? = some p ∧ Ds[q]? = some d ∧ p.key = d.key ∧ p.said = d.said := by
  have h1 : Ps[q]? = some Ps[q] := List.getElem?_eq_getElem hq
  have hd : q < Ds.length := by rw [h.len]; exact hq
  have h2 : Ds[q]? = some Ds[q] := List.getElem?_eq_getElem hd
  have := congrArg (·[q]?) h.same
  simp only [List.getElem?_map, h1, h2, Option.map_some] at this
  injection this with this
  injection this with e1 e2
  exact ⟨_, _, h1, h2, e1, e2⟩
/-- The two sides behind an Add. -/
theorem AI.set {W w : World} {k : Nat} {v3 v4 : Value} {Ps : List PH} {Ds : List DH} (h : AI W w k v3 v4 Ps Ds) {q : Nat} {p : PH} {d : DH} (_hp : Ps[q]? = some p) (hd : Ds[q]? = some d) (hk : p.key = d.key) (hs : p.said = d.said) (us : List Int) (wu : Wds us) (hu : us.length ≤ 1048576)
    {w' : World} (v : Value) (hb : Below W.heap.size W w') (hP : PSt w' W.heap.size v3 (Ps.set q { p with said := p.said ++ us })) (hD : DSt w' W.heap.size v4 (Ds.set q { d with sv := v, said := d.said ++ us })) :
    AI W w' (k + 1) v3 v4 (Ps.set q { p with said := p.said ++ us }) (Ds.set q { d with sv := v, said := d.said ++ us }) := by
  refine ⟨hb, hP, hD, ?_, ?_, by rw [List.length_set]; exact h.pos, by rw [List.length_set]; have := h.most; omega⟩
  · rw [List.map_set, List.map_set, h.same, hk, hs]
  · intro x hx
    rcases List.mem_or_eq_of_mem_set hx with hx | rfl
    · exact ⟨(h.bd x hx).1, (h.bd x hx).2.1, (h.bd x hx).2.2.1, step_le (h.bd x hx).2.2.2⟩
    · obtain ⟨b1, b2, b3, b4⟩ := h.bd d (List.mem_of_getElem? hd)
      exact ⟨b1, wds_append b2 wu, b3, by rw [List.length_append]; exact step_add b4 hu⟩
/-- Behind a New. -/
theorem AI.push {W w : World} {k : Nat} {v3 v4 : Value} {Ps : List PH} {Ds : List DH} (h : AI W w k v3 v4 Ps Ds) {p : PH} {d : DH} (hk : p.key = d.key) (hs : p.said = []) (ht : d.said = []) (wu : Wds d.key) (hu : d.key.length ≤ 1048576)
    {w' : World} {v3' v4' : Value} (hb : Below W.heap.size W w') (hP : PSt w' W.heap.size v3' (Ps ++ [p])) (hD : DSt w' W.heap.size v4' (Ds ++ [d])) : AI W w' (k + 1) v3' v4' (Ps ++ [p]) (Ds ++ [d]) := by
  refine ⟨hb, hP, hD, ?_, ?_, by simp, by simp; exact h.most⟩
  · simp [h.same, PH.ks, DH.ks, hk, hs, ht]
  · intro x hx
    rcases List.mem_append.1 hx with hx | hx
    · exact ⟨(h.bd x hx).1, (h.bd x hx).2.1, (h.bd x hx).2.2.1, step_le (h.bd x hx).2.2.2⟩
    · obtain rfl := List.mem_singleton.1 hx
      exact ⟨wu, by rw [ht]; exact fun i => by simp, hu, by rw [ht]; simp⟩
end Go.Proofs.YtialckmoigcdeaaDoor
