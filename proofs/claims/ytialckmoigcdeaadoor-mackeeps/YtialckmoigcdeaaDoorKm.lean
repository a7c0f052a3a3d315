/- MacKeeps: rows of the call's own, a handle and two boxes beside them. -/
import Derived.Test.YtialckmoigcdeaaDoorKp0
namespace Go.Proofs.YtialckmoigcdeaaDoor
open Go.RowKit
theorem hid {p : Prop} (h : p) : Hid p := h
theorem below_on {W w w' : World} (h : Below W.heap.size W w) (hb : Below w.heap.size w w') : Below W.heap.size W w' := h.trans (hb.mono h.size)
theorem Cel.ty {w : World} {g : Nat} {t t' : TypeId} {cs cs' : List Value} (h : Cel w g t cs) (h' : Cel w g t' cs') : t = t' := by
  unfold Cel at h h'
  rw [h] at h'
  injection h' with h'
  injection h'
theorem DigL.cel {w : World} {g : Nat} {L : List Int} (h : DigL w g L) : ∃ cs, Cel w g 70 cs := by
  obtain ⟨r, _, hc⟩ := Dig.cells h
  exact ⟨_, hc⟩
theorem MacH.ch {w w' : World} {g gm gi go : Nat} {K L : List Int} (h : MacH w gm gi go K L) {t : TypeId} {cs : List Value} (hc : Cel w g t cs) (hb : But g w w') (ht : 47 ≠ t ∧ 70 ≠ t) : MacH w' gm gi go K L := by
  obtain ⟨c1, h1⟩ := h.inner.cel
  obtain ⟨c2, h2⟩ := h.outer.cel
  exact h.but hb (fun e => ht.1 (by subst e; exact h.cel.ty hc)) (fun e => ht.2 (by subst e; exact h1.ty hc)) (fun e => ht.2 (by subst e; exact h2.ty hc))
/-- A row: its block, its elements' type and kind, how long the block is, where its slice points, the numbers. -/
structure Rz where
  g : Nat
  e : TypeId
  k : IntKind
  cap : Nat
  vo : Option Addr
  l : List Int
def Rz.ok (w : World) (z : Rz) : Prop := (z.vo = none ∧ z.l = []) ∨ (z.vo = some ⟨z.g, 0, none⟩ ∧ Own w z.g z.e z.k z.cap z.l)
theorem Rz.ok.on {w w' : World} {z : Rz} (h : z.ok w) (hb : Below w.heap.size w w') : z.ok w' := h.imp id fun h => ⟨h.1, h.2.on hb⟩
theorem Rz.ok.but {w w' : World} {z : Rz} {i : Nat} (h : z.ok w) (hb : But i w w') (hi : z.vo ≠ none → z.g ≠ i) : z.ok w' := h.imp id fun h => ⟨h.1, h.2.but hb (hi (by rw [h.1]; exact fun h => by cases h))⟩
theorem Rz.ok.own {w : World} {z : Rz} (h : z.ok w) (hv : z.vo ≠ none) : z.vo = some ⟨z.g, 0, none⟩ ∧ Own w z.g z.e z.k z.cap z.l := by
  rcases h with h | h
  · exact absurd h.1 hv
  · exact h
theorem Rz.ok.real {w : World} {z : Rz} (h : z.ok w) (hn : 0 < z.l.length) : z.vo = some ⟨z.g, 0, none⟩ ∧ Own w z.g z.e z.k z.cap z.l := by
  rcases h with ⟨_, h⟩ | h
  · rw [h] at hn; cases hn
  · exact h
theorem Rz.ok.at {w : World} {z : Rz} (h : z.ok w) : At w z.k z.vo z.l := by
  rcases h with ⟨_, h⟩ | ⟨h, ho⟩
  · exact .inl h
  · rw [h]; exact ho.at
theorem Rz.ok.conv {w : World} {g cap n c : Nat} {vo : Option Addr} {l : List Int} (h : (⟨g, 5, .u8, cap, vo, l⟩ : Rz).ok w) (hn : l.length = n) : (convert 22 9 (.slice vo n c)).run Tryd.prog w = .ok (.string (strOfNums l)) w := by
  rcases h with ⟨hv, hl⟩ | ⟨hv, h3⟩
  · have e1 : vo = none := hv
    have e2 : l = [] := hl
    subst e1 e2
    exact run_convert_bytes_nil w 22 5 Tryd.underlying22 Tryd.underlying5 n c 9 Tryd.underlying9
  · have e1 : vo = some ⟨g, 0, none⟩ := hv
    subst e1
    exact conv_own h3 hn
theorem Rz.ok.xg {w : World} {g cap : Nat} {vo : Option Addr} {l : List Int} (h : (⟨g, 5, .u8, cap, vo, l⟩ : Rz).ok w) : XG w g vo l := h.imp id fun h => ⟨h.1, cap, h.2⟩
theorem Own.cel {w : World} {g : Nat} {e : TypeId} {k : IntKind} {cap : Nat} {L : List Int} (h : Own w g e k cap L) : ∃ cs, Cel w g e cs := by
  obtain ⟨cur, h, _⟩ := h
  exact ⟨cur.toList, h⟩
theorem Blk.own {w : World} {g : Nat} {e : TypeId} {k : IntKind} {L : List Int} (h : Blk w g k e L) : Own w g e k L.length L := ⟨_, h, by simp, Nat.le_refl _, List.take_of_length_le (by simp)⟩
theorem Own.range {w : World} {g : Nat} {e : TypeId} {k : IntKind} {cap : Nat} {L : List Int} (h : Own w g e k cap L) : w.rangeAt g 0 (L.map (Value.int k)) := h.row.range
/-- A handle. -/
structure Mq where
  gm : Nat
  gi : Nat
  go : Nat
  K : List Int
  xs : List Int
structure KM (W w : World) (cs cq : List Value) (M : Option Mq) (Z : List Rz) : Prop where
  tab : Tabs W
  below : Below W.heap.size W w
  BC : Cel w W.heap.size 39 cs
  BQ : Cel w (W.heap.size + 1) 24 cq
  MH : ∀ m, M = some m → MacH w m.gm m.gi m.go m.K m.xs ∧ W.heap.size ≤ m.gi
  own : ∀ z ∈ Z, z.ok w
  nw : ∀ z ∈ Z, z.vo ≠ none → W.heap.size ≤ z.g
  ty : ∀ z ∈ Z, z.e = 25 ∨ z.e = 5 ∨ z.e = 26
  nd : Z.Pairwise fun a b => a.vo ≠ none → b.vo ≠ none → a.g ≠ b.g
theorem KM.tabs {W w : World} {cs cq : List Value} {M : Option Mq} {Z : List Rz} (h : KM W w cs cq M Z) : Tabs w := h.tab.on h.below
theorem KM.bw {W w : World} {cs cq : List Value} {M : Option Mq} {Z : List Rz} (h : KM W w cs cq M Z) : Bw W w := h.below
theorem KM.get {W w : World} {cs cq : List Value} {M : Option Mq} {Z : List Rz} (h : KM W w cs cq M Z) (i : Nat) {z : Rz} (hz : Z[i]? = some z) : z.ok w := h.own z (List.mem_of_getElem? hz)
theorem KM.on {W w w' : World} {cs cq : List Value} {M : Option Mq} {Z : List Rz} (h : KM W w cs cq M Z) (hb : Below w.heap.size w w') : KM W w' cs cq M Z :=
  ⟨h.tab, below_on h.below hb, h.BC.on hb, h.BQ.on hb, fun m hm => ⟨(h.MH m hm).1.on hb, (h.MH m hm).2⟩, fun z hz => (h.own z hz).on hb, h.nw, h.ty, h.nd⟩
theorem KM.sub {W w : World} {cs cq : List Value} {M : Option Mq} {Z Z' : List Rz} (h : KM W w cs cq M Z) (hs : Z'.Sublist Z) : KM W w cs cq M Z' :=
  ⟨h.tab, h.below, h.BC, h.BQ, h.MH, fun z hz => h.own z (hs.mem hz), fun z hz => h.nw z (hs.mem hz), fun z hz => h.ty z (hs.mem hz), h.nd.sublist hs⟩
/-- One row more. -/
theorem KM.add {W w w' : World} {cs cq : List Value} {M : Option Mq} {Z : List Rz} (h : KM W w cs cq M Z) (hb : Below w.heap.size w w') (z : Rz) (hz : z.ok w') (hg : z.vo ≠ none → w.heap.size ≤ z.g) (ht : z.e = 25 ∨ z.e = 5 ∨ z.e = 26) : KM W w' cs cq M (z :: Z) := by
  have h' := h.on hb
  have hs := h.below.size
  refine ⟨h.tab, h'.below, h'.BC, h'.BQ, h'.MH, ?_, ?_, ?_, ?_⟩
  · intro y hy
    rcases List.mem_cons.1 hy with rfl | hy
    · exact hz
    · exact h'.own y hy
  · intro y hy hv
    rcases List.mem_cons.1 hy with rfl | hy
    · exact Nat.le_trans hs (hg hv)
    · exact h.nw y hy hv
  · intro y hy
    rcases List.mem_cons.1 hy with rfl | hy
    · exact ht
    · exact h.ty y hy
  · refine List.pairwise_cons.2 ⟨fun y hy h1 h2 => ?_, h.nd⟩
    have := ((h.own y hy).own h2).2.lt
    have := hg h1
    omega
/-- A number of a row is laid anew. -/
theorem KM.set {W w : World} {cs cq : List Value} {M : Option Mq} {Z : List Rz} (h : KM W w cs cq M Z) (i : Nat) {z : Rz} (hi : Z[i]? = some z) (hv : z.vo ≠ none) (j : Nat) (u : Int) : KM W (w.setCell ⟨z.g, j, none⟩ (.int z.k u)) cs cq M (Z.set i { z with l := z.l.set j u }) := by
  have hz : z ∈ Z := List.mem_of_getElem? hi
  obtain ⟨hil, hie⟩ := List.getElem?_eq_some_iff.1 hi
  obtain ⟨e1, ho⟩ := (h.own z hz).own hv
  have hb := but_setCell w z.g j (.int z.k u)
  obtain ⟨cz, hc⟩ := ho.cel
  have hty := h.ty z hz
  refine ⟨h.tab, h.below.trans (hb.below (h.nw z hz hv) h.below.size), h.BC.but hb (fun e => ?_), h.BQ.but hb (fun e => ?_), fun m hm => ⟨(h.MH m hm).1.ch hc hb ?_, (h.MH m hm).2⟩, ?_, ?_, ?_, ?_⟩
  · rw [← e] at hc
    have := h.BC.ty hc
    rcases hty with q | q | q <;> rw [q] at this <;> exact absurd this (by decide)
  · rw [← e] at hc
    have := h.BQ.ty hc
    rcases hty with q | q | q <;> rw [q] at this <;> exact absurd this (by decide)
  · rcases hty with q | q | q <;> rw [q] <;> decide
  · intro y hy
    obtain ⟨t, ht⟩ := List.mem_iff_getElem?.1 hy
    by_cases hit : i = t
    · subst hit
      rw [List.getElem?_set_self hil] at ht
      obtain rfl := Option.some.inj ht
      exact .inr ⟨e1, ho.set j u⟩
    · rw [List.getElem?_set_ne hit] at ht
      have hy' : y ∈ Z := List.mem_of_getElem? ht
      obtain ⟨htl, hte⟩ := List.getElem?_eq_some_iff.1 ht
      refine (h.own y hy').but hb fun hyv => ?_
      rcases Nat.lt_or_gt_of_ne hit with hlt | hgt
      · have := List.pairwise_iff_getElem.1 h.nd i t hil htl hlt
        rw [hie, hte] at this
        exact fun e => this hv hyv e.symm
      · have := List.pairwise_iff_getElem.1 h.nd t i htl hil hgt
        rw [hie, hte] at this
        exact this hyv hv
  · intro y hy hyv
    rcases List.mem_or_eq_of_mem_set hy with hy | rfl
    · exact h.nw y hy hyv
    · exact h.nw z hz hv
  · intro y hy
    rcases List.mem_or_eq_of_mem_set hy with hy | rfl
    · exact h.ty y hy
    · exact h.ty z hz
  · refine List.pairwise_iff_getElem.2 fun a b ha hb hab => ?_
    rw [List.length_set] at ha hb
    have := List.pairwise_iff_getElem.1 h.nd a b ha hb hab
    rw [List.getElem_set, List.getElem_set]
    split
    · rename_i e
      subst e
      rw [if_neg (by omega)]
      rw [hie] at this
      exact this
    · split
      · rename_i e
        subst e
        rw [hie] at this
        exact this
      · exact this
/-- Something is added to the handle. -/
theorem KM.mac {W w w' : World} {cs cq : List Value} {m : Mq} {Z : List Rz} (h : KM W w cs cq (some m) Z) (hb : But m.gi w w') {L : List Int} (hd : DigL w' m.gi (xorL 909522486 m.K ++ L)) : KM W w' cs cq (some { m with xs := L }) Z := by
  obtain ⟨hm, hW⟩ := h.MH m rfl
  obtain ⟨cz, hc⟩ := hm.inner.cel
  refine ⟨h.tab, h.below.trans (hb.below hW h.below.size), h.BC.but hb (fun e => ?_), h.BQ.but hb (fun e => ?_), fun m' hm' => ?_, fun z hz => (h.own z hz).but hb fun hv e => ?_, h.nw, h.ty, h.nd⟩
  · rw [← e] at hc
    exact absurd (h.BC.ty hc) (by decide)
  · rw [← e] at hc
    exact absurd (h.BQ.ty hc) (by decide)
  · obtain rfl := Option.some.inj hm'
    exact ⟨hm.turn hb hd, hW⟩
  · obtain ⟨_, ho⟩ := (h.own z hz).own hv
    obtain ⟨cy, hy⟩ := ho.cel
    rw [e] at hy
    have := hy.ty hc
    rcases h.ty z hz with q | q | q <;> rw [q] at this <;> exact absurd this (by decide)
/-- Where what Expand answers lies. -/
theorem OwnB.row {W w : World} {vo : Option Addr} {n : Nat} {L : List Int} (h : OwnB W w vo n L) : ∃ g cap, (⟨g, 5, .u8, cap, vo, L⟩ : Rz).ok w ∧ (vo ≠ none → W.heap.size ≤ g) := by
  rcases h.2 with ⟨h0, h1⟩ | ⟨g, cur, h1, h2, h3, h4, h5⟩
  · have := h.1
    rw [h0] at this
    exact ⟨0, 0, .inl ⟨h1, List.eq_nil_of_length_eq_zero this⟩, fun hv => absurd h1 hv⟩
  · exact ⟨g, cur.size, .inr ⟨h1, cur, h3, rfl, by rw [h.1]; exact h4, by rw [h.1]; exact h5⟩, fun _ => h2⟩
end Go.Proofs.YtialckmoigcdeaaDoor
