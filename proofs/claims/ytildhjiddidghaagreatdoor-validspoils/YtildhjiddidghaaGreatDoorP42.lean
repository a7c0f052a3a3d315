import Derived.Test.YtildhjiddidghaaGreatDoorP34
import Derived.Test.YtildhjiddidghaaGreatDoorP40
import Derived.Test.YtildhjiddidghaaGreatDoorP41
import Derived.Test.YtildhjiddidghaaGreatDoorP38
namespace Go.Proofs.YtildhjiddidghaaGreatDoor
open Go.RowKit
set_option maxHeartbeats 4000000
set_option maxRecDepth 100000
theorem Hl.one (W : World) (x : Int) : Hl W (W.alloc (.cells #[.int .u32 x] 22)) (.slice (some ⟨W.heap.size, 0, none⟩) 1 1) [x] :=
  ⟨⟨rfl, .inr ⟨W.heap.size, 1, #[.int .u32 x], rfl, Nat.le_refl _, heap_alloc_new _ _, Nat.le_refl _, by unfold maxLen; decide, rfl, rfl⟩⟩, below_one _ _⟩
def dws (b : Int) (E : List En) (j : Nat) : List Int := b :: (E.take j).flatMap ew
end Go.Proofs.YtildhjiddidghaaGreatDoor
namespace Go.Proofs.YtildhjiddidghaaGreatDoor
open Go.RowKit
set_option maxHeartbeats 4000000
set_option maxRecDepth 100000
theorem own_but9 {x x' : World} {B : Nat} {e : TypeId} {g n cap : Nat} {C : List Value} {G : List Nat} (h : x.ownsRow B e 1 (.slice (some ⟨g, 0, none⟩) n cap) n C) (hb : ButL G x x') (hg : g ∉ G) : x'.ownsRow B e 1 (.slice (some ⟨g, 0, none⟩) n cap) n C :=
  ⟨h.1, h.2.imp id fun ⟨g', cap', cur, hv, hB, hh, r⟩ => ⟨g', cap', cur, hv, hB, by cases hv; exact (hb.block g (Array.getElem?_eq_some_iff.1 hh).1 hg).trans hh, r⟩⟩
theorem SS.but {W w w' : World} {g : Nat} {p : Dp} {r : Rp} {d e : DS} (h : SS W w g p r d e) {b : Nat} (hp : b ∉ p.all) (hr : b ∉ r.all) (hg : g ≠ b) (hB : W.heap.size ≤ b) (hb : ButL [b] w w') : SS W w' g p r d e :=
  ⟨h.own.frame hb (fun k hk hm => by rw [List.mem_singleton] at hm; exact hp (hm ▸ hk)), h.doc.frame hb (fun k hk hm => by rw [List.mem_singleton] at hm; exact hr (hm ▸ hk)), h.ap, h.cel.but hb (by rw [List.mem_singleton]; exact hg), h.ng, h.np, h.nr, h.bl.trans (hb.below (B := W.heap.size) (by simpa using hB) h.bl.size)⟩
structure L9 (W x : World) (g : Nat) (p : Dp) (r : Rp) (d : DS) (g3 : Nat) (cs : List Value) (gn go N co : Nat) (A B : List Int) : Prop where
  ss : SS W x g p r d d
  b3 : Cel x g3 42 cs
  cn : Cel x gn 22 (u32s A)
  ro : x.ownsRow W.heap.size 22 1 (.slice (some ⟨go, 0, none⟩) N co) N (u32s B)
  n1 : gn ∉ p.all
  n2 : gn ∉ r.all
  n3 : W.heap.size ≤ gn
  o1 : go ∉ p.all
  o2 : go ∉ r.all
  ne : gn ≠ go
theorem L9.on {W x x' : World} {g : Nat} {p : Dp} {r : Rp} {d : DS} {g3 : Nat} {cs : List Value} {gn go N co : Nat} {A B : List Int} (h : L9 W x g p r d g3 cs gn go N co A B) (hb : Below x.heap.size x x') : L9 W x' g p r d g3 cs gn go N co A B :=
  ⟨h.ss.on hb, h.b3.on hb, h.cn.on hb, own_but9 (G := []) h.ro (.of hb) (by simp), h.n1, h.n2, h.n3, h.o1, h.o2, h.ne⟩
theorem L9.co {W x : World} {g : Nat} {p : Dp} {r : Rp} {d : DS} {g3 : Nat} {cs : List Value} {gn go N co : Nat} {A B : List Int} (h : L9 W x g p r d g3 cs gn go N co A B) : ∃ cur, Cel x go 22 cur := by
  rcases h.ro.2 with ⟨hn, _⟩ | ⟨g', cap, cur, hn, _, hg, _⟩
  · cases hn
  · cases hn; exact ⟨cur.toList, by show x.heap[go]? = _; rw [hg]⟩
def ldK (a : Int) (N : Nat) : Nat := (a % (N : Int)).toNat
def DS.lds (d : DS) (a v : Int) : DS := if ldok d.m.ns (d.ws.set (ldK a (1 + 2 * d.m.ns)) v) = true then DS.load d.m (d.ws.set (ldK a (1 + 2 * d.m.ns)) v) else d
end Go.Proofs.YtildhjiddidghaaGreatDoor
namespace Go.Proofs.YtildhjiddidghaaGreatDoor
open Go.RowKit
set_option maxHeartbeats 4000000
set_option maxRecDepth 100000
structure St (d d' : DS) : Prop where
  ns : d'.m.ns = d.m.ns
  u : d'.m.U
theorem St.same {d d' : DS} (hu : d.m.U) (hm : d'.m = d.m) : St d d' := ⟨by rw [hm], by rw [hm]; exact hu⟩
theorem there_rg {d : DS} {q : Int} (h : d.there q = true) : 0 ≤ q ∧ q < (d.m.ns : Int) := by unfold DS.there at h; simpa using h
theorem St.space {d : DS} (hu : d.m.U) (hk : d.Ok) (s f : Int) : St d (d.takeSpace s f) := by
  unfold DS.takeSpace
  split
  · rename_i h
    obtain ⟨_, hf, _, _, _, _⟩ := bear_zero h
    have hr := there_rg hf
    have n64 := hk.n64
    have b0 := hk.b0
    have b1 := hk.b1
    refine ⟨by simp only [DS.space, MS.born, MS.write_ns], ?_⟩
    show (d.m.born s f d.b).U
    unfold MS.born
    exact ((hu.write true s 0 f hr.1 (by omega)).write true s 1 d.b b0 (by omega)).write true s 2 0 (by decide) (by decide)
  · exact .same hu rfl
theorem St.take {d : DS} (hu : d.m.U) (q t s : Int) : St d (d.take q t s) := by
  refine .same hu ?_
  unfold DS.take
  split <;> rfl
theorem St.turn {d : DS} (hu : d.m.U) (q t : Int) : St d (d.turn q t) := by
  unfold DS.turn
  split
  · exact ⟨by simp only [DS.turned, DS.wipe, MS.zero_ns]; rfl, hu.zero true q⟩
  · exact .same hu rfl
theorem given_m (d : DS) (q : Int) : (d.given q).m = d.m.zero true q := by
  unfold DS.given
  split <;> rfl
theorem St.give {d : DS} (hu : d.m.U) (q : Int) : St d (d.give q) := by
  unfold DS.give
  split
  · exact ⟨by rw [given_m, MS.zero_ns], by rw [given_m]; exact hu.zero true q⟩
  · exact .same hu rfl
theorem St.state {d : DS} (hu : d.m.U) (q s : Int) : St d (d.state q s) := by
  refine .same hu ?_
  unfold DS.state
  split <;> rfl
theorem St.entered {d : DS} (hu : d.m.U) (q : Int) (on : Bool) : St d (d.entered q on) := by
  refine .same hu ?_
  unfold DS.entered
  split <;> rfl
end Go.Proofs.YtildhjiddidghaaGreatDoor
