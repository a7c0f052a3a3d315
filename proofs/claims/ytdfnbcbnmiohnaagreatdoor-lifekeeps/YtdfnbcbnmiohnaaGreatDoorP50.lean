import Derived.Test.YtdfnbcbnmiohnaaGreatDoorP48
namespace Go.Proofs.YtdfnbcbnmiohnaaGreatDoor
open Go.RowKit
set_option maxRecDepth 100000
set_option maxHeartbeats 8000000
/-- The database, a clone of it as it was, a clone of its memory, a box. -/
structure LR (W w : World) (p po : Dp) (f' : Fp) (d d0 : DS) (g3 : Nat) (cs : List Value) : Prop where
  o : OD W w p d
  old : DB w po d0
  was : Mem w f' d0.m
  box : Cel w g3 48 cs
  a1 : ∀ k ∈ p.all, k ∉ po.all
  a2 : ∀ k ∈ p.all, k ∉ f'.all
  a3 : g3 ∉ p.all
theorem LR.on {W w w' : World} {p po : Dp} {f' : Fp} {d d0 : DS} {g3 : Nat} {cs : List Value} (h : LR W w p po f' d d0 g3 cs) (hb : Below w.heap.size w w') : LR W w' p po f' d d0 g3 cs := ⟨h.o.on hb, h.old.on hb, h.was.on hb, h.box.on hb, h.a1, h.a2, h.a3⟩
theorem LR.step {W w w' : World} {p po : Dp} {f' : Fp} {d d' d0 : DS} {g3 : Nat} {cs : List Value} (h : LR W w p po f' d d0 g3 cs) (hd : DB w' p d') (hb : ButL p.w w w') : LR W w' p po f' d' d0 g3 cs :=
  ⟨h.o.step hd hb, h.old.frame hb (fun k hk hm => h.a1 k (p.w_all' k hm) hk), h.was.frame hb (fun k hk hm => h.a2 k (p.w_all' k hm) hk), h.box.but hb (fun hm => h.a3 (p.w_all' _ hm)), h.a1, h.a2, h.a3⟩
theorem LR.of {W w w1 w2 : World} {p po : Dp} {f' : Fp} {d : DS} {g3 : Nat} {cs : List Value} (h : OD W w p d) (hn : NewDB w w1 po d) (hm : NewMem w1 w2 f' d.m) (hc : Cel w g3 48 cs) (hg : g3 < W.heap.size) : LR W w2 p po f' d d g3 cs :=
  ⟨(h.on hn.below).on hm.below, hn.db.on hm.below, hm.mem, (hc.on hn.below).on hm.below,
   fun k hk hm' => by have := hn.new k hm'; have := h.db.lt k hk; omega,
   fun k hk hm' => by have := hm.new k hm'; have := h.db.lt k hk; have := hn.below.size; omega,
   fun hk => by have := h.own g3 hk; omega⟩
/-- A page that neither is named nor counts: the same. -/
structure PG (c : Int) (N C : Bool) (d d0 : DS) (x : Int) : Prop where
  w : (c = 0 → N = false) → ∀ o, d.m.word true x o = d0.m.word true x o
  e : (c = 0 → N = false) → d.ent x = d0.ent x ∨ (c = 0 ∧ C = true ∧ (d.ent x).t = 1)
end Go.Proofs.YtdfnbcbnmiohnaaGreatDoor
