/- MeasureOne. -/
import Derived.Test.YtmomidkodjihjaaDoorMt
import Derived.Test.YtmomidkodjihjaaDoorMq
namespace Go.Proofs.YtmomidkodjihjaaDoor
open Go.RowKit
open H
set_option maxHeartbeats 8000000
set_option maxRecDepth 100000
attribute [-simp] Tryd.isAgg44 Tryd.sizeOf44 Tryd.zeroValue44
theorem ho_base {V W w : World} {v : Value} {l : List Ov} (h : HO W w v l) (hb : Below V.heap.size V W) : HO V w v l := ⟨own_base h.own hb.size, below_on hb h.below, fun x hx => own_base (h.ws x hx) hb.size, h.apart⟩
/-- Two lists of operations and their words. -/
structure OS (W w : World) (px : Option Addr) (nx cx : Nat) (lx : List Ov) (py : Option Addr) (ny cy : Nat) (ly : List Ov) (pv : Option Addr) (NX cv : Nat) (EX : List Int) (pw : Option Addr) (NY cw : Nat) (EY : List Int) : Prop where
  x : HO W w (.slice px nx cx) lx
  y : HO W w (.slice py ny cy) ly
  v : Holds W w .u32 24 (.slice pv NX cv) EX
  w : Holds W w .u32 24 (.slice pw NY cw) EY
theorem OS.on {W w w' : World} {px : Option Addr} {nx cx : Nat} {lx : List Ov} {py : Option Addr} {ny cy : Nat} {ly : List Ov} {pv : Option Addr} {NX cv : Nat} {EX : List Int} {pw : Option Addr} {NY cw : Nat} {EY : List Int} (h : OS W w px nx cx lx py ny cy ly pv NX cv EX pw NY cw EY) (hb : Below w.heap.size w w') : OS W w' px nx cx lx py ny cy ly pv NX cv EX pw NY cw EY := ⟨h.x.on hb, h.y.on hb, holds_on h.v hb, holds_on h.w hb⟩
theorem enc_of {w : World} {p : Option Addr} {n c N : Nat} {lo : List Ov} {P : List MOp} {E : List Int} (ho : OL w p lo) (hn : lo.length = n) (hmap : lo.map Ov.o = P) (okP : ∀ o ∈ P, o.Ok) (hE : enc P = E) (hN : E.length = N) (hl : N ≤ 262144) : EncOk w p n c N E := fun w' hw => by
  have h5 := enc_two P
  rw [hE, hN, ← hmap, List.length_map] at h5
  refine (encode_ok w' p n c lo hn (ho.on hw) (by omega) (by rw [hmap]; exact okP) (by rw [hmap, hE, hN]; exact hl)).mono ?_
  rintro e w1 ⟨pe, ce, rfl, h1⟩
  rw [hmap, hE, hN] at h1 ⊢
  exact ⟨pe, ce, rfl, h1⟩
/-- What is known of one of the two lists that are made. -/
structure PK (W : World) (P : List MOp) (E : List Int) (N : Nat) (M : List Int) : Prop where
  ok : ∀ o ∈ P, o.Ok
  e : enc P = E
  n : E.length = N
  l : N ≤ 8208
  w : Wds E
  m : sumW E = M
theorem PK.enc {W w : World} {P : List MOp} {E : List Int} {N : Nat} {M : List Int} (h : PK W P E N M) {p : Option Addr} {n c : Nat} {lo : List Ov} (ho : OL w p lo) (hn : lo.length = n) (hmap : lo.map Ov.o = P) : EncOk w p n c N E := enc_of ho hn hmap h.ok h.e h.n (by have := h.l; omega)
end Go.Proofs.YtmomidkodjihjaaDoor
