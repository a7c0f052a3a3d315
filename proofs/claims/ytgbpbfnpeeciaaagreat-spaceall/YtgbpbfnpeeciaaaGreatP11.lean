import Derived.Test.YtgbpbfnpeeciaaaGreatP10
import Derived.Test.YtgbpbfnpeeciaaaGreatP09
import Derived.Test.YtgbpbfnpeeciaaaGreatP04
import Derived.Test.YtgbpbfnpeeciaaaGreatP01
namespace Go.Proofs.YtgbpbfnpeeciaaaGreat
open Go.RowKit
set_option maxHeartbeats 8000000
set_option maxRecDepth 100000
theorem rencode_any (W : World) (x : En) : Calls Tryz.prog 99 #[x.v] W fun e W' => e = .returned (.tuple #[twoV (e0 x) (e1 x), .int .i64 (chk x)]) ∧ Below W.heap.size W W' := by
  have HX := hid (Bx.new W 122 178 x.cs (two 0 0))
  have HK := hid (fun W => rcheck_any W x)
  cases hok : x.ok
  · have hc : chk x = 110 := by simp [chk, hok]
    have h0 : e0 x = 0 := by simp [e0, hok]
    have h1 : e1 x = 0 := by simp [e1, hok]
    rw [hc] at HK
    rw [hc, h0, h1]
    clear hc h0 h1 hok
    simp only [twoV, two, En.v] at *
    go_enter Tryz.func99, Tryz.ntmps99
    go_upto_region 1 with fail
    generalize hX : (W.alloc _).alloc _ = X at *
    clear hX
    generalize W.heap.size + 1 = g2 at *
    generalize W.heap.size = g1 at *
    go_wp2_with (first | (refine wpList_load_mid rfl 122 _ rfl g1 0 rfl _ _ HX.out.a.range underR rfl (by rw [sizeR]; rfl) ?_) | (go_at_call 121; refine (HK.out _).mono ?_; rintro e w1 ⟨rfl, hb1⟩; have HX1 := hid (HX.out.on hb1); clear hb1) | (refine wpList_store_st rfl 178 _ _ rfl g2 (two 0 0) rfl rfl HX1.out.b sizeA rfl rfl ?_; intro w2 hc2 hb2 hs2; have HF := hid (HX1.out.put hc2 hb2); clear hc2 hb2 hs2))
    exact ret_st2 rfl rfl g2 _ rfl HF.out.1 underA rfl sizeA ⟨rfl, HF.out.2⟩
  · have hO := x.ok_iff.1 hok
    have hc : chk x = 0 := by simp [chk, hok]
    have h0 : e0 x = x.w := by simp [e0, hok]
    have h1 : e1 x = x.r := by simp [e1, hok]
    have q2 : x.r % 4294967296 = x.r := by have := hO.r0; have := hO.r1; omega
    have q3 : x.e = false → x.w = x.t + 16 * x.s + 65536 * x.o := fun he => by rw [En.w, he]; simp
    have q4 : x.e = true → x.w = x.t + 16 * x.s + 65536 * x.o + 256 := fun he => by rw [En.w, he]; simp
    have q5 := En.w_range hO
    have b0 := hO.t0
    have b1 := hO.t1
    have b2 := hO.o0
    have b3 := hO.o1
    have b4 := hO.s0
    have b5 := hO.s1
    rw [hc] at HK
    rw [hc, h0, h1]
    clear hc h0 h1 hok hO
    simp only [twoV, two, En.v] at HX HK ⊢
    generalize x.w = xw at *
    obtain ⟨t, o, r, s, e⟩ := x
    simp only [En.cs] at *
    go_enter Tryz.func99, Tryz.ntmps99
    go_upto_region 1 with fail
    generalize hX : (W.alloc _).alloc _ = X at *
    clear hX
    generalize W.heap.size + 1 = g2 at *
    generalize W.heap.size = g1 at *
    have HQ := hid (And.intro q3 q4)
    clear q3 q4
    go_upto_region 2 with (first | (refine wpList_load_mid rfl 122 _ rfl g1 0 rfl _ _ HX.out.a.range underR rfl (by rw [sizeR]; rfl) ?_) | (go_at_call 121; refine (HK.out _).mono ?_; rintro e1 w1 ⟨rfl, hb1⟩; have HX1 := hid (HX.out.on hb1); clear hb1))
    have c0 := HX1.out.a.cell 0
    have c1 := HX1.out.a.cell 1
    have c2 := HX1.out.a.cell 2
    have c3 := HX1.out.a.cell 3
    have c4 := HX1.out.a.cell 4
    simp only [List.getElem?_cons_zero, List.getElem?_cons_succ] at c0 c1 c2 c3 c4
    obtain ⟨q3, q4⟩ := HQ.out
    clear HQ
    cases e
    · have q6 := q3 rfl
      subst q6
      clear q3 q4
      go_wp2_with (refine wpList_store_st rfl 178 _ _ rfl g2 [Value.int .u32 (t + 16 * s + 65536 * o), .int .u32 r] rfl rfl HX1.out.b sizeA rfl rfl ?_; intro w2 hc2 hb2 hs2; have HF := hid (HX1.out.put hc2 hb2); clear hc2 hb2 hs2)
      exact ret_st2 rfl rfl g2 _ rfl HF.out.1 underA rfl sizeA ⟨rfl, HF.out.2⟩
    · have q6 := q4 rfl
      subst q6
      clear q3 q4
      go_wp2_with (refine wpList_store_st rfl 178 _ _ rfl g2 [Value.int .u32 (t + 16 * s + 65536 * o + 256), .int .u32 r] rfl rfl HX1.out.b sizeA rfl rfl ?_; intro w2 hc2 hb2 hs2; have HF := hid (HX1.out.put hc2 hb2); clear hc2 hb2 hs2)
      exact ret_st2 rfl rfl g2 _ rfl HF.out.1 underA rfl sizeA ⟨rfl, HF.out.2⟩
structure R4 (W x : World) (g1 g2 g4 g5 : Nat) (a b : List Value) (y : En) (c : List Value) : Prop where
  c1 : Cel x g1 178 a
  c2 : Cel x g2 122 b
  c4 : Cel x g4 122 y.cs
  c5 : Cel x g5 178 c
  below : Below W.heap.size W x
  l2 : W.heap.size ≤ g2
theorem R4.put {W x x' : World} {g1 g2 g4 g5 : Nat} {a b c es : List Value} {y : En} (k : R4 W x g1 g2 g4 g5 a b y c) (hc : Cel x' g2 122 es) (hb : ButL [g2] x x') : Cel x' g2 122 es ∧ Below W.heap.size W x' :=
  ⟨hc, k.below.trans (hb.below (B := W.heap.size) (by simpa using k.l2) k.below.size)⟩
end Go.Proofs.YtgbpbfnpeeciaaaGreat
namespace Go.Proofs.YtgbpbfnpeeciaaaGreat
open Go.RowKit
structure DS where
  m : MS
  b : Int
  E : List En
def ew (x : En) : List Int := [e0 x, e1 x]
def wdsOf (b : Int) (E : List En) : List Int := b :: E.flatMap ew
def DS.ws (d : DS) : List Int := wdsOf d.b d.E
def DS.at (d : DS) (p : Nat) : En := d.E.getD p En.zero
structure Dp where
  g : Nat
  gw : Nat
  f : Fp
structure DS.Ok (d : DS) : Prop where
  len : d.E.length = d.m.ns
  n64 : d.m.ns ≤ 64
  ok : ∀ k, k < d.m.ns → (d.at k).ok = true
  own : ∀ k, k < d.m.ns → (d.at k).o < (d.m.ns : Int)
  b0 : 0 ≤ d.b
  b1 : d.b ≤ 64
structure DB (w : World) (p : Dp) (d : DS) : Prop where
  mem : Mem w p.f d.m
  cel : Cel w p.g 117 [ptr p.f.gm, .slice (some ⟨p.gw, 0, none⟩) (1 + 2 * d.m.ns) (1 + 2 * d.m.ns)]
  wds : Cel w p.gw 29 (u32s d.ws)
  ok : d.Ok
def Dp.all (p : Dp) : List Nat := p.g :: p.gw :: p.f.all
def Dp.w (p : Dp) : List Nat := p.gw :: p.f.w
theorem flat_len (E : List En) : (E.flatMap ew).length = 2 * E.length := by
  induction E with
  | nil => rfl
  | cons x E ih => simp only [List.flatMap_cons, List.length_append, ih, ew, List.length_cons, List.length_nil]; omega
theorem wdsOf_len (b : Int) (E : List En) : (wdsOf b E).length = 1 + 2 * E.length := by simp only [wdsOf, List.length_cons, flat_len]; omega
theorem DS.ws_len {d : DS} (h : d.Ok) : d.ws.length = 1 + 2 * d.m.ns := by rw [DS.ws, wdsOf_len, h.len]
theorem flat_at (E : List En) (k : Nat) (h : k < E.length) : (E.flatMap ew)[2 * k]? = some (e0 (E.getD k En.zero)) ∧ (E.flatMap ew)[2 * k + 1]? = some (e1 (E.getD k En.zero)) := by
  induction E generalizing k with
  | nil => simp at h
  | cons x E ih =>
    cases k with
    | zero => exact ⟨rfl, rfl⟩
    | succ k =>
      have := ih k (by simpa using h)
      simp only [List.flatMap_cons, ew, List.cons_append, List.nil_append]
      rw [show 2 * (k + 1) = 2 * k + 1 + 1 by omega]
      simpa using this
theorem wdsOf_at (b : Int) (E : List En) (k : Nat) (h : k < E.length) : (wdsOf b E)[1 + 2 * k]? = some (e0 (E.getD k En.zero)) ∧ (wdsOf b E)[2 + 2 * k]? = some (e1 (E.getD k En.zero)) := by
  have := flat_at E k h
  rw [wdsOf, show 1 + 2 * k = 2 * k + 1 by omega, show 2 + 2 * k = 2 * k + 1 + 1 by omega]
  simpa using this
theorem flat_set (E : List En) (k : Nat) (x : En) (h : k < E.length) : (E.set k x).flatMap ew = ((E.flatMap ew).set (2 * k) (e0 x)).set (2 * k + 1) (e1 x) := by
  induction E generalizing k with
  | nil => simp at h
  | cons y E ih =>
    cases k with
    | zero => simp [ew]
    | succ k =>
      have := ih k (by simpa using h)
      simp only [List.set_cons_succ, List.flatMap_cons, this, ew, List.cons_append, List.nil_append]
      rw [show 2 * (k + 1) = 2 * k + 1 + 1 by omega, show 2 * k + 1 + 1 + 1 = (2 * k + 1) + 1 + 1 by omega]
      simp
theorem wdsOf_set (b : Int) (E : List En) (k : Nat) (x : En) (h : k < E.length) : wdsOf b (E.set k x) = ((wdsOf b E).set (1 + 2 * k) (e0 x)).set (2 + 2 * k) (e1 x) := by
  rw [wdsOf, wdsOf, flat_set E k x h, show 1 + 2 * k = 2 * k + 1 by omega, show 2 + 2 * k = 2 * k + 1 + 1 by omega]
  simp
theorem DB.lt {w : World} {p : Dp} {d : DS} (h : DB w p d) : ∀ k ∈ p.all, k < w.heap.size := by
  intro k hk
  simp only [Dp.all, List.mem_cons] at hk
  rcases hk with rfl | rfl | hk
  · exact h.cel.lt
  · exact h.wds.lt
  · exact h.mem.lt k hk
theorem DB.frame {w w' : World} {p : Dp} {d : DS} {G : List Nat} (h : DB w p d) (hb : ButL G w w') (hd : ∀ k ∈ p.all, k ∉ G) : DB w' p d :=
  ⟨h.mem.frame hb (fun k hk => hd k (by simp [Dp.all, hk])), h.cel.but hb (hd _ (by simp [Dp.all])), h.wds.but hb (hd _ (by simp [Dp.all])), h.ok⟩
theorem DB.on {w w' : World} {p : Dp} {d : DS} (h : DB w p d) (hb : Below w.heap.size w w') : DB w' p d := h.frame (G := []) (.of hb) (by simp)
theorem Mem.ty_w {w : World} {f : Fp} {m : MS} (h : Mem w f m) : ∀ k ∈ f.all, ∀ t cs, Cel w k t cs → t = 111 ∨ t = 181 ∨ t = 183 := by
  intro k hk t cs hc
  simp only [Fp.all, List.mem_cons] at hk
  rcases hk with rfl | rfl | rfl | hk
  · exact .inl (hc.ty h.cel)
  · exact .inr (.inl (hc.ty h.sec))
  · exact .inr (.inl (hc.ty h.ins))
  · obtain ⟨i, hi, rfl⟩ := List.mem_iff_getElem.1 hk
    have := h.pg i (by rw [← h.len]; exact hi)
    simp only [Fp.b, List.getD_eq_getElem?_getD, List.getElem?_eq_getElem hi, Option.getD_some] at this
    exact .inr (.inr (hc.ty this))
theorem Mem.off {w : World} {f : Fp} {m : MS} (h : Mem w f m) {g : Nat} {t : TypeId} {cs : List Value} (hc : Cel w g t cs) (ht : t ≠ 111 ∧ t ≠ 181 ∧ t ≠ 183) : g ∉ f.all := fun hm => by
  rcases h.ty_w g hm t cs hc with e | e | e
  · exact ht.1 e
  · exact ht.2.1 e
  · exact ht.2.2 e
theorem Fp.w_all {f : Fp} {k : Nat} (h : k ∈ f.w) : k ∈ f.all := by
  simp only [Fp.w, Fp.all, List.mem_cons] at h ⊢
  rcases h with h | h <;> simp [h]
theorem DB.memory {w w' : World} {p : Dp} {d : DS} {m' : MS} (h : DB w p d) (hm : Mem w' p.f m') (hb : ButL p.f.w w w') (hn : m'.ns = d.m.ns) : DB w' p { d with m := m' } :=
  ⟨hm, by simpa only [hn] using h.cel.but hb (fun hk => h.mem.off h.cel (by decide) (Fp.w_all hk)), h.wds.but hb (fun hk => h.mem.off h.wds (by decide) (Fp.w_all hk)), by
    obtain ⟨a, b, c, e, f, g⟩ := h.ok
    exact ⟨by simpa only [hn] using a, by simpa only [hn] using b, fun k hk => c k (by have hk' : k < m'.ns := hk; omega), fun k hk => by
      have hk' : k < m'.ns := hk
      have := e k (by omega)
      show (d.at k).o < (m'.ns : Int)
      rw [hn]; exact this, f, g⟩⟩
theorem DB.words {w w' : World} {p : Dp} {d : DS} {b' : Int} {E' : List En} (h : DB w p d) (hc : Cel w' p.gw 29 (u32s (wdsOf b' E'))) (hb : ButL [p.gw] w w') (hk : DS.Ok { d with b := b', E := E' }) : DB w' p { d with b := b', E := E' } := by
  have h1 : p.g ∉ [p.gw] := fun hm => by rw [List.mem_singleton] at hm; have := h.cel; rw [hm] at this; exact absurd (this.ty h.wds) (by decide)
  refine ⟨h.mem.frame hb (fun k hk hm => ?_), h.cel.but hb h1, hc, hk⟩
  rw [List.mem_singleton] at hm
  subst hm
  exact h.mem.off h.wds (by decide) hk
structure DV (w : World) (g gm gw off n c : Nat) (L : List Int) : Prop where
  cel : Cel w g 117 [ptr gm, .slice (some ⟨gw, off, none⟩) n c]
  rng : w.rangeAt gw off (u32s L)
  len : L.length = n
  lt : gw < w.heap.size
theorem DV.on {w w' : World} {g gm gw off n c : Nat} {L : List Int} (h : DV w g gm gw off n c L) (hb : Below w.heap.size w w') : DV w' g gm gw off n c L :=
  ⟨h.cel.on hb, fun j v hv => by
    have := h.rng j v hv
    unfold World.cell? at this ⊢
    rw [hb.block gw h.lt]
    exact this, h.len, by have := hb.size; have := h.lt; omega⟩
theorem DV.at {w : World} {g gm gw off n c : Nat} {L : List Int} (h : DV w g gm gw off n c L) (j : Nat) (x : Int) (hj : L[j]? = some x) : w.cell? ⟨gw, off + j, none⟩ = some (.int .u32 x) := h.rng j _ (by rw [u32s, List.getElem?_map, hj]; rfl)
theorem DB.dv {w : World} {p : Dp} {d : DS} (h : DB w p d) : DV w p.g p.f.gm p.gw 0 (1 + 2 * d.m.ns) (1 + 2 * d.m.ns) d.ws := ⟨h.cel, h.wds.range, d.ws_len h.ok, h.wds.lt⟩
end Go.Proofs.YtgbpbfnpeeciaaaGreat
namespace Go.Proofs.YtgbpbfnpeeciaaaGreat
open Go.RowKit
set_option maxHeartbeats 4000000
set_option maxRecDepth 100000
theorem place_any (W : World) (p : Int) (h0 : 0 ≤ p) (h1 : p ≤ 1000) : Calls Tryz.prog 100 #[.int .i64 p] W fun x W' => x = .returned (.int .i64 (1 + 2 * p)) ∧ W = W' := by
  have q : wrap64 (2 * p) = 2 * p := by unfold wrap64; omega
  have q2 : wrap64 (1 + 2 * p) = 1 + 2 * p := by unfold wrap64; omega
  go_enter Tryz.func100, Tryz.ntmps100
  go_wp2_with fail
  go_ret
  exact ⟨rfl, rfl⟩
theorem secure_any (W : World) (f : Fp) (m : MS) (h : Mem W f m) : Calls Tryz.prog 47 #[ptr f.gm] W fun x W' => x = .returned (.int .i64 (m.ns : Int)) ∧ W = W' := by
  have c0 := h.cel.cell 0
  simp only [List.getElem?_cons_zero] at c0
  clear h
  simp only [ptr] at *
  go_enter Tryz.func47, Tryz.ntmps47
  go_wp2_with fail
  go_ret
  exact ⟨rfl, rfl⟩
theorem size_any (W : World) (f : Fp) (m : MS) (h : Mem W f m) : Calls Tryz.prog 53 #[ptr f.gm] W fun x W' => x = .returned (.int .i64 (1 + 2 * (m.ns : Int))) ∧ W = W' := by
  have HS := hid (secure_any W f m h)
  have h1 := h.ns0
  have h2 := h.most
  have n0 : 0 ≤ (m.ns : Int) := by omega
  have n1 : (m.ns : Int) ≤ 1000 := by omega
  clear h h1 h2
  simp only [ptr] at *
  go_enter Tryz.func53, Tryz.ntmps53
  go_wp2_with fail
  refine HS.out.mono ?_
  rintro x w1 ⟨rfl, rfl⟩
  go_wp2_with fail
  refine (place_any _ _ n0 n1).mono ?_
  rintro x w1 ⟨rfl, rfl⟩
  go_wp2_with fail
  go_ret
  exact ⟨rfl, rfl⟩
theorem pages_dv {W : World} {g gw off n c : Nat} {L : List Int} {f : Fp} {m : MS} (h : Mem W f m) (hd : DV W g f.gm gw off n c L) : Calls Tryz.prog 54 #[ptr g] W fun x W' => x = .returned (.int .i64 (m.ns : Int)) ∧ W = W' := by
  have HS := hid (secure_any W f m h)
  have c0 := hd.cel.cell 0
  simp only [List.getElem?_cons_zero] at c0
  clear h hd
  simp only [ptr] at *
  go_enter Tryz.func54, Tryz.ntmps54
  go_wp2_with fail
  refine HS.out.mono ?_
  rintro x w1 ⟨rfl, rfl⟩
  go_wp2_with fail
  go_ret
  exact ⟨rfl, rfl⟩
theorem pages_any (W : World) (p : Dp) (d : DS) (h : DB W p d) : Calls Tryz.prog 54 #[ptr p.g] W fun x W' => x = .returned (.int .i64 (d.m.ns : Int)) ∧ W = W' := pages_dv h.mem h.dv
theorem births_any (W : World) (p : Dp) (d : DS) (h : DB W p d) : Calls Tryz.prog 102 #[ptr p.g] W fun x W' => x = .returned (.int .i64 d.b) ∧ W = W' := by
  have c0 := h.cel.cell 1
  have c1 := h.dv.at 0 d.b rfl
  have n0 : (0 : Int) < ((1 + 2 * d.m.ns : Nat) : Int) := by omega
  have b0 : wrap64 d.b = d.b := by have := h.ok.b0; have := h.ok.b1; unfold wrap64; omega
  simp only [List.getElem?_cons_zero, List.getElem?_cons_succ] at c0
  clear h
  simp only [ptr] at *
  generalize 1 + 2 * d.m.ns = n at *
  go_enter Tryz.func102, Tryz.ntmps102
  go_wp2_with fail
  go_ret
  exact ⟨ret_int b0, rfl⟩
theorem memory_any (W : World) (p : Dp) (d : DS) (h : DB W p d) : Calls Tryz.prog 92 #[ptr p.g] W fun x W' => x = .returned (ptr p.f.gm) ∧ W = W' := by
  have c0 := h.cel.cell 0
  simp only [List.getElem?_cons_zero] at c0
  clear h
  simp only [ptr] at *
  go_enter Tryz.func92, Tryz.ntmps92
  go_wp2_with fail
  go_ret
  exact ⟨rfl, rfl⟩
theorem frame_any (W : World) (p : Int) : Calls Tryz.prog 61 #[.int .i64 p] W fun x W' => x = .returned (fr true p) ∧ Below W.heap.size W W' := by
  unfold fr
  go_enter Tryz.func61, Tryz.ntmps61
  go_wp2_with fail
  go_returns
  exact ⟨rfl, below_one _ _⟩
end Go.Proofs.YtgbpbfnpeeciaaaGreat
namespace Go.Proofs.YtgbpbfnpeeciaaaGreat
open Go.RowKit
set_option maxHeartbeats 8000000
set_option maxRecDepth 100000
theorem wr64 (x : Int) (h0 : -9223372036854775808 ≤ x) (h1 : x ≤ 9223372036854775807) : IntKind.wrap .i64 x = x := by rw [IntKind.wrap_i64]; omega
theorem DV.but {G : List Nat} {w w' : World} {g gm gw off n c : Nat} {L : List Int} (h : DV w g gm gw off n c L) (hb : ButL G w w') (h1 : g ∉ G) (h2 : gw ∉ G) : DV w' g gm gw off n c L :=
  ⟨h.cel.but hb h1, fun j v hv => by
    have := h.rng j v hv
    unfold World.cell? at this ⊢
    rw [hb.block gw h.lt h2]
    exact this, h.len, by have := hb.size; have := h.lt; omega⟩
theorem DV.sl {w : World} {g gm gw off n c : Nat} {L : List Int} (h : DV w g gm gw off n c L) : w.cell? ⟨g, 1, none⟩ = some (.slice (some ⟨gw, off, none⟩) n c) := h.cel.cell 1
theorem DV.mp {w : World} {g gm gw off n c : Nat} {L : List Int} (h : DV w g gm gw off n c L) : w.cell? ⟨g, 0, none⟩ = some (ptr gm) := h.cel.cell 0
theorem pair_any (W : World) {g gm gw off n c : Nat} {L : List Int} (h : DV W g gm gw off n c L) (k : Nat) (hk : 2 * k + 2 < n) (hk1 : k ≤ 1000) (a b : Int) (ha : L[1 + 2 * k]? = some a) (hb : L[2 + 2 * k]? = some b) :
    Calls Tryz.prog 106 #[ptr g, .int .i64 (k : Int)] W fun x W' => x = .returned (twoV a b) ∧ Below W.heap.size W W' := by
  have q0 : 0 ≤ (k : Int) := by omega
  have q1 : (k : Int) ≤ 1000 := by omega
  have HP := hid (fun W => place_any W (k : Int) q0 q1)
  have HX := hid (h.on (below_one W (.cells #[.int .u32 0, .int .u32 0] 178)))
  have HC := hid (Cel.new W 178 [.int .u32 0, .int .u32 0])
  have HB := hid (below_one W (.cells #[.int .u32 0, .int .u32 0] 178))
  have HL : Hid (g < W.heap.size ∧ gw < W.heap.size) := hid ⟨h.cel.lt, h.lt⟩
  have HA : Hid (∀ w, DV w g gm gw off n c L → w.cell? ⟨gw, off + (1 + 2 * (k : Int)).toNat, none⟩ = some (.int .u32 a) ∧ w.cell? ⟨gw, off + (1 + 2 * (k : Int) + 1).toNat, none⟩ = some (.int .u32 b)) := hid (fun w hw => by
    rw [show (1 + 2 * (k : Int)).toNat = 1 + 2 * k by omega, show (1 + 2 * (k : Int) + 1).toNat = 2 + 2 * k by omega]
    exact ⟨hw.at _ _ ha, hw.at _ _ hb⟩)
  have i0 : 0 ≤ 1 + 2 * (k : Int) := by omega
  have i1 : 1 + 2 * (k : Int) < (n : Int) := by omega
  have i2 : 0 ≤ 1 + 2 * (k : Int) + 1 := by omega
  have i3 : 1 + 2 * (k : Int) + 1 < (n : Int) := by omega
  have iw : IntKind.wrap .i64 (1 + 2 * (k : Int) + 1) = 1 + 2 * (k : Int) + 1 := wr64 _ (by omega) (by omega)
  clear h ha hb hk hk1 q0 q1
  simp only [ptr, twoV, two] at *
  go_enter Tryz.func106, Tryz.ntmps106
  go_upto_region 2 with (go_at_call 100; refine (HP.out _).mono ?_; rintro x w1 ⟨rfl, rfl⟩)
  clear HP
  generalize 1 + 2 * (k : Int) = i at *
  generalize W.alloc _ = X at *
  generalize hg : W.heap.size = g4 at HC HL ⊢
  have HG := hid hg
  clear hg
  have HX0 := hid (HX.out.on (Below.refl _ _).drew)
  have HC0 := hid (HC.out.on (Below.refl _ _).drew)
  have HB0 := hid (below_on HB.out (Below.refl _ _).drew)
  clear HX HC HB
  refine wp_region_held_drew (S := fun w => DV w g gm gw off n c L) (by kernel_rfl) HX0.out (fun hHeld => ?_)
  refine tk 0 ⟨some 8, .move (.tmp 0), 43, "words.go:16", #[], none⟩ (.pointer (some ⟨g, 0, none⟩)) ?_
  simp only [Act.put, List.setIfInBounds_toArray, List.set_cons_zero, List.set_cons_succ]
  refine tk 1 ⟨some 9, .nilCheck (.tmp 8), 0, "words.go:16", #[⟨0, .data⟩], none⟩ (.pointer (some ⟨g, 0, none⟩)) ?_
  simp only [Act.put, List.setIfInBounds_toArray, List.set_cons_zero, List.set_cons_succ]
  refine tk 2 ⟨some 10, .fieldAddr 117 (.tmp 9) 1, 0, "words.go:16", #[⟨1, .data⟩], none⟩ (.pointer (some ⟨g, 1, none⟩)) ?_
  simp only [Act.put, List.setIfInBounds_toArray, List.set_cons_zero, List.set_cons_succ]
  refine tk 3 ⟨some 11, .load 102 (.tmp 10), 102, "words.go:16", #[⟨2, .data⟩], none⟩ (.slice (some ⟨gw, off, none⟩) n c) ?_ (hy := Or.inl ⟨by rfl, by intro w hSw; have hc := hSw.sl; go_simp⟩)
  simp only [Act.put, List.setIfInBounds_toArray, List.set_cons_zero, List.set_cons_succ]
  refine tk 4 ⟨some 12, .move (.tmp 5), 3, "words.go:16", #[], none⟩ (.int .i64 i) ?_
  simp only [Act.put, List.setIfInBounds_toArray, List.set_cons_zero, List.set_cons_succ]
  refine tk 5 ⟨some 13, .indexAddr 102 (.tmp 11) (.tmp 12), 0, "words.go:16", #[⟨3, .data⟩, ⟨4, .data⟩], none⟩ (.pointer (some ⟨gw, off + i.toNat, none⟩)) ?_
  simp only [Act.put, List.setIfInBounds_toArray, List.set_cons_zero, List.set_cons_succ]
  refine tk 6 ⟨some 14, .load 29 (.tmp 13), 29, "words.go:16", #[⟨5, .data⟩], none⟩ (.int .u32 a) ?_ (hy := Or.inl ⟨by rfl, by intro w hSw; have hc := (HA.out w hSw).1; go_simp⟩)
  simp only [Act.put, List.setIfInBounds_toArray, List.set_cons_zero, List.set_cons_succ]
  refine tk 7 ⟨some 15, .move (.tmp 0), 43, "words.go:16", #[], none⟩ (.pointer (some ⟨g, 0, none⟩)) ?_
  simp only [Act.put, List.setIfInBounds_toArray, List.set_cons_zero, List.set_cons_succ]
  refine tk 8 ⟨some 16, .nilCheck (.tmp 15), 0, "words.go:16", #[⟨7, .data⟩], none⟩ (.pointer (some ⟨g, 0, none⟩)) ?_
  simp only [Act.put, List.setIfInBounds_toArray, List.set_cons_zero, List.set_cons_succ]
  refine tk 9 ⟨some 17, .fieldAddr 117 (.tmp 16) 1, 0, "words.go:16", #[⟨8, .data⟩], none⟩ (.pointer (some ⟨g, 1, none⟩)) ?_
  simp only [Act.put, List.setIfInBounds_toArray, List.set_cons_zero, List.set_cons_succ]
  refine tk 10 ⟨some 18, .load 102 (.tmp 17), 102, "words.go:16", #[⟨9, .data⟩], none⟩ (.slice (some ⟨gw, off, none⟩) n c) ?_ (hy := Or.inl ⟨by rfl, by intro w hSw; have hc := hSw.sl; go_simp⟩)
  simp only [Act.put, List.setIfInBounds_toArray, List.set_cons_zero, List.set_cons_succ]
  refine tk 11 ⟨some 19, .move (.tmp 5), 3, "words.go:16", #[], none⟩ (.int .i64 i) ?_
  simp only [Act.put, List.setIfInBounds_toArray, List.set_cons_zero, List.set_cons_succ]
  refine tk 12 ⟨some 20, .binOp .add 3 (.tmp 19) (.const (.int .i64 1)) 3, 3, "words.go:16", #[⟨11, .data⟩], none⟩ (.int .i64 (i + 1)) ?_
  simp only [Act.put, List.setIfInBounds_toArray, List.set_cons_zero, List.set_cons_succ]
  refine tk 13 ⟨some 21, .indexAddr 102 (.tmp 18) (.tmp 20), 0, "words.go:16", #[⟨10, .data⟩, ⟨12, .data⟩], none⟩ (.pointer (some ⟨gw, off + (i + 1).toNat, none⟩)) ?_
  simp only [Act.put, List.setIfInBounds_toArray, List.set_cons_zero, List.set_cons_succ]
  refine tk 14 ⟨some 22, .load 29 (.tmp 21), 29, "words.go:16", #[⟨13, .data⟩], none⟩ (.int .u32 b) ?_ (hy := Or.inl ⟨by rfl, by intro w hSw; have hc := (HA.out w hSw).2; go_simp⟩)
  simp only [Act.put, List.setIfInBounds_toArray, List.set_cons_zero, List.set_cons_succ]
  refine tk 15 ⟨some 23, .build 178 #[(0, .tmp 14), (1, .tmp 22)], 178, "words.go:16", #[⟨6, .data⟩, ⟨14, .data⟩], none⟩ (.agg #[.int .u32 a, .int .u32 b]) ?_
  simp only [Act.put, List.setIfInBounds_toArray, List.set_cons_zero, List.set_cons_succ]
  refine wpAnyH_ready (rs := [16]) (by kernel_rfl) (by simp) (AllReadyH.cons (o := ⟨none, .store 178 (.tmp 4) (.tmp 23), 0, "words.go:16", #[⟨15, .data⟩, ⟨0, .phase⟩, ⟨1, .phase⟩, ⟨2, .phase⟩, ⟨3, .phase⟩, ⟨4, .phase⟩, ⟨5, .phase⟩, ⟨6, .phase⟩, ⟨7, .phase⟩, ⟨8, .phase⟩, ⟨9, .phase⟩, ⟨10, .phase⟩, ⟨11, .phase⟩, ⟨12, .phase⟩, ⟨13, .phase⟩, ⟨14, .phase⟩, ⟨15, .phase⟩], none⟩) rfl (fun KQ hK => ?_) AllReadyH.nil)
  rw [if_pos (by rfl)]
  refine wp_store_st 178 _ _ rfl g4 (two a b) rfl rfl HC0.out sizeA rfl rfl ?_
  intro w2 hc hb hs
  have HX1 := hid (HX0.out.but hb (by have := HL.out.1; simp; omega) (by have := HL.out.2; simp; omega))
  have HE := hid (And.intro hc (HB0.out.trans (hb.below (by have := HG.out; simp; omega) HB0.out.size)))
  clear hc hb hs
  refine hK.out _ _ HX1.out (fun hHeld => ?_)
  clear hK KQ
  try simp only [Act.put]
  refine wpAnyH_done (by kernel_rfl) ?_ _
  go_wp2_with fail
  exact ret_st rfl rfl g4 _ rfl HE.out.1 underA rfl (by rw [sizeA]; rfl) ⟨rfl, HE.out.2⟩
theorem bag_one (W : World) (t : TypeId) (cs : List Value) : Bag W (W.alloc (.cells cs.toArray t)) [(W.heap.size, t, cs)] :=
  ⟨fun p hp => by rw [List.mem_singleton] at hp; subst hp; exact Cel.new W t cs, below_one _ _⟩
theorem Bag.put {W w w2 : World} {L : List (Nat × TypeId × List Value)} (h : Bag W w L) (k : Nat) {g : Nat} {t : TypeId} {cs es : List Value} (_hk : L[k]? = some (g, t, cs)) (hg : W.heap.size ≤ g) (hne : ∀ j q, L[j]? = some q → j ≠ k → q.1 ≠ g) (hc : Cel w2 g t es) (hb : ButL [g] w w2) : Bag W w2 (L.set k (g, t, es)) :=
  ⟨fun q hq => by
    obtain ⟨j, hj⟩ := List.mem_iff_getElem?.1 hq
    rw [List.getElem?_set] at hj
    by_cases e : k = j
    · subst e
      rw [if_pos rfl] at hj
      split at hj
      · injection hj with hj; subst hj; exact hc
      · cases hj
    · rw [if_neg e] at hj
      exact (h.all q (List.mem_of_getElem? hj)).but hb (by rw [List.mem_singleton]; exact hne j q hj (fun h => e h.symm)), h.below.trans (hb.below (by simpa using hg) h.below.size)⟩
theorem at_dv (W : World) {g gm gw off n c : Nat} {L : List Int} (h : DV W g gm gw off n c L) (k : Nat) (hk : 2 * k + 2 < n) (hk1 : k ≤ 1000) (a b : Int) (ha : L[1 + 2 * k]? = some a) (hb : L[2 + 2 * k]? = some b) (a0 : 0 ≤ a) (a1 : a < 4294967296) (b0 : 0 ≤ b) (b1 : b < 4294967296) :
    Calls Tryz.prog 68 #[ptr g, .int .i64 (k : Int)] W fun x W' => x = .returned (dec a b).v ∧ Below W.heap.size W W' := by
  have HX := hid (h.on (below_one W (.cells En.zero.cs.toArray 125)))
  have B0 := hid (bag_one W 125 En.zero.cs)
  have HP := hid (fun w (hw : DV w g gm gw off n c L) => pair_any w hw k hk hk1 a b ha hb)
  have HD := hid (fun W => decode_any W a b a0 a1 b0 b1)
  clear h ha hb a0 a1 b0 b1 hk hk1
  generalize dec a b = D at *
  generalize decE a b = DE at *
  simp only [ptr, En.v, En.zero, En.cs] at HX B0 HP HD ⊢
  go_enter Tryz.func68, Tryz.ntmps68
  go_upto_region 1 with fail
  generalize W.alloc _ = X at *
  generalize hg : W.heap.size = g4 at B0 ⊢
  have HG := hid hg
  clear hg
  go_upto_region 2 with (first | (go_at_call 106; refine (HP.out _ HX.out).mono ?_; rintro x w1 ⟨rfl, hb⟩; have B1 := hid (B0.out.on hb); clear hb) | (go_at_call 105; refine (HD.out _).mono ?_; rintro x w2 ⟨rfl, hb⟩; have B2 := hid (B1.out.on hb); clear hb) | (refine wpList_store_st rfl 125 _ _ rfl w2.heap.size D.cs rfl rfl (Cel.new w2 125 En.zero.cs) sizeE rfl rfl ?_; intro w3 hc hb hs; have B3 := hid (B2.out.add hc hb); clear hc hb hs))
  clear B0 B1
  have HL : Hid (w2.heap.size ≠ g4) := hid (by have := (B2.out.get 0 rfl).lt; omega)
  generalize w2.heap.size = g5 at *
  go_wp2_with (first | (refine wpList_load_mid rfl 125 _ rfl g5 0 rfl _ _ ((B3.out.get 0 rfl).range) underE rfl (by rw [sizeE]; rfl) ?_) | (refine wpList_store_st rfl 125 _ _ rfl g4 D.cs rfl rfl (B3.out.get 1 rfl) sizeE rfl rfl ?_; intro w4 hc hb hs; have HE := hid (And.intro hc (B3.out.below.trans (hb.below (by have := HG.out; simp; omega) B3.out.below.size))); clear hc hb hs))
  exact ret_st rfl rfl g4 _ rfl HE.out.1 underE rfl (by rw [sizeE]; rfl) ⟨rfl, HE.out.2⟩
theorem dat_any (W : World) (p : Dp) (d : DS) (h : DB W p d) (k : Nat) (hk : k < d.m.ns) :
    Calls Tryz.prog 68 #[ptr p.g, .int .i64 (k : Int)] W fun x W' => x = .returned (d.at k).v ∧ Below W.heap.size W W' := by
  have h1 := wdsOf_at d.b d.E k (by rw [h.ok.len]; exact hk)
  have h2 := h.ok.n64
  have h3 := (dec_w (h.ok.ok k hk)).1
  have := at_dv W h.dv k (by omega) (by omega) (e0 (d.at k)) (e1 (d.at k)) h1.1 h1.2 (e0_range _).1 (e0_range _).2 (e1_range _).1 (e1_range _).2
  rwa [h3] at this
def DS.there (d : DS) (p : Int) : Bool := decide (0 ≤ p ∧ p < (d.m.ns : Int))
def DS.ent (d : DS) (p : Int) : En := if d.there p = true then d.at p.toNat else En.zero
def DS.entE (d : DS) (p : Int) : Int := if d.there p = true then 0 else 5
theorem built_zE : Tryz.prog.built 125 [] = some En.zero.cs.toArray := by kernel_rfl
theorem wpList_build_zE {ops : Array Oper} {rest : List Oper} {o : Oper} {a : Act} {w : World} {Q : Exit → Act → World → Prop} (hgd : o.guard = none) (ho : o.op = .build 125 #[])
    (h : wpList Tryz.prog ops Q rest (a.put o.dst (.agg En.zero.cs.toArray)) w) : wpList Tryz.prog ops Q (o :: rest) a w :=
  wpList_build_f hgd 125 _ ho #[] (by simp) _ built_zE h
theorem entry_any (W : World) (p : Dp) (d : DS) (h : DB W p d) (q : Int) :
    Calls Tryz.prog 62 #[ptr p.g, .int .i64 q] W fun x W' => x = .returned (.tuple #[(d.ent q).v, .int .i64 (d.entE q)]) ∧ Below W.heap.size W W' := by
  have B0 := hid (bag_one W 125 En.zero.cs)
  have HX := hid (h.on (below_one W (.cells En.zero.cs.toArray 125)))
  have HP := hid (fun w (hw : DB w p d) => pages_any w p d hw)
  by_cases hq : 0 ≤ q ∧ q < (d.m.ns : Int)
  · have ht : d.there q = true := decide_eq_true hq
    obtain ⟨q0, q1⟩ := hq
    have HA := hid (fun w (hw : DB w p d) => dat_any w p d hw q.toNat (by omega))
    rw [Int.toNat_of_nonneg q0] at HA
    have e1 : d.ent q = d.at q.toNat := by simp [DS.ent, ht]
    have e2 : d.entE q = 0 := by simp [DS.entE, ht]
    rw [e1, e2]
    clear e1 e2 ht h
    generalize d.at q.toNat = D at *
    generalize (d.m.ns : Int) = n at *
    simp only [ptr, En.v, En.zero, En.cs] at HX B0 HP HA ⊢
    go_enter Tryz.func62, Tryz.ntmps62
    go_upto_region 1 with fail
    generalize W.alloc _ = X at *
    generalize hg : W.heap.size = g4 at B0 ⊢
    have HG := hid hg
    clear hg
    go_wp2_with (first | (go_at_call 54; refine (HP.out _ HX.out).mono ?_; rintro x w1 ⟨rfl, rfl⟩; clear HP) | (go_at_call 68; refine (HA.out _ HX.out).mono ?_; rintro x w2 ⟨rfl, hb⟩; have B1 := hid (B0.out.on hb); clear hb) | (revert B1; intro B1; refine wpList_store_st rfl 125 _ _ rfl g4 D.cs rfl rfl (B1.out.get 0 rfl) sizeE rfl rfl ?_; intro w4 hc hb hs; have HE := hid (And.intro hc (B1.out.below.trans (hb.below (by have := HG.out; simp; omega) B1.out.below.size))); clear hc hb hs))
    exact ret_st2 rfl rfl g4 _ rfl HE.out.1 underE rfl sizeE ⟨rfl, HE.out.2⟩
  · have ht : d.there q = false := decide_eq_false hq
    have e1 : d.ent q = En.zero := by simp [DS.ent, ht]
    have e2 : d.entE q = 5 := by simp [DS.entE, ht]
    rw [e1, e2]
    have hq' : q < 0 ∨ (0 ≤ q ∧ (d.m.ns : Int) ≤ q) := by omega
    clear e1 e2 ht h hq
    generalize (d.m.ns : Int) = n at *
    simp only [ptr, En.v, En.zero, En.cs] at HX B0 HP ⊢
    rcases hq' with hq | ⟨hq0, hq⟩
    · go_enter Tryz.func62, Tryz.ntmps62
      go_upto_region 1 with fail
      generalize W.alloc _ = X at *
      generalize hg : W.heap.size = g4 at B0 ⊢
      have HG := hid hg
      clear hg
      go_wp2_with (first | (refine wpList_build_zE rfl rfl ?_) | (refine wpList_store_st rfl 125 _ _ rfl g4 En.zero.cs rfl rfl (B0.out.get 0 rfl) sizeE rfl rfl ?_; intro w4 hc hb hs; have HE := hid (And.intro hc (B0.out.below.trans (hb.below (by have := HG.out; simp; omega) B0.out.below.size))); clear hc hb hs))
      exact ret_st2 rfl rfl g4 _ rfl HE.out.1 underE rfl sizeE ⟨rfl, HE.out.2⟩
    · go_enter Tryz.func62, Tryz.ntmps62
      go_upto_region 1 with fail
      generalize W.alloc _ = X at *
      generalize hg : W.heap.size = g4 at B0 ⊢
      have HG := hid hg
      clear hg
      go_wp2_with (first | (go_at_call 54; refine (HP.out _ HX.out).mono ?_; rintro x w1 ⟨rfl, rfl⟩; clear HP) | (refine wpList_build_zE rfl rfl ?_) | (refine wpList_store_st rfl 125 _ _ rfl g4 En.zero.cs rfl rfl (B0.out.get 0 rfl) sizeE rfl rfl ?_; intro w4 hc hb hs; have HE := hid (And.intro hc (B0.out.below.trans (hb.below (by have := HG.out; simp; omega) B0.out.below.size))); clear hc hb hs))
      exact ret_st2 rfl rfl g4 _ rfl HE.out.1 underE rfl sizeE ⟨rfl, HE.out.2⟩
end Go.Proofs.YtgbpbfnpeeciaaaGreat
