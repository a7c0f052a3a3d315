import Derived.Test.YtdfnbcbnmiohnaaGreatDoorP26
import Derived.Test.YtdfnbcbnmiohnaaGreatDoorP25
import Derived.Test.YtdfnbcbnmiohnaaGreatDoorP01
namespace Go.Proofs.YtdfnbcbnmiohnaaGreatDoor
open Go.RowKit
structure CP (w w' : World) (g : Nat) (bs : List Nat) (Q : List (List Int)) : Prop where
  below : Below w.heap.size w w'
  hg : w.heap.size ≤ g
  cel : Cel w' g 129 (bs.map ptr)
  len : bs.length = Q.length
  pages : ∀ k, k < Q.length → w.heap.size ≤ bs.getD k 0 ∧ Cel w' (bs.getD k 0) 132 (u32s (Q.getD k []))
  full : ∀ k, k < Q.length → (Q.getD k []).length = 1024
  nodup : bs.Nodup
theorem CP.on {w w' w2 : World} {g : Nat} {bs : List Nat} {Q : List (List Int)} (h : CP w w' g bs Q) (hb : Below w'.heap.size w' w2) : CP w w2 g bs Q :=
  ⟨below_on h.below hb, h.hg, h.cel.on hb, h.len, fun k hk => ⟨(h.pages k hk).1, (h.pages k hk).2.on hb⟩, h.full, h.nodup⟩
theorem CP.start {w w' : World} {g : Nat} {bs : List Nat} {n : Nat} (h : ZP w w' g bs n) (hn : bs.length = n) : CP w w' g bs (List.replicate n zs) := by
  refine ⟨h.below, h.hg, ?_, by simp [hn], fun k hk => ?_, fun k hk => ?_, h.nodup⟩
  · have := h.cel; simpa [hn] using this
  · simp only [List.length_replicate] at hk
    rw [rep_p k n hk]
    exact h.pages _ (getD_mem (by omega))
  · simp only [List.length_replicate] at hk
    rw [rep_p k n hk, zs_len]
theorem getD_inj {bs : List Nat} (h : bs.Nodup) {j k : Nat} (hj : j < bs.length) (hk : k < bs.length) (he : bs.getD j 0 = bs.getD k 0) : j = k := by
  simp only [List.getD_eq_getElem?_getD, List.getElem?_eq_getElem hj, List.getElem?_eq_getElem hk, Option.getD_some] at he
  rcases Nat.lt_trichotomy j k with hlt | e | hlt
  · exact absurd he (List.pairwise_iff_getElem.1 h j k hj hk hlt)
  · exact e
  · exact absurd he.symm (List.pairwise_iff_getElem.1 h k j hk hj hlt)
theorem CP.set {w w' w2 : World} {g : Nat} {bs : List Nat} {Q : List (List Int)} (h : CP w w' g bs Q) (k : Nat) (hk : k < Q.length) (L : List Int) (hL : L.length = 1024) (hb : ButL [bs.getD k 0] w' w2) (hc : Cel w2 (bs.getD k 0) 132 (u32s L)) : CP w w2 g bs (Q.set k L) := by
  have hp := h.pages k hk
  refine ⟨h.below.trans (hb.below (fun x hx => by rw [List.mem_singleton] at hx; rw [hx]; exact hp.1) h.below.size), h.hg, h.cel.but hb (fun hm => by rw [List.mem_singleton] at hm; have := h.cel; rw [hm] at this; exact absurd (this.ty hp.2) (by decide)), by simp [h.len], fun j hj => ?_, fun j hj => ?_, h.nodup⟩
  · simp only [List.length_set] at hj
    by_cases e : j = k
    · subst e
      have e2 : (Q.set j L).getD j [] = L := by rw [List.getD_eq_getElem?_getD, List.getElem?_set_self hj]; rfl
      rw [e2]
      exact ⟨hp.1, hc⟩
    · have e2 : (Q.set k L).getD j [] = Q.getD j [] := by rw [List.getD_eq_getElem?_getD, List.getElem?_set_ne (Ne.symm e), ← List.getD_eq_getElem?_getD]
      rw [e2]
      refine ⟨(h.pages j hj).1, (h.pages j hj).2.but hb (fun hm => ?_)⟩
      rw [List.mem_singleton] at hm
      exact e (getD_inj h.nodup (by rw [h.len]; exact hj) (by rw [h.len]; exact hk) hm)
  · simp only [List.length_set] at hj
    by_cases e : j = k
    · subst e
      have e2 : (Q.set j L).getD j [] = L := by rw [List.getD_eq_getElem?_getD, List.getElem?_set_self hj]; rfl
      rw [e2, hL]
    · have e2 : (Q.set k L).getD j [] = Q.getD j [] := by rw [List.getD_eq_getElem?_getD, List.getElem?_set_ne (Ne.symm e), ← List.getD_eq_getElem?_getD]
      rw [e2]; exact h.full j hj
structure RP (w : World) (g : Nat) (bs : List Nat) (Q : List (List Int)) : Prop where
  cel : Cel w g 129 (bs.map ptr)
  len : bs.length = Q.length
  pages : ∀ k, k < Q.length → Cel w (bs.getD k 0) 132 (u32s (Q.getD k []))
  full : ∀ k, k < Q.length → (Q.getD k []).length = 1024
theorem RP.on {w w2 : World} {g : Nat} {bs : List Nat} {Q : List (List Int)} (h : RP w g bs Q) (hb : Below w.heap.size w w2) : RP w2 g bs Q :=
  ⟨h.cel.on hb, h.len, fun k hk => (h.pages k hk).on hb, h.full⟩
theorem RP.at {w : World} {g : Nat} {bs : List Nat} {Q : List (List Int)} (h : RP w g bs Q) (k : Nat) (hk : k < Q.length) : w.cell? ⟨g, k, none⟩ = some (.pointer (some ⟨bs.getD k 0, 0, none⟩)) := by
  have := h.len
  rw [h.cel.cell k, List.getElem?_map, List.getElem?_eq_getElem (by omega)]
  simp [ptr, List.getD_eq_getElem?_getD, List.getElem?_eq_getElem (show k < bs.length by omega)]
theorem getD_take {α : Type} (l : List α) (d : α) (n k : Nat) (h : k < n) : (l.take n).getD k d = l.getD k d := by
  rw [List.getD_eq_getElem?_getD, List.getElem?_take_of_lt h, ← List.getD_eq_getElem?_getD]
theorem getD_drop {α : Type} (l : List α) (d : α) (n k : Nat) : (l.drop n).getD k d = l.getD (n + k) d := by
  rw [List.getD_eq_getElem?_getD, List.getElem?_drop, ← List.getD_eq_getElem?_getD]
theorem Mem.rs {w : World} {f : Fp} {m : MS} (h : Mem w f m) : RP w f.gs (f.bs.take m.ns) (m.P.take m.ns) := by
  have := h.ns0
  refine ⟨h.sec, by rw [List.length_take, List.length_take, h.len], fun k hk => ?_, fun k hk => ?_⟩
  · rw [List.length_take] at hk
    rw [getD_take _ _ _ _ (by omega), getD_take _ _ _ _ (by omega)]
    exact h.pg k (by omega)
  · rw [List.length_take] at hk
    rw [getD_take _ _ _ _ (by omega)]
    exact h.full k (by omega)
theorem CP.from {w w0 w' : World} {g : Nat} {bs : List Nat} {Q : List (List Int)} (h : CP w0 w' g bs Q) (hb : Below w.heap.size w w0) : CP w w' g bs Q :=
  ⟨below_on hb h.below, Nat.le_trans hb.size h.hg, h.cel, h.len, fun k hk => ⟨Nat.le_trans hb.size (h.pages k hk).1, (h.pages k hk).2⟩, h.full, h.nodup⟩
def MS.same (m o : MS) : Bool := decide (m.P.take m.ns = o.P.take o.ns) && decide (m.P.drop m.ns = o.P.drop o.ns)
structure DS where
  m : MS
  b : Int
  E : List En
def ew (x : En) : List Int := [e0 x, e1 x]
def wdsOf (b : Int) (E : List En) : List Int := b :: E.flatMap ew
def DS.ws (d : DS) : List Int := wdsOf d.b d.E
def DS.at (d : DS) (p : Nat) : En := d.E.getD p En.zero
structure Dp where
  g : Nat
  gw : Nat
  f : Fp
structure DS.Ok (d : DS) : Prop where
  len : d.E.length = d.m.ns
  n64 : d.m.ns ≤ 64
  ok : ∀ k, k < d.m.ns → (d.at k).ok = true
  own : ∀ k, k < d.m.ns → (d.at k).o < (d.m.ns : Int)
  b0 : 0 ≤ d.b
  b1 : d.b ≤ 64
structure DB (w : World) (p : Dp) (d : DS) : Prop where
  mem : Mem w p.f d.m
  cel : Cel w p.g 99 [ptr p.f.gm, .slice (some ⟨p.gw, 0, none⟩) (1 + 2 * d.m.ns) (1 + 2 * d.m.ns)]
  wds : Cel w p.gw 43 (u32s d.ws)
  ok : d.Ok
def Dp.all (p : Dp) : List Nat := p.g :: p.gw :: p.f.all
def Dp.w (p : Dp) : List Nat := p.gw :: p.f.w
theorem flat_len (E : List En) : (E.flatMap ew).length = 2 * E.length := by
  induction E with
  | nil => rfl
  | cons x E ih => simp only [List.flatMap_cons, List.length_append, ih, ew, List.length_cons, List.length_nil]; omega
theorem wdsOf_len (b : Int) (E : List En) : (wdsOf b E).length = 1 + 2 * E.length := by simp only [wdsOf, List.length_cons, flat_len]; omega
theorem DS.ws_len {d : DS} (h : d.Ok) : d.ws.length = 1 + 2 * d.m.ns := by rw [DS.ws, wdsOf_len, h.len]
theorem flat_at (E : List En) (k : Nat) (h : k < E.length) : (E.flatMap ew)[2 * k]? = some (e0 (E.getD k En.zero)) ∧ (E.flatMap ew)[2 * k + 1]? = some (e1 (E.getD k En.zero)) := by
  induction E generalizing k with
  | nil => simp at h
  | cons x E ih =>
    cases k with
    | zero => exact ⟨rfl, rfl⟩
    | succ k =>
      have := ih k (by simpa using h)
      simp only [List.flatMap_cons, ew, List.cons_append, List.nil_append]
      rw [show 2 * (k + 1) = 2 * k + 1 + 1 by omega]
      simpa using this
theorem wdsOf_at (b : Int) (E : List En) (k : Nat) (h : k < E.length) : (wdsOf b E)[1 + 2 * k]? = some (e0 (E.getD k En.zero)) ∧ (wdsOf b E)[2 + 2 * k]? = some (e1 (E.getD k En.zero)) := by
  have := flat_at E k h
  rw [wdsOf, show 1 + 2 * k = 2 * k + 1 by omega, show 2 + 2 * k = 2 * k + 1 + 1 by omega]
  simpa using this
theorem flat_set (E : List En) (k : Nat) (x : En) (h : k < E.length) : (E.set k x).flatMap ew = ((E.flatMap ew).set (2 * k) (e0 x)).set (2 * k + 1) (e1 x) := by
  induction E generalizing k with
  | nil => simp at h
  | cons y E ih =>
    cases k with
    | zero => simp [ew]
    | succ k =>
      have := ih k (by simpa using h)
      simp only [tqS, List.flatMap_cons, this, ew, List.cons_append, List.nil_append]
      rw [show 2 * (k + 1) = 2 * k + 1 + 1 by omega, show 2 * k + 1 + 1 + 1 = (2 * k + 1) + 1 + 1 by omega]
      simp
theorem wdsOf_set (b : Int) (E : List En) (k : Nat) (x : En) (h : k < E.length) : wdsOf b (E.set k x) = ((wdsOf b E).set (1 + 2 * k) (e0 x)).set (2 + 2 * k) (e1 x) := by
  rw [wdsOf, wdsOf, flat_set E k x h, show 1 + 2 * k = 2 * k + 1 by omega, show 2 + 2 * k = 2 * k + 1 + 1 by omega]
  simp
theorem DB.lt {w : World} {p : Dp} {d : DS} (h : DB w p d) : ∀ k ∈ p.all, k < w.heap.size := by
  intro k hk
  simp only [Dp.all, List.mem_cons] at hk
  rcases hk with rfl | rfl | hk
  · exact h.cel.lt
  · exact h.wds.lt
  · exact h.mem.lt k hk
theorem DB.frame {w w' : World} {p : Dp} {d : DS} {G : List Nat} (h : DB w p d) (hb : ButL G w w') (hd : ∀ k ∈ p.all, k ∉ G) : DB w' p d :=
  ⟨h.mem.frame hb (fun k hk => hd k (by simp [Dp.all, hk])), h.cel.but hb (hd _ (by simp [Dp.all])), h.wds.but hb (hd _ (by simp [Dp.all])), h.ok⟩
theorem DB.on {w w' : World} {p : Dp} {d : DS} (h : DB w p d) (hb : Below w.heap.size w w') : DB w' p d := h.frame (G := []) (.of hb) (by simp)
theorem Mem.ty_w {w : World} {f : Fp} {m : MS} (h : Mem w f m) : ∀ k ∈ f.all, ∀ t cs, Cel w k t cs → t = 96 ∨ t = 129 ∨ t = 132 := by
  intro k hk t cs hc
  simp only [Fp.all, List.mem_cons] at hk
  rcases hk with rfl | rfl | rfl | hk
  · exact .inl (hc.ty h.cel)
  · exact .inr (.inl (hc.ty h.sec))
  · exact .inr (.inl (hc.ty h.ins))
  · obtain ⟨i, hi, rfl⟩ := List.mem_iff_getElem.1 hk
    have := h.pg i (by rw [← h.len]; exact hi)
    simp only [Fp.b, List.getD_eq_getElem?_getD, List.getElem?_eq_getElem hi, Option.getD_some] at this
    exact .inr (.inr (hc.ty this))
theorem Mem.off {w : World} {f : Fp} {m : MS} (h : Mem w f m) {g : Nat} {t : TypeId} {cs : List Value} (hc : Cel w g t cs) (ht : t ≠ 96 ∧ t ≠ 129 ∧ t ≠ 132) : g ∉ f.all := fun hm => by
  rcases h.ty_w g hm t cs hc with e | e | e
  · exact ht.1 e
  · exact ht.2.1 e
  · exact ht.2.2 e
theorem Fp.w_all {f : Fp} {k : Nat} (h : k ∈ f.w) : k ∈ f.all := by
  simp only [Fp.w, Fp.all, List.mem_cons] at h ⊢
  rcases h with h | h <;> simp [h]
theorem DB.memory {w w' : World} {p : Dp} {d : DS} {m' : MS} (h : DB w p d) (hm : Mem w' p.f m') (hb : ButL p.f.w w w') (hn : m'.ns = d.m.ns) : DB w' p { d with m := m' } :=
  ⟨hm, by simpa only [hn] using h.cel.but hb (fun hk => h.mem.off h.cel (by decide) (Fp.w_all hk)), h.wds.but hb (fun hk => h.mem.off h.wds (by decide) (Fp.w_all hk)), by
    obtain ⟨a, b, c, e, f, g⟩ := h.ok
    exact ⟨by simpa only [hn] using a, by simpa only [hn] using b, fun k hk => c k (by have hk' : k < m'.ns := hk; omega), fun k hk => by
      have hk' : k < m'.ns := hk
      have := e k (by omega)
      show (d.at k).o < (m'.ns : Int)
      rw [hn]; exact this, f, g⟩⟩
theorem DB.words {w w' : World} {p : Dp} {d : DS} {b' : Int} {E' : List En} (h : DB w p d) (hc : Cel w' p.gw 43 (u32s (wdsOf b' E'))) (hb : ButL [p.gw] w w') (hk : DS.Ok { d with b := b', E := E' }) : DB w' p { d with b := b', E := E' } := by
  have h1 : p.g ∉ [p.gw] := fun hm => by rw [List.mem_singleton] at hm; have := h.cel; rw [hm] at this; exact absurd (this.ty h.wds) (by decide)
  refine ⟨h.mem.frame hb (fun k hk hm => ?_), h.cel.but hb h1, hc, hk⟩
  rw [List.mem_singleton] at hm
  subst hm
  exact h.mem.off h.wds (by decide) hk
structure DV (w : World) (g gm gw off n c : Nat) (L : List Int) : Prop where
  cel : Cel w g 99 [ptr gm, .slice (some ⟨gw, off, none⟩) n c]
  rng : w.rangeAt gw off (u32s L)
  len : L.length = n
  lt : gw < w.heap.size
theorem DV.on {w w' : World} {g gm gw off n c : Nat} {L : List Int} (h : DV w g gm gw off n c L) (hb : Below w.heap.size w w') : DV w' g gm gw off n c L :=
  ⟨h.cel.on hb, fun j v hv => by
    have := h.rng j v hv
    unfold World.cell? at this ⊢
    rw [hb.block gw h.lt]
    exact this, h.len, by have := hb.size; have := h.lt; omega⟩
theorem DV.at {w : World} {g gm gw off n c : Nat} {L : List Int} (h : DV w g gm gw off n c L) (j : Nat) (x : Int) (hj : L[j]? = some x) : w.cell? ⟨gw, off + j, none⟩ = some (.int .u32 x) := h.rng j _ (by rw [u32s, List.getElem?_map, hj]; rfl)
theorem DB.dv {w : World} {p : Dp} {d : DS} (h : DB w p d) : DV w p.g p.f.gm p.gw 0 (1 + 2 * d.m.ns) (1 + 2 * d.m.ns) d.ws := ⟨h.cel, h.wds.range, d.ws_len h.ok, h.wds.lt⟩
set_option maxHeartbeats 4000000
set_option maxRecDepth 100000
theorem place_any (W : World) (p : Int) (h0 : 0 ≤ p) (h1 : p ≤ 1000) : Calls Tryz.prog 96 #[.int .i64 p] W fun x W' => x = .returned (.int .i64 (1 + 2 * p)) ∧ W = W' := by
  have q : wrap64 (2 * p) = 2 * p := by unfold wrap64; omega
  have q2 : wrap64 (1 + 2 * p) = 1 + 2 * p := by unfold wrap64; omega
  go_enter Tryz.func96, Tryz.ntmps96
  go_wp2_with fail
  go_ret
  exact ⟨rfl, rfl⟩
theorem secure_any (W : World) (f : Fp) (m : MS) (h : Mem W f m) : Calls Tryz.prog 97 #[ptr f.gm] W fun x W' => x = .returned (.int .i64 (m.ns : Int)) ∧ W = W' := by
  have c0 := h.cel.cell 0
  simp only [tqG] at c0
  clear h
  simp only [ptr] at *
  go_enter Tryz.func97, Tryz.ntmps97
  go_wp2_with fail
  go_ret
  exact ⟨rfl, rfl⟩
theorem size_any (W : World) (f : Fp) (m : MS) (h : Mem W f m) : Calls Tryz.prog 48 #[ptr f.gm] W fun x W' => x = .returned (.int .i64 (1 + 2 * (m.ns : Int))) ∧ W = W' := by
  have HS := hid (secure_any W f m h)
  have h1 := h.ns0
  have h2 := h.most
  have n0 : 0 ≤ (m.ns : Int) := by omega
  have n1 : (m.ns : Int) ≤ 1000 := by omega
  clear h h1 h2
  simp only [ptr] at *
  go_enter Tryz.func48, Tryz.ntmps48
  go_wp2_with fail
  refine HS.out.mono ?_
  rintro x w1 ⟨rfl, rfl⟩
  go_wp2_with fail
  refine (place_any _ _ n0 n1).mono ?_
  rintro x w1 ⟨rfl, rfl⟩
  go_wp2_with fail
  go_ret
  exact ⟨rfl, rfl⟩
theorem pages_dv {W : World} {g gw off n c : Nat} {L : List Int} {f : Fp} {m : MS} (h : Mem W f m) (hd : DV W g f.gm gw off n c L) : Calls Tryz.prog 49 #[ptr g] W fun x W' => x = .returned (.int .i64 (m.ns : Int)) ∧ W = W' := by
  have HS := hid (secure_any W f m h)
  have c0 := hd.cel.cell 0
  simp only [tqG] at c0
  clear h hd
  simp only [ptr] at *
  go_enter Tryz.func49, Tryz.ntmps49
  go_wp2_with fail
  refine HS.out.mono ?_
  rintro x w1 ⟨rfl, rfl⟩
  go_wp2_with fail
  go_ret
  exact ⟨rfl, rfl⟩
theorem pages_any (W : World) (p : Dp) (d : DS) (h : DB W p d) : Calls Tryz.prog 49 #[ptr p.g] W fun x W' => x = .returned (.int .i64 (d.m.ns : Int)) ∧ W = W' := pages_dv h.mem h.dv
theorem births_any (W : World) (p : Dp) (d : DS) (h : DB W p d) : Calls Tryz.prog 99 #[ptr p.g] W fun x W' => x = .returned (.int .i64 d.b) ∧ W = W' := by
  have c0 := h.cel.cell 1
  have c1 := h.dv.at 0 d.b rfl
  have n0 : (0 : Int) < ((1 + 2 * d.m.ns : Nat) : Int) := by omega
  have b0 : wrap64 d.b = d.b := by have := h.ok.b0; have := h.ok.b1; unfold wrap64; omega
  simp only [tqG, tqH] at c0
  clear h
  simp only [ptr] at *
  generalize 1 + 2 * d.m.ns = n at *
  go_enter Tryz.func99, Tryz.ntmps99
  go_wp2_with fail
  go_ret
  exact ⟨ret_int b0, rfl⟩
theorem memory_any (W : World) (p : Dp) (d : DS) (h : DB W p d) : Calls Tryz.prog 28 #[ptr p.g] W fun x W' => x = .returned (ptr p.f.gm) ∧ W = W' := by
  have c0 := h.cel.cell 0
  simp only [tqG] at c0
  clear h
  simp only [ptr] at *
  go_enter Tryz.func28, Tryz.ntmps28
  go_wp2_with fail
  go_ret
  exact ⟨rfl, rfl⟩
theorem frame_any (W : World) (p : Int) : Calls Tryz.prog 54 #[.int .i64 p] W fun x W' => x = .returned (fr true p) ∧ Below W.heap.size W W' := by
  unfold fr
  go_enter Tryz.func54, Tryz.ntmps54
  go_wp2_with fail
  go_returns
  exact ⟨rfl, below_one _ _⟩
set_option maxHeartbeats 8000000
set_option maxRecDepth 100000
theorem wr64 (x : Int) (h0 : -9223372036854775808 ≤ x) (h1 : x ≤ 9223372036854775807) : IntKind.wrap .i64 x = x := by rw [IntKind.wrap_i64]; omega
theorem DV.but {G : List Nat} {w w' : World} {g gm gw off n c : Nat} {L : List Int} (h : DV w g gm gw off n c L) (hb : ButL G w w') (h1 : g ∉ G) (h2 : gw ∉ G) : DV w' g gm gw off n c L :=
  ⟨h.cel.but hb h1, fun j v hv => by
    have := h.rng j v hv
    unfold World.cell? at this ⊢
    rw [hb.block gw h.lt h2]
    exact this, h.len, by have := hb.size; have := h.lt; omega⟩
theorem DV.sl {w : World} {g gm gw off n c : Nat} {L : List Int} (h : DV w g gm gw off n c L) : w.cell? ⟨g, 1, none⟩ = some (.slice (some ⟨gw, off, none⟩) n c) := h.cel.cell 1
theorem DV.mp {w : World} {g gm gw off n c : Nat} {L : List Int} (h : DV w g gm gw off n c L) : w.cell? ⟨g, 0, none⟩ = some (ptr gm) := h.cel.cell 0
theorem pair_any (W : World) {g gm gw off n c : Nat} {L : List Int} (h : DV W g gm gw off n c L) (k : Nat) (hk : 2 * k + 2 < n) (hk1 : k ≤ 1000) (a b : Int) (ha : L[1 + 2 * k]? = some a) (hb : L[2 + 2 * k]? = some b) :
    Calls Tryz.prog 135 #[ptr g, .int .i64 (k : Int)] W fun x W' => x = .returned (twoV a b) ∧ Below W.heap.size W W' := by
  have q0 : 0 ≤ (k : Int) := by omega
  have q1 : (k : Int) ≤ 1000 := by omega
  have HP := hid (fun W => place_any W (k : Int) q0 q1)
  have HX := hid (h.on (below_one W (.cells #[.int .u32 0, .int .u32 0] 162)))
  have HC := hid (Cel.new W 162 [.int .u32 0, .int .u32 0])
  have HB := hid (below_one W (.cells #[.int .u32 0, .int .u32 0] 162))
  have HL : Hid (g < W.heap.size ∧ gw < W.heap.size) := hid ⟨h.cel.lt, h.lt⟩
  have HA : Hid (∀ w, DV w g gm gw off n c L → w.cell? ⟨gw, off + (1 + 2 * (k : Int)).toNat, none⟩ = some (.int .u32 a) ∧ w.cell? ⟨gw, off + (1 + 2 * (k : Int) + 1).toNat, none⟩ = some (.int .u32 b)) := hid (fun w hw => by
    rw [show (1 + 2 * (k : Int)).toNat = 1 + 2 * k by omega, show (1 + 2 * (k : Int) + 1).toNat = 2 + 2 * k by omega]
    exact ⟨hw.at _ _ ha, hw.at _ _ hb⟩)
  have i0 : 0 ≤ 1 + 2 * (k : Int) := by omega
  have i1 : 1 + 2 * (k : Int) < (n : Int) := by omega
  have i2 : 0 ≤ 1 + 2 * (k : Int) + 1 := by omega
  have i3 : 1 + 2 * (k : Int) + 1 < (n : Int) := by omega
  have iw : IntKind.wrap .i64 (1 + 2 * (k : Int) + 1) = 1 + 2 * (k : Int) + 1 := wr64 _ (by omega) (by omega)
  clear h ha hb hk hk1 q0 q1
  simp only [ptr, twoV, two] at *
  go_enter Tryz.func135, Tryz.ntmps135
  go_upto_region 2 with (go_at_call 96; refine (HP.out _).mono ?_; rintro x w1 ⟨rfl, rfl⟩)
  clear HP
  generalize 1 + 2 * (k : Int) = i at *
  generalize W.alloc _ = X at *
  generalize hg : W.heap.size = g4 at HC HL ⊢
  have HG := hid hg
  clear hg
  have HX0 := hid (HX.out.on (Below.refl _ _).drew)
  have HC0 := hid (HC.out.on (Below.refl _ _).drew)
  have HB0 := hid (below_on HB.out (Below.refl _ _).drew)
  clear HX HC HB
  refine wp_region_held_drew (S := fun w => DV w g gm gw off n c L) (by kernel_rfl) HX0.out (fun hHeld => ?_)
  refine tk 0 (some 8) (.pointer (some ⟨g, 0, none⟩)) ?_
  simp only [Act.put, tqA, tqZ, tqS]
  refine tk 1 (some 9) (.pointer (some ⟨g, 0, none⟩)) ?_
  simp only [Act.put, tqA, tqZ, tqS]
  refine tk 2 (some 10) (.pointer (some ⟨g, 1, none⟩)) ?_
  simp only [Act.put, tqA, tqZ, tqS]
  refine tk 3 (some 11) (.slice (some ⟨gw, off, none⟩) n c) ?_ (hy := Or.inl ⟨by rfl, by intro w hSw; have hc := hSw.sl; go_simp⟩)
  simp only [Act.put, tqA, tqZ, tqS]
  refine tk 4 (some 12) (.int .i64 i) ?_
  simp only [Act.put, tqA, tqZ, tqS]
  refine tk 5 (some 13) (.pointer (some ⟨gw, off + i.toNat, none⟩)) ?_
  simp only [Act.put, tqA, tqZ, tqS]
  refine tk 6 (some 14) (.int .u32 a) ?_ (hy := Or.inl ⟨by rfl, by intro w hSw; have hc := (HA.out w hSw).1; go_simp⟩)
  simp only [Act.put, tqA, tqZ, tqS]
  refine tk 7 (some 15) (.pointer (some ⟨g, 0, none⟩)) ?_
  simp only [Act.put, tqA, tqZ, tqS]
  refine tk 8 (some 16) (.pointer (some ⟨g, 0, none⟩)) ?_
  simp only [Act.put, tqA, tqZ, tqS]
  refine tk 9 (some 17) (.pointer (some ⟨g, 1, none⟩)) ?_
  simp only [Act.put, tqA, tqZ, tqS]
  refine tk 10 (some 18) (.slice (some ⟨gw, off, none⟩) n c) ?_ (hy := Or.inl ⟨by rfl, by intro w hSw; have hc := hSw.sl; go_simp⟩)
  simp only [Act.put, tqA, tqZ, tqS]
  refine tk 11 (some 19) (.int .i64 i) ?_
  simp only [Act.put, tqA, tqZ, tqS]
  refine tk 12 (some 20) (.int .i64 (i + 1)) ?_
  simp only [Act.put, tqA, tqZ, tqS]
  refine tk 13 (some 21) (.pointer (some ⟨gw, off + (i + 1).toNat, none⟩)) ?_
  simp only [Act.put, tqA, tqZ, tqS]
  refine tk 14 (some 22) (.int .u32 b) ?_ (hy := Or.inl ⟨by rfl, by intro w hSw; have hc := (HA.out w hSw).2; go_simp⟩)
  simp only [Act.put, tqA, tqZ, tqS]
  refine tk 15 (some 23) (.agg #[.int .u32 a, .int .u32 b]) ?_
  simp only [Act.put, tqA, tqZ, tqS]
  refine wpAnyH_ready (rs := [16]) (by kernel_rfl) (by simp) (AllReadyH.cons rfl (fun KQ hK => ?_) AllReadyH.nil)
  rw [if_pos (by rfl)]
  refine wp_store_st 162 _ _ rfl g4 (two a b) rfl rfl HC0.out sizeA rfl rfl ?_
  intro w2 hc hb hs
  have HX1 := hid (HX0.out.but hb (by have := HL.out.1; simp; omega) (by have := HL.out.2; simp; omega))
  have HE := hid (And.intro hc (HB0.out.trans (hb.below (by have := HG.out; simp; omega) HB0.out.size)))
  clear hc hb hs
  refine hK.out _ _ HX1.out (fun hHeld => ?_)
  clear hK KQ
  try simp only [Act.put]
  refine wpAnyH_done (by kernel_rfl) ?_ _
  go_wp2_with fail
  exact ret_st rfl rfl g4 _ rfl HE.out.1 underA rfl (by rw [sizeA]; rfl) ⟨rfl, HE.out.2⟩
theorem bag_one (W : World) (t : TypeId) (cs : List Value) : Bag W (W.alloc (.cells cs.toArray t)) [(W.heap.size, t, cs)] :=
  ⟨fun p hp => by rw [List.mem_singleton] at hp; subst hp; exact Cel.new W t cs, below_one _ _⟩
theorem Bag.put {W w w2 : World} {L : List (Nat × TypeId × List Value)} (h : Bag W w L) (k : Nat) {g : Nat} {t : TypeId} {cs es : List Value} (_hk : L[k]? = some (g, t, cs)) (hg : W.heap.size ≤ g) (hne : ∀ j q, L[j]? = some q → j ≠ k → q.1 ≠ g) (hc : Cel w2 g t es) (hb : ButL [g] w w2) : Bag W w2 (L.set k (g, t, es)) :=
  ⟨fun q hq => by
    obtain ⟨j, hj⟩ := List.mem_iff_getElem?.1 hq
    rw [List.getElem?_set] at hj
    by_cases e : k = j
    · subst e
      rw [if_pos rfl] at hj
      split at hj
      · injection hj with hj; subst hj; exact hc
      · cases hj
    · rw [if_neg e] at hj
      exact (h.all q (List.mem_of_getElem? hj)).but hb (by rw [List.mem_singleton]; exact hne j q hj (fun h => e h.symm)), h.below.trans (hb.below (by simpa using hg) h.below.size)⟩
theorem at_dv (W : World) {g gm gw off n c : Nat} {L : List Int} (h : DV W g gm gw off n c L) (k : Nat) (hk : 2 * k + 2 < n) (hk1 : k ≤ 1000) (a b : Int) (ha : L[1 + 2 * k]? = some a) (hb : L[2 + 2 * k]? = some b) (a0 : 0 ≤ a) (a1 : a < 4294967296) (b0 : 0 ≤ b) (b1 : b < 4294967296) :
    Calls Tryz.prog 93 #[ptr g, .int .i64 (k : Int)] W fun x W' => x = .returned (dec a b).v ∧ Below W.heap.size W W' := by
  have HX := hid (h.on (below_one W (.cells En.zero.cs.toArray 30)))
  have B0 := hid (bag_one W 30 En.zero.cs)
  have HP := hid (fun w (hw : DV w g gm gw off n c L) => pair_any w hw k hk hk1 a b ha hb)
  have HD := hid (fun W => decode_any W a b a0 a1 b0 b1)
  clear h ha hb a0 a1 b0 b1 hk hk1
  generalize dec a b = D at *
  generalize decE a b = DE at *
  simp only [ptr, En.v, En.zero, En.cs] at HX B0 HP HD ⊢
  go_enter Tryz.func93, Tryz.ntmps93
  go_upto_region 1 with fail
  generalize W.alloc _ = X at *
  generalize hg : W.heap.size = g4 at B0 ⊢
  have HG := hid hg
  clear hg
  go_upto_region 2 with (first | (go_at_call 135; refine (HP.out _ HX.out).mono ?_; rintro x w1 ⟨rfl, hb⟩; have B1 := hid (B0.out.on hb); clear hb) | (go_at_call 134; refine (HD.out _).mono ?_; rintro x w2 ⟨rfl, hb⟩; have B2 := hid (B1.out.on hb); clear hb) | (refine wpList_store_st rfl 30 _ _ rfl w2.heap.size D.cs rfl rfl (Cel.new w2 30 En.zero.cs) sizeE rfl rfl ?_; intro w3 hc hb hs; have B3 := hid (B2.out.add hc hb); clear hc hb hs))
  clear B0 B1
  have HL : Hid (w2.heap.size ≠ g4) := hid (by have := (B2.out.get 0 rfl).lt; omega)
  generalize w2.heap.size = g5 at *
  go_wp2_with (first | (refine wpList_load_mid rfl 30 _ rfl g5 0 rfl _ _ ((B3.out.get 0 rfl).range) underE rfl (by rw [sizeE]; rfl) ?_) | (refine wpList_store_st rfl 30 _ _ rfl g4 D.cs rfl rfl (B3.out.get 1 rfl) sizeE rfl rfl ?_; intro w4 hc hb hs; have HE := hid (And.intro hc (B3.out.below.trans (hb.below (by have := HG.out; simp; omega) B3.out.below.size))); clear hc hb hs))
  exact ret_st rfl rfl g4 _ rfl HE.out.1 underE rfl (by rw [sizeE]; rfl) ⟨rfl, HE.out.2⟩
theorem dat_any (W : World) (p : Dp) (d : DS) (h : DB W p d) (k : Nat) (hk : k < d.m.ns) :
    Calls Tryz.prog 93 #[ptr p.g, .int .i64 (k : Int)] W fun x W' => x = .returned (d.at k).v ∧ Below W.heap.size W W' := by
  have h1 := wdsOf_at d.b d.E k (by rw [h.ok.len]; exact hk)
  have h2 := h.ok.n64
  have h3 := (dec_w (h.ok.ok k hk)).1
  have := at_dv W h.dv k (by omega) (by omega) (e0 (d.at k)) (e1 (d.at k)) h1.1 h1.2 (e0_range _).1 (e0_range _).2 (e1_range _).1 (e1_range _).2
  rwa [h3] at this
def DS.there (d : DS) (p : Int) : Bool := decide (0 ≤ p ∧ p < (d.m.ns : Int))
def DS.ent (d : DS) (p : Int) : En := if d.there p = true then d.at p.toNat else En.zero
def DS.entE (d : DS) (p : Int) : Int := if d.there p = true then 0 else 5
theorem built_zE : Tryz.prog.built 30 [] = some En.zero.cs.toArray := by kernel_rfl
theorem wpList_build_zE {ops : Array Oper} {rest : List Oper} {o : Oper} {a : Act} {w : World} {Q : Exit → Act → World → Prop} (hgd : o.guard = none) (ho : o.op = .build 30 #[])
    (h : wpList Tryz.prog ops Q rest (a.put o.dst (.agg En.zero.cs.toArray)) w) : wpList Tryz.prog ops Q (o :: rest) a w :=
  wpList_build_f hgd 30 _ ho #[] (by simp) _ built_zE h
theorem entry_any (W : World) (p : Dp) (d : DS) (h : DB W p d) (q : Int) :
    Calls Tryz.prog 45 #[ptr p.g, .int .i64 q] W fun x W' => x = .returned (.tuple #[(d.ent q).v, .int .i64 (d.entE q)]) ∧ Below W.heap.size W W' := by
  have B0 := hid (bag_one W 30 En.zero.cs)
  have HX := hid (h.on (below_one W (.cells En.zero.cs.toArray 30)))
  have HP := hid (fun w (hw : DB w p d) => pages_any w p d hw)
  by_cases hq : 0 ≤ q ∧ q < (d.m.ns : Int)
  · have ht : d.there q = true := decide_eq_true hq
    obtain ⟨q0, q1⟩ := hq
    have HA := hid (fun w (hw : DB w p d) => dat_any w p d hw q.toNat (by omega))
    rw [Int.toNat_of_nonneg q0] at HA
    have e1 : d.ent q = d.at q.toNat := by simp [DS.ent, ht]
    have e2 : d.entE q = 0 := by simp [DS.entE, ht]
    rw [e1, e2]
    clear e1 e2 ht h
    generalize d.at q.toNat = D at *
    generalize (d.m.ns : Int) = n at *
    simp only [ptr, En.v, En.zero, En.cs] at HX B0 HP HA ⊢
    go_enter Tryz.func45, Tryz.ntmps45
    go_upto_region 1 with fail
    generalize W.alloc _ = X at *
    generalize hg : W.heap.size = g4 at B0 ⊢
    have HG := hid hg
    clear hg
    go_wp2_with (first | (go_at_call 49; refine (HP.out _ HX.out).mono ?_; rintro x w1 ⟨rfl, rfl⟩; clear HP) | (go_at_call 93; refine (HA.out _ HX.out).mono ?_; rintro x w2 ⟨rfl, hb⟩; have B1 := hid (B0.out.on hb); clear hb) | (revert B1; intro B1; refine wpList_store_st rfl 30 _ _ rfl g4 D.cs rfl rfl (B1.out.get 0 rfl) sizeE rfl rfl ?_; intro w4 hc hb hs; have HE := hid (And.intro hc (B1.out.below.trans (hb.below (by have := HG.out; simp; omega) B1.out.below.size))); clear hc hb hs))
    exact ret_st2 rfl rfl g4 _ rfl HE.out.1 underE rfl sizeE ⟨rfl, HE.out.2⟩
  · have ht : d.there q = false := decide_eq_false hq
    have e1 : d.ent q = En.zero := by simp [DS.ent, ht]
    have e2 : d.entE q = 5 := by simp [DS.entE, ht]
    rw [e1, e2]
    have hq' : q < 0 ∨ (0 ≤ q ∧ (d.m.ns : Int) ≤ q) := by omega
    clear e1 e2 ht h hq
    generalize (d.m.ns : Int) = n at *
    simp only [ptr, En.v, En.zero, En.cs] at HX B0 HP ⊢
    rcases hq' with hq | ⟨hq0, hq⟩
    · go_enter Tryz.func45, Tryz.ntmps45
      go_upto_region 1 with fail
      generalize W.alloc _ = X at *
      generalize hg : W.heap.size = g4 at B0 ⊢
      have HG := hid hg
      clear hg
      go_wp2_with (first | (refine wpList_build_zE rfl rfl ?_) | (refine wpList_store_st rfl 30 _ _ rfl g4 En.zero.cs rfl rfl (B0.out.get 0 rfl) sizeE rfl rfl ?_; intro w4 hc hb hs; have HE := hid (And.intro hc (B0.out.below.trans (hb.below (by have := HG.out; simp; omega) B0.out.below.size))); clear hc hb hs))
      exact ret_st2 rfl rfl g4 _ rfl HE.out.1 underE rfl sizeE ⟨rfl, HE.out.2⟩
    · go_enter Tryz.func45, Tryz.ntmps45
      go_upto_region 1 with fail
      generalize W.alloc _ = X at *
      generalize hg : W.heap.size = g4 at B0 ⊢
      have HG := hid hg
      clear hg
      go_wp2_with (first | (go_at_call 49; refine (HP.out _ HX.out).mono ?_; rintro x w1 ⟨rfl, rfl⟩; clear HP) | (refine wpList_build_zE rfl rfl ?_) | (refine wpList_store_st rfl 30 _ _ rfl g4 En.zero.cs rfl rfl (B0.out.get 0 rfl) sizeE rfl rfl ?_; intro w4 hc hb hs; have HE := hid (And.intro hc (B0.out.below.trans (hb.below (by have := HG.out; simp; omega) B0.out.below.size))); clear hc hb hs))
      exact ret_st2 rfl rfl g4 _ rfl HE.out.1 underE rfl sizeE ⟨rfl, HE.out.2⟩
set_option maxHeartbeats 8000000
set_option maxRecDepth 100000
theorem two_in (cur : List Value) (off : Nat) (x y : Value) (h : off + 2 ≤ cur.length) : cur.take off ++ ([x, y] ++ cur.drop (off + 2)) = (cur.set off x).set (off + 1) y := by
  apply List.ext_getElem?
  intro j
  rw [List.getElem?_set, List.getElem?_set, List.length_set]
  by_cases h1 : j < off
  · rw [List.getElem?_append_left (by simp; omega), List.getElem?_take_of_lt h1, if_neg (by omega), if_neg (by omega)]
  · rw [List.getElem?_append_right (by simp; omega)]
    have e : (cur.take off).length = off := by simp; omega
    rw [e]
    by_cases h2 : j = off
    · subst h2; simp; omega
    · by_cases h3 : j = off + 1
      · subst h3; simp; omega
      · rw [List.getElem?_append_right (by simp; omega), List.getElem?_drop, if_neg (by omega), if_neg (by omega)]
        congr 1
        simp
        omega
theorem wp_copy_two {op : Oper} {a : Act} {w : World} {K : Act → World → Prop} {Q : Exit → Act → World → Prop} (d s : Operand) (ho : op.op = .call { callee := .builtin .copy, args := #[d, s], argTypes := #[51, 51] })
    (g off n c gs : Nat) (hd : a.eval d = .slice (some ⟨g, off, none⟩) n c) (hs : a.eval s = .slice (some ⟨gs, 0, none⟩) 2 2) (t : TypeId) (cur : List Value) (hg : Cel w g t cur) (x y : Int) (hsrc : Cel w gs 162 (two x y)) (hfit : off + 2 ≤ cur.length) (hn : 2 ≤ n)
    (h : ∀ w', Cel w' g t ((cur.set off (.int .u32 x)).set (off + 1) (.int .u32 y)) → ButL [g] w w' → w'.heap.size = w.heap.size → K (a.put op.dst (goInt 2)) w') : op.wp Tryz.prog a w K Q := by
  have hrun := run_copy_row (P := Tryz.prog) w 51 51 op.type 43 g off n c ⟨gs, 0, none⟩ 2 2 cur.toArray t (two x y) under24 size32 hg (by show 2 = min 2 n; omega) hsrc.src (by simp [two]; exact hfit) (by simp [two, Value.oneCell'])
  unfold Oper.wp
  have e := two_in cur off (.int .u32 x) (.int .u32 y) hfit
  simp only [two, List.length_cons, List.length_nil, Nat.zero_add, Nat.reduceAdd, List.append_assoc, e] at hrun
  simp [execOp, ho, resolve, invoke, builtin, hd, hs, hrun, Result.andThen]
  exact h _ (hg.set _) (.setRow _ _ _ (by simp)) (by simp)
def DS.lay (d : DS) (k : Nat) (x : En) : DS := { d with E := d.E.set k x }
theorem DS.Ok.lay {d : DS} (h : d.Ok) (k : Nat) (x : En) (hx : x.ok = true) (ho : x.o < (d.m.ns : Int)) : (d.lay k x).Ok := by
  obtain ⟨a, b, c, e, f, g⟩ := h
  refine ⟨by simpa [DS.lay] using a, b, fun j hj => ?_, fun j hj => ?_, f, g⟩
  · by_cases hjk : j = k
    · subst hjk
      have hj' : j < d.E.length := by rw [a]; exact hj
      simp [DS.at, DS.lay, List.getD_eq_getElem?_getD, List.getElem?_set_self hj', hx]
    · simpa [DS.at, DS.lay, List.getD_eq_getElem?_getD, List.getElem?_set_ne (Ne.symm hjk)] using c j hj
  · by_cases hjk : j = k
    · subst hjk
      have hj' : j < d.E.length := by rw [a]; exact hj
      simpa [DS.at, DS.lay, List.getD_eq_getElem?_getD, List.getElem?_set_self hj'] using ho
    · simpa [DS.at, DS.lay, List.getD_eq_getElem?_getD, List.getElem?_set_ne (Ne.symm hjk)] using e j hj
theorem u32s_set2 (L : List Int) (j : Nat) (x y : Int) : ((u32s L).set j (.int .u32 x)).set (j + 1) (.int .u32 y) = u32s ((L.set j x).set (j + 1) y) := by rw [u32s_set, u32s_set]
theorem DB.laid {w w' : World} {p : Dp} {d : DS} (h : DB w p d) (k : Nat) (hk : k < d.m.ns) (x : En) (hx : x.ok = true) (ho : x.o < (d.m.ns : Int)) (hc : Cel w' p.gw 43 (((u32s d.ws).set (1 + 2 * k) (.int .u32 (e0 x))).set (1 + 2 * k + 1) (.int .u32 (e1 x)))) (hb : ButL [p.gw] w w') : DB w' p (d.lay k x) := by
  refine h.words ?_ hb (h.ok.lay k x hx ho)
  rw [u32s_set2] at hc
  rw [wdsOf_set d.b d.E k x (by rw [h.ok.len]; exact hk), show 2 + 2 * k = 1 + 2 * k + 1 by omega]
  exact hc
theorem lay_any (W : World) (p : Dp) (d : DS) (h : DB W p d) (k : Nat) (hk : k < d.m.ns) (x : En) (hx : x.ok = true) (ho : x.o < (d.m.ns : Int)) :
    Calls Tryz.prog 52 #[ptr p.g, .int .i64 (k : Int), x.v] W fun e W' => e = .returned (.tuple #[]) ∧ DB W' p (d.lay k x) ∧ ButL [p.gw] W W' := by
  have B0 := hid (bag_one W 30 x.cs)
  have HX := hid (h.on (below_one W (.cells x.cs.toArray 30)))
  have HE := hid (fun W => encode_any W x)
  have n64 := h.ok.n64
  have HP := hid (fun W => place_any W (k : Int) (by omega) (by omega))
  have HK : Hid (k < d.m.ns) := hid hk
  have HO := hid (And.intro hx ho)
  obtain ⟨N, hN⟩ : ∃ N, N = 1 + 2 * d.m.ns := ⟨_, rfl⟩
  have HN := hid hN
  have i0 : 0 ≤ 1 + 2 * (k : Int) := by omega
  have i1 : 1 + 2 * (k : Int) ≤ (N : Int) := by omega
  have i2 : ¬ (N = (1 + 2 * (k : Int)).toNat) := by omega
  clear h hk hx ho n64 hN
  simp only [ptr, En.v, twoV] at HE ⊢
  go_enter Tryz.func52, Tryz.ntmps52
  go_upto_region 1 with fail
  generalize W.alloc _ = X at *
  generalize hg : W.heap.size = g5 at B0 ⊢
  have HG := hid hg
  clear hg
  go_upto_region 2 with (first | (refine wpList_load_mid rfl 30 _ rfl g5 0 rfl _ _ ((B0.out.get 0 rfl).range) underE rfl (by rw [sizeE]; rfl) ?_) | (go_at_call 100; refine (HE.out _).mono ?_; rintro e w1 ⟨rfl, hb⟩; have B1 := hid (B0.out.on hb); have HX1 := hid (HX.out.on hb); clear hb) | (refine wpList_store_st rfl 162 _ _ rfl w1.heap.size (two (e0 x) (e1 x)) rfl rfl (Cel.new w1 162 (two 0 0)) sizeA rfl rfl ?_; intro w2 hc hb hs; have B2 := hid (B1.out.add hc hb); have HX2 := hid ((HX1.out.on (below_one w1 (.cells (two 0 0).toArray 162))).frame hb (fun q hq hm => by rw [List.mem_singleton] at hm; have := HX1.out.lt q hq; omega)); clear hc hb hs))
  clear B0 B1 HX HX1
  have HL : Hid (w1.heap.size ≠ p.gw) := hid (fun e => by have := (B2.out.get 0 rfl); rw [e] at this; exact absurd (this.ty HX2.out.wds) (by decide))
  generalize w1.heap.size = g6 at *
  have B3 := hid (B2.out.on (Below.refl _ _).drew)
  have HX3 := hid (HX2.out.on (Below.refl _ _).drew)
  clear B2 HX2
  refine wp_region_held_drew (S := fun w => (Cel w p.g 99 [ptr p.f.gm, .slice (some ⟨p.gw, 0, none⟩) (1 + 2 * d.m.ns) (1 + 2 * d.m.ns)] ∧ Mem w p.f d.m) ∧ Cel w g6 162 (two (e0 x) (e1 x))) (by kernel_rfl) ⟨⟨HX3.out.cel, HX3.out.mem⟩, B3.out.get 0 rfl⟩ (fun hHeld => ?_)
  refine tk 0 (some 13) (.pointer (some ⟨p.g, 0, none⟩)) ?_
  simp only [Act.put, tqA, tqZ, tqS]
  refine tk 1 (some 14) (.pointer (some ⟨p.g, 0, none⟩)) ?_
  simp only [Act.put, tqA, tqZ, tqS]
  refine tk 2 (some 15) (.pointer (some ⟨p.g, 1, none⟩)) ?_
  simp only [Act.put, tqA, tqZ, tqS]
  refine tk 3 (some 16) (.slice (some ⟨p.gw, 0, none⟩) N N) ?_ (hy := Or.inl ⟨by rfl, by intro w hSw; have hc := hSw.1.1.cell 1; rw [← HN.out] at hc; simp only [tqG, tqH] at hc; go_simp⟩)
  simp only [Act.put, tqA, tqZ, tqS]
  refine tk 4 (some 17) (.int .i64 (k : Int)) ?_
  simp only [Act.put, tqA, tqZ, tqS]
  refine tk 7 (some 20) (.slice (some ⟨g6, 0, none⟩) 2 2) ?_
  simp only [Act.put, tqA, tqZ, tqS]
  refine wpAnyH_ready (rs := [5]) (by kernel_rfl) (by simp) (AllReadyH.cons rfl (fun KQ hK => ?_) AllReadyH.nil)
  go_simp
  refine (HP.out _).mono ?_
  rintro e w4 ⟨rfl, rfl⟩
  go_wp2_with fail
  refine hK.out _ _ ⟨⟨HX3.out.cel, HX3.out.mem⟩, B3.out.get 0 rfl⟩ (fun hHeld => ?_)
  clear hK KQ
  try simp only [Act.put, tqA, tqZ, tqS]
  refine tk 6 (some 19) (.slice (some ⟨p.gw, (1 + 2 * (k : Int)).toNat, none⟩) (N - (1 + 2 * (k : Int)).toNat) (N - (1 + 2 * (k : Int)).toNat)) ?_
  simp only [Act.put, tqA, tqZ, tqS]
  refine wpAnyH_ready (rs := [8]) (by kernel_rfl) (by simp) (AllReadyH.cons rfl (fun KQ hK => ?_) AllReadyH.nil)
  rw [if_pos (by rfl)]
  refine wp_copy_two _ _ rfl p.gw (1 + 2 * (k : Int)).toNat (N - (1 + 2 * (k : Int)).toNat) (N - (1 + 2 * (k : Int)).toNat) g6 rfl rfl 43 (u32s d.ws) HX3.out.wds (e0 x) (e1 x) (B3.out.get 0 rfl) (by have := HK.out; rw [u32s_len, d.ws_len HX3.out.ok]; omega) (by have := HK.out; have := HN.out; omega) ?_
  intro w5 hc hb hs
  rw [show (1 + 2 * (k : Int)).toNat = 1 + 2 * k by omega] at hc
  have HZ := hid (HX3.out.laid k HK.out x HO.out.1 HO.out.2 hc hb)
  have HZB := hid ((ButL.of (G := [p.gw]) B3.out.below).trans hb)
  have HT : Hid (Cel w5 g6 162 (two (e0 x) (e1 x))) := hid ((B3.out.get 0 rfl).but hb (by rw [List.mem_singleton]; exact HL.out))
  clear hc hb hs
  refine hK.out _ _ ⟨⟨HZ.out.cel, HZ.out.mem⟩, HT.out⟩ (fun hHeld => ?_)
  clear hK KQ
  try simp only [Act.put, tqA]
  refine wpAnyH_done (by kernel_rfl) ?_ _
  go_wp2_with fail
  go_returns
  exact ⟨rfl, HZ.out, HZB.out⟩
end Go.Proofs.YtdfnbcbnmiohnaaGreatDoor
