/- A database: its state, where it lies. -/
import Derived.Test.YtajkhkaidjjioaaEg
import Derived.Test.YtajkhkaidjjioaaM5
import Derived.Test.YtajkhkaidjjioaaK2
namespace Go.Proofs.Ytajkhkaidjjioaa
open Go.RowKit
structure DS where
  m : MS
  b : Int
  E : List En
def ew (x : En) : List Int := [e0 x, e1 x]
def wdsOf (b : Int) (E : List En) : List Int := b :: E.flatMap ew
def DS.ws (d : DS) : List Int := wdsOf d.b d.E
def DS.at (d : DS) (p : Nat) : En := d.E.getD p En.zero
structure Dp where
  g : Nat
  gw : Nat
  f : Fp
/-- What a database's words may be. -/
structure DS.Ok (d : DS) : Prop where
  len : d.E.length = d.m.ns
  n64 : d.m.ns ≤ 64
  ok : ∀ k, k < d.m.ns → (d.at k).ok = true
  own : ∀ k, k < d.m.ns → (d.at k).o < (d.m.ns : Int)
  b0 : 0 ≤ d.b
  b1 : d.b ≤ 64
structure DB (w : World) (p : Dp) (d : DS) : Prop where
  mem : Mem w p.f d.m
  cel : Cel w p.g 92 [ptr p.f.gm, .slice (some ⟨p.gw, 0, none⟩) (1 + 2 * d.m.ns) (1 + 2 * d.m.ns)]
  wds : Cel w p.gw 27 (u32s d.ws)
  ok : d.Ok
def Dp.all (p : Dp) : List Nat := p.g :: p.gw :: p.f.all
/-- What a call that changes may change. -/
def Dp.w (p : Dp) : List Nat := p.gw :: p.f.w
theorem flat_len (E : List En) : (E.flatMap ew).length = 2 * E.length := by
  induction E with
  | nil => rfl
  | cons x E ih => simp only [List.flatMap_cons, List.length_append, ih, ew, List.length_cons, List.length_nil]; omega
theorem wdsOf_len (b : Int) (E : List En) : (wdsOf b E).length = 1 + 2 * E.length := by simp only [wdsOf, List.length_cons, flat_len]; omega
theorem DS.ws_len {d : DS} (h : d.Ok) : d.ws.length = 1 + 2 * d.m.ns := by rw [DS.ws, wdsOf_len, h.len]
theorem flat_at (E : List En) (k : Nat) (h : k < E.length) : (E.flatMap ew)[2 * k]? = some (e0 (E.getD k En.zero)) ∧ (E.flatMap ew)[2 * k + 1]? = some (e1 (E.getD k En.zero)) := by
  induction E generalizing k with
  | nil => simp at h
  | cons x E ih =>
    cases k with
    | zero => exact ⟨rfl, rfl⟩
    | succ k =>
      have := ih k (by simpa using h)
      simp only [List.flatMap_cons, ew, List.cons_append, List.nil_append]
      rw [show 2 * (k + 1) = 2 * k + 1 + 1 by omega]
      simpa using this
theorem wdsOf_at (b : Int) (E : List En) (k : Nat) (h : k < E.length) : (wdsOf b E)[1 + 2 * k]? = some (e0 (E.getD k En.zero)) ∧ (wdsOf b E)[2 + 2 * k]? = some (e1 (E.getD k En.zero)) := by
  have := flat_at E k h
  rw [wdsOf, show 1 + 2 * k = 2 * k + 1 by omega, show 2 + 2 * k = 2 * k + 1 + 1 by omega]
  simpa using this
theorem flat_set (E : List En) (k : Nat) (x : En) (h : k < E.length) : (E.set k x).flatMap ew = ((E.flatMap ew).set (2 * k) (e0 x)).set (2 * k + 1) (e1 x) := by
  induction E generalizing k with
  | nil => simp at h
  | cons y E ih =>
    cases k with
    | zero => simp [ew]
    | succ k =>
      have := ih k (by simpa using h)
      simp only [List.set_cons_succ, List.flatMap_cons, this, ew, List.cons_append, List.nil_append]
      rw [show 2 * (k + 1) = 2 * k + 1 + 1 by omega, show 2 * k + 1 + 1 + 1 = (2 * k + 1) + 1 + 1 by omega]
      simp
theorem wdsOf_set (b : Int) (E : List En) (k : Nat) (x : En) (h : k < E.length) : wdsOf b (E.set k x) = ((wdsOf b E).set (1 + 2 * k) (e0 x)).set (2 + 2 * k) (e1 x) := by
  rw [wdsOf, wdsOf, flat_set E k x h, show 1 + 2 * k = 2 * k + 1 by omega, show 2 + 2 * k = 2 * k + 1 + 1 by omega]
  simp
theorem ws_range {b : Int} (h0 : 0 ≤ b) (h1 : b ≤ 64) (E : List En) : ∀ x ∈ wdsOf b E, 0 ≤ x ∧ x < 4294967296 := by
  intro x hx
  simp only [wdsOf, List.mem_cons, List.mem_flatMap, ew, List.not_mem_nil, or_false] at hx
  rcases hx with rfl | ⟨y, _, rfl | rfl⟩
  · omega
  · exact e0_range y
  · exact e1_range y
theorem DB.lt {w : World} {p : Dp} {d : DS} (h : DB w p d) : ∀ k ∈ p.all, k < w.heap.size := by
  intro k hk
  simp only [Dp.all, List.mem_cons] at hk
  rcases hk with rfl | rfl | hk
  · exact h.cel.lt
  · exact h.wds.lt
  · exact h.mem.lt k hk
theorem DB.frame {w w' : World} {p : Dp} {d : DS} {G : List Nat} (h : DB w p d) (hb : ButL G w w') (hd : ∀ k ∈ p.all, k ∉ G) : DB w' p d :=
  ⟨h.mem.frame hb (fun k hk => hd k (by simp [Dp.all, hk])), h.cel.but hb (hd _ (by simp [Dp.all])), h.wds.but hb (hd _ (by simp [Dp.all])), h.ok⟩
theorem DB.on {w w' : World} {p : Dp} {d : DS} (h : DB w p d) (hb : Below w.heap.size w w') : DB w' p d := h.frame (G := []) (.of hb) (by simp)
/-- The database's own blocks are none of the memory's. -/
theorem Mem.ty_w {w : World} {f : Fp} {m : MS} (h : Mem w f m) : ∀ k ∈ f.all, ∀ t cs, Cel w k t cs → t = 98 ∨ t = 139 ∨ t = 141 := by
  intro k hk t cs hc
  simp only [Fp.all, List.mem_cons] at hk
  rcases hk with rfl | rfl | rfl | hk
  · exact .inl (hc.ty h.cel)
  · exact .inr (.inl (hc.ty h.sec))
  · exact .inr (.inl (hc.ty h.ins))
  · obtain ⟨i, hi, rfl⟩ := List.mem_iff_getElem.1 hk
    have := h.pg i (by rw [← h.len]; exact hi)
    simp only [Fp.b, List.getD_eq_getElem?_getD, List.getElem?_eq_getElem hi, Option.getD_some] at this
    exact .inr (.inr (hc.ty this))
theorem Mem.off {w : World} {f : Fp} {m : MS} (h : Mem w f m) {g : Nat} {t : TypeId} {cs : List Value} (hc : Cel w g t cs) (ht : t ≠ 98 ∧ t ≠ 139 ∧ t ≠ 141) : g ∉ f.all := fun hm => by
  rcases h.ty_w g hm t cs hc with e | e | e
  · exact ht.1 e
  · exact ht.2.1 e
  · exact ht.2.2 e
theorem Fp.w_all {f : Fp} {k : Nat} (h : k ∈ f.w) : k ∈ f.all := by
  simp only [Fp.w, Fp.all, List.mem_cons] at h ⊢
  rcases h with h | h <;> simp [h]
/-- The memory has changed, by a call of its own. -/
theorem DB.memory {w w' : World} {p : Dp} {d : DS} {m' : MS} (h : DB w p d) (hm : Mem w' p.f m') (hb : ButL p.f.w w w') (hn : m'.ns = d.m.ns) : DB w' p { d with m := m' } :=
  ⟨hm, by simpa only [hn] using h.cel.but hb (fun hk => h.mem.off h.cel (by decide) (Fp.w_all hk)), h.wds.but hb (fun hk => h.mem.off h.wds (by decide) (Fp.w_all hk)), by
    obtain ⟨a, b, c, e, f, g⟩ := h.ok
    exact ⟨by simpa only [hn] using a, by simpa only [hn] using b, fun k hk => c k (by have hk' : k < m'.ns := hk; omega), fun k hk => by
      have hk' : k < m'.ns := hk
      have := e k (by omega)
      show (d.at k).o < (m'.ns : Int)
      rw [hn]; exact this, f, g⟩⟩
/-- The words have changed. -/
theorem DB.words {w w' : World} {p : Dp} {d : DS} {b' : Int} {E' : List En} (h : DB w p d) (hc : Cel w' p.gw 27 (u32s (wdsOf b' E'))) (hb : ButL [p.gw] w w') (hk : DS.Ok { d with b := b', E := E' }) : DB w' p { d with b := b', E := E' } := by
  have h1 : p.g ∉ [p.gw] := fun hm => by rw [List.mem_singleton] at hm; have := h.cel; rw [hm] at this; exact absurd (this.ty h.wds) (by decide)
  refine ⟨h.mem.frame hb (fun k hk hm => ?_), h.cel.but hb h1, hc, hk⟩
  rw [List.mem_singleton] at hm
  subst hm
  exact h.mem.off h.wds (by decide) hk
/-- A database's cells, as they are looked at; of words that were handed in, too. -/
structure DV (w : World) (g gm gw off n c : Nat) (L : List Int) : Prop where
  cel : Cel w g 92 [ptr gm, .slice (some ⟨gw, off, none⟩) n c]
  rng : w.rangeAt gw off (u32s L)
  len : L.length = n
  lt : gw < w.heap.size
theorem DV.on {w w' : World} {g gm gw off n c : Nat} {L : List Int} (h : DV w g gm gw off n c L) (hb : Below w.heap.size w w') : DV w' g gm gw off n c L :=
  ⟨h.cel.on hb, fun j v hv => by
    have := h.rng j v hv
    unfold World.cell? at this ⊢
    rw [hb.block gw h.lt]
    exact this, h.len, by have := hb.size; have := h.lt; omega⟩
theorem DV.at {w : World} {g gm gw off n c : Nat} {L : List Int} (h : DV w g gm gw off n c L) (j : Nat) (x : Int) (hj : L[j]? = some x) : w.cell? ⟨gw, off + j, none⟩ = some (.int .u32 x) := h.rng j _ (by rw [u32s, List.getElem?_map, hj]; rfl)
theorem DB.dv {w : World} {p : Dp} {d : DS} (h : DB w p d) : DV w p.g p.f.gm p.gw 0 (1 + 2 * d.m.ns) (1 + 2 * d.m.ns) d.ws := ⟨h.cel, h.wds.range, d.ws_len h.ok, h.wds.lt⟩
end Go.Proofs.Ytajkhkaidjjioaa
