import Derived.Test.YtmomidkodjihjaaDoorP30
import Derived.Test.YtmomidkodjihjaaDoorP01
namespace Go.Proofs.YtmomidkodjihjaaDoor
open Go.RowKit
open H
set_option maxRecDepth 100000
set_option maxHeartbeats 8000000
attribute [-simp] Tryd.isAgg44 Tryd.sizeOf44 Tryd.zeroValue44
theorem cs_len (x : Ov) : x.cs.length = 3 := rfl
theorem flat_set (lo : List Ov) (k : Nat) (x x' : Ov) (i : Nat) (v : Value) (hx : lo[k]? = some x) (hi : i < 3) (hc : x'.cs = x.cs.set i v) : (lo.flatMap Ov.cs).set (k * 3 + i) v = (lo.set k x').flatMap Ov.cs := by
  induction lo generalizing k with
  | nil => simp at hx
  | cons y lo ih =>
    rw [List.flatMap_cons]
    cases k with
    | zero =>
      simp only [List.getElem?_cons_zero, Option.some.injEq] at hx
      subst hx
      rw [Nat.zero_mul, Nat.zero_add, List.set_append_left _ _ (by rw [cs_len]; exact hi), List.set_cons_zero, List.flatMap_cons, hc]
    | succ k =>
      rw [List.set_append_right _ _ (by rw [cs_len]; omega), cs_len, show (k + 1) * 3 + i - 3 = k * 3 + i by omega, ih k (by simpa using hx), List.set_cons_succ, List.flatMap_cons]
theorem flat_same (lo : List Ov) (k : Nat) (x x' : Ov) (hx : lo[k]? = some x) (hc : x'.cs = x.cs) : (lo.set k x').flatMap Ov.cs = lo.flatMap Ov.cs := by
  induction lo generalizing k with
  | nil => simp at hx
  | cons y lo ih =>
    cases k with
    | zero =>
      simp only [List.getElem?_cons_zero, Option.some.injEq] at hx
      subst hx
      rw [List.set_cons_zero, List.flatMap_cons, List.flatMap_cons, hc]
    | succ k => rw [List.set_cons_succ, List.flatMap_cons, List.flatMap_cons, ih k (by simpa using hx)]
theorem mrow_cell {W w : World} {R : List Rr} {H : List Hk} (h : KS W w R H) {g mn mc : Nat} {lo : List Ov} (hm : mrow (.slice (some ⟨g, 0, none⟩) mn mc) lo 50 ∈ R) (hmn : lo.length + 50 = mn) {k : Nat} {x : Ov} (hx : lo[k]? = some x) : w.rangeAt g (k * 3) x.cs := by
  have h1 : w.ownsRow W.heap.size 43 3 (.slice (some ⟨g, 0, none⟩) mn mc) (lo.length + 50) (lo.flatMap Ov.cs ++ t50 50) := h.inn hm
  rw [hmn] at h1
  intro j u hj
  have hj3 : j < 3 := by have := (List.getElem?_eq_some_iff.1 hj).1; simpa [Ov.cs] using this
  have hk := (List.getElem?_eq_some_iff.1 hx).1
  have e := flat_get lo k j x hx hj3
  have hl : k * 3 + j < (lo.flatMap Ov.cs).length := by
    rcases Nat.lt_or_ge (k * 3 + j) (lo.flatMap Ov.cs).length with h | h
    · exact h
    · rw [List.getElem?_eq_none h] at e; rw [← e] at hj; cases hj
  have := own_rng h1 (k * 3 + j) u (by rw [List.getElem?_append_left hl, e]; exact hj)
  rw [Nat.zero_add] at this
  exact this
theorem turn_ws {W w : World} {R : List Rr} {H : List Hk} {v vo : Value} {lo lo0 : List Ov} (h : KS W w (mrow v lo 50 :: orow vo lo0 :: (lo.map wrow ++ R)) H) {k : Nat} {x : Ov} (hx : lo[k]? = some x) {gx : Nat} (hp : x.p = some ⟨gx, 0, none⟩) (hlen : 0 < x.o.ws.length) (u : Int) :
    KS W (w.setCell ⟨gx, 0, none⟩ (.int .u32 u)) (mrow v (lo.set k ⟨⟨x.o.k, x.o.a, x.o.ws.set 0 u⟩, x.p, x.c⟩) 50 :: orow vo lo0 :: ((lo.set k ⟨⟨x.o.k, x.o.a, x.o.ws.set 0 u⟩, x.p, x.c⟩).map wrow ++ R)) H := by
  have hk := (List.getElem?_eq_some_iff.1 hx).1
  have hz : (mrow v lo 50 :: orow vo lo0 :: (lo.map wrow ++ R))[k + 2]? = some (wrow x) := by
    rw [List.getElem?_cons_succ, List.getElem?_cons_succ, List.getElem?_append_left (by rw [List.length_map]; exact hk), List.getElem?_map, hx]
    rfl
  have ho : w.ownsRow W.heap.size 24 1 (.slice x.p (x.o.ws.length + 100) x.c) (x.o.ws.length + 100) (x.o.ws.map (Value.int .u32) ++ rp 100 [mk]) := h.mem hz
  rw [hp] at ho
  have hs := own_setc ho 0 (.int .u32 u)
  rw [List.set_append_left _ _ (by rw [List.length_map]; exact hlen), ← List.map_set] at hs
  have := h.wr (k + 2) hz (wrow ⟨⟨x.o.k, x.o.a, x.o.ws.set 0 u⟩, x.p, x.c⟩) (g := gx) (by show (Value.slice x.p _ _).ownBlock = _; rw [hp]; rfl) (by show (Value.slice x.p _ _).ownBlock = _; rw [hp]; rfl) (but_setCell w gx 0 (.int .u32 u)) (by
    show World.ownsRow _ _ 24 1 (.slice x.p ((x.o.ws.set 0 u).length + 100) x.c) ((x.o.ws.set 0 u).length + 100) ((x.o.ws.set 0 u).map (Value.int .u32) ++ rp 100 [mk])
    rw [List.length_set, hp]
    exact hs)
  rw [List.set_cons_succ, List.set_cons_succ, List.set_append_left _ _ (by rw [List.length_map]; exact hk), ← List.map_set] at this
  have em : mrow v lo 50 = mrow v (lo.set k ⟨⟨x.o.k, x.o.a, x.o.ws.set 0 u⟩, x.p, x.c⟩) 50 := by
    unfold mrow
    rw [List.length_set, flat_same lo k x _ hx (by simp [Ov.cs])]
  rw [em] at this
  exact this
theorem turn_a {W w : World} {R : List Rr} {H : List Hk} {gm mn mc : Nat} {vo : Value} {lo lo0 : List Ov} (h : KS W w (mrow (.slice (some ⟨gm, 0, none⟩) mn mc) lo 50 :: orow vo lo0 :: (lo.map wrow ++ R)) H) (hmn : lo.length + 50 = mn) {k : Nat} {x : Ov} (hx : lo[k]? = some x) (u : Int) :
    KS W (w.setCell ⟨gm, k * 3 + 1, none⟩ (.int .u32 u)) (mrow (.slice (some ⟨gm, 0, none⟩) mn mc) (lo.set k ⟨⟨x.o.k, u, x.o.ws⟩, x.p, x.c⟩) 50 :: orow vo lo0 :: ((lo.set k ⟨⟨x.o.k, u, x.o.ws⟩, x.p, x.c⟩).map wrow ++ R)) H := by
  have hk := (List.getElem?_eq_some_iff.1 hx).1
  have ho : w.ownsRow W.heap.size 43 3 (.slice (some ⟨gm, 0, none⟩) mn mc) (lo.length + 50) (lo.flatMap Ov.cs ++ t50 50) := h.mem (i := 0) rfl
  rw [hmn] at ho
  have hs := own_setc ho (k * 3 + 1) (.int .u32 u)
  have e := flat_get lo k 1 x hx (by decide)
  have hl : k * 3 + 1 < (lo.flatMap Ov.cs).length := by
    rcases Nat.lt_or_ge (k * 3 + 1) (lo.flatMap Ov.cs).length with h | h
    · exact h
    · rw [List.getElem?_eq_none h] at e; cases e
  rw [List.set_append_left _ _ hl, flat_set lo k x ⟨⟨x.o.k, u, x.o.ws⟩, x.p, x.c⟩ 1 _ hx (by decide) rfl] at hs
  have := h.wr 0 rfl (mrow (.slice (some ⟨gm, 0, none⟩) mn mc) (lo.set k ⟨⟨x.o.k, u, x.o.ws⟩, x.p, x.c⟩) 50) (g := gm) rfl rfl (but_setCell w gm (k * 3 + 1) (.int .u32 u)) (by
    show World.ownsRow _ _ 43 3 (.slice (some ⟨gm, 0, none⟩) mn mc) ((lo.set k _).length + 50) _
    rw [List.length_set, hmn]
    exact hs)
  rw [List.set_cons_zero] at this
  have ew : lo.map wrow = (lo.set k ⟨⟨x.o.k, u, x.o.ws⟩, x.p, x.c⟩).map wrow := by
    have hkl : k < (lo.map wrow).length := by rw [List.length_map]; exact hk
    have e2 : wrow ⟨⟨x.o.k, u, x.o.ws⟩, x.p, x.c⟩ = (lo.map wrow)[k] := by
      rw [List.getElem_map, (List.getElem?_eq_some_iff.1 hx).2]
      rfl
    rw [List.map_set, e2, List.set_getElem_self]
  rw [← ew]
  exact this
def wr1 (x : Ov) : Rr := ⟨24, 1, .slice x.p x.o.ws.length x.c, x.o.ws.length, x.o.ws.map (Value.int .u32)⟩
theorem blk_cel2 {w : World} {g t : Nat} {L : List Int} (h : Blk w g .u32 t L) : Cel w g t (L.map (Value.int .u32)) := h
theorem box_below2 {w w' : World} (ob : Obj) (hb : But w.heap.size (w.alloc ob) w') : Below w.heap.size w w' := (below_one w ob).trans (hb.below (Nat.le_refl _) (by simp))
theorem wpList_load_b2 {P : Program} {ops : Array Oper} {rest : List Oper} {o : Oper} {a : Act} {w : World} {Q : Exit → Act → World → Prop} (hw : Region.wanted o (yielded ops a.tmps) = true) (ty : TypeId) (x : Operand) (ho : o.op = .load ty x)
    (g : Nat) (L : List Int) (hx : a.eval x = .pointer (some ⟨g, 0, none⟩)) {e t : TypeId} {n : Nat} (hg : Blk w g .u32 e L) (hu : P.underlying ty = some (.array n t)) (hi : (P.info? ty).map (·.size) = some L.length)
    (h : wpList P ops Q rest (a.put o.dst (.agg (L.map (Value.int .u32)).toArray)) w) : wpList P ops Q (o :: rest) a w := by
  rw [wpList, if_pos hw]
  exact .inl (wp_load_mid ty x ho g 0 hx _ _ (cel_range (blk_cel2 hg)) hu rfl (by rw [List.length_map]; exact hi) h)
theorem ol_pre {w : World} {ao : Option Addr} {L M : List Ov} (h : OL w ao (L ++ M)) : OL w ao L := by
  refine ⟨?_, fun x hx => h.ws x (List.mem_append_left _ hx)⟩
  rcases h.row with h0 | ⟨b, off, h1, h2, h3⟩
  · exact .inl (List.append_eq_nil_iff.1 h0).1
  · exact .inr ⟨b, off, h1, h2, fun i x hx => h3 i x (by rw [List.getElem?_append_left (List.getElem?_eq_some_iff.1 hx).1]; exact hx)⟩
theorem ok_set {o : MOp} (h : o.Ok) (u : Int) : (⟨o.k, o.a, o.ws.set 0 u⟩ : MOp).Ok := ⟨h.1, h.2.1, by rw [List.length_set]; exact h.2.2⟩
theorem ok_a {o : MOp} (h : o.Ok) (u : Int) : (⟨o.k, u, o.ws⟩ : MOp).Ok := ⟨h.1, h.2.1, h.2.2⟩
theorem ok_len {o : MOp} (h : o.Ok) : o.ws.length ≤ 1024 := by rw [h.2.2]; unfold pgN; split <;> omega
theorem set_all {P : Ov → Prop} {lo : List Ov} (h : ∀ x ∈ lo, P x) (k : Nat) (y : Ov) (hy : P y) : ∀ x ∈ lo.set k y, P x := fun x hx => by
  rcases List.mem_or_eq_of_mem_set hx with hx | rfl
  · exact h x hx
  · exact hy
theorem enc_bnd (l : List Ov) (h : ∀ x ∈ l, x.o.Ok) (hn : l.length ≤ 100) : (enc (l.map Ov.o)).length ≤ 262144 := by
  have := enc_len_le (l.map Ov.o) (fun o ho => by obtain ⟨x, hx, rfl⟩ := List.mem_map.1 ho; exact h x hx)
  rw [List.length_map] at this
  omega
theorem anew_any (W w : World) (hT : Tab W) (h2 : 1 < W.heap.size) (R : List Rr) (H : List Hk) (lo lo0 : List Ov) (mo : Option Addr) (n mc : Nat) (vo : Value) (h : KS W w (mrow (.slice mo (n + 50) mc) lo 50 :: orow vo lo0 :: (lo.map wrow ++ R)) H) (hn : lo.length = n) (hok : ∀ x ∈ lo, x.o.Ok) (hb : n ≤ 100) :
    Calls Tryd.prog 27 #[.slice mo n mc] w fun e w' => e = .returned (.bool true) ∧ KS W w' R H := by
  have n1 : (n : Int) ≤ 100 := by omega
  have hm : w.ownsRow W.heap.size 43 3 (.slice mo (n + 50) mc) (lo.length + 50) (lo.flatMap Ov.cs ++ t50 50) := h.mem (i := 0) rfl
  rw [hn] at hm
  obtain ⟨gm, rfl⟩ := own_some hm (by omega)
  have HK0 := hid h
  have HOk0 := hid hok
  have HN0 := hid hn
  have HT := hid (And.intro hT h2)
  clear h hok hn hm hT h2
  go_enter Tryd.func27, Tryd.ntmps27
  go_wp2_with fail
  go_loopw [3] (fun i wr => ∃ (k : Nat) (lo : List Ov), k ≤ n ∧ i = .int .i64 (k : Int) ∧ Hid (lo.length = n) ∧ Hid (∀ x ∈ lo, x.o.Ok) ∧ Hid (KS W wr (mrow (.slice (some ⟨gm, 0, none⟩) (n + 50) mc) lo 50 :: orow vo lo0 :: (lo.map wrow ++ R)) H)) (fun i _ => n - (intOf i).toNat)
  case atStart => exact ⟨0, lo, Nat.zero_le _, rfl, HN0, HOk0, HK0⟩
  case round =>
    clear HK0 HOk0 HN0 lo
    obtain ⟨k, lo, hk, rfl, HN, HOk, HK⟩ := hrel
    by_cases hlt : k < n
    · have q1 : (k : Int) < (n : Int) := by omega
      obtain ⟨x, hx⟩ : ∃ x, lo[k]? = some x := ⟨_, List.getElem?_eq_getElem (by rw [HN.out]; exact hlt)⟩
      have hok := HOk.out x (List.mem_of_getElem? hx)
      have hcell := mrow_cell HK.out (g := gm) (.head _) (by rw [HN.out]) hx
      have c0 : wr.cell? ⟨gm, k * 3, none⟩ = some (.int .i64 x.o.k) := by simpa using hcell 0 _ rfl
      have c1 : wr.cell? ⟨gm, k * 3 + 1, none⟩ = some (.int .u32 x.o.a) := hcell 1 _ rfl
      have c2 : wr.cell? ⟨gm, k * 3 + 2, none⟩ = some (.slice x.p x.o.ws.length x.c) := hcell 2 _ rfl
      have HX := hid hx
      by_cases hw : 0 < x.o.ws.length
      · have q2 : (0 : Int) < (x.o.ws.length : Int) := by omega
        have hwr : wr.ownsRow W.heap.size 24 1 (.slice x.p (x.o.ws.length + 100) x.c) (x.o.ws.length + 100) (x.o.ws.map (Value.int .u32) ++ rp 100 [mk]) := HK.out.inn (r := wrow x) (.tail _ (.tail _ (List.mem_append_left _ (List.mem_map_of_mem (List.mem_of_getElem? hx)))))
        obtain ⟨gx, hp⟩ := own_some hwr (by omega)
        rw [hp] at hwr c2
        obtain ⟨y, hy⟩ : ∃ y, x.o.ws.getD 0 0 = y := ⟨_, rfl⟩
        have cy := own_rng hwr 0 (.int .u32 y) (by rw [List.getElem?_append_left (by rw [List.length_map]; exact hw), List.getElem?_map, List.getElem?_eq_getElem hw, ← hy, List.getD_eq_getElem?_getD, List.getElem?_eq_getElem hw]; rfl)
        have fy := own_free hwr 0
        rw [Nat.add_zero] at cy
        have HP := hid hp
        clear hcell hwr hy hp hok c0 c1
        go_upto_region 5 with fail
        have HK2 := hid (HK.out.on (Below.refl _ _).drew)
        have HY : Hid (wr.drew.cell? ⟨gx, 0, none⟩ = some (.int .u32 y) ∧ wr.drew.frozen? ⟨gx, 0, none⟩ = false ∧ wr.drew.cell? ⟨gm, k * 3 + 2, none⟩ = some (.slice (some ⟨gx, 0, none⟩) x.o.ws.length x.c)) := hid ⟨cy, fy, c2⟩
        have HST := hid (fun (w : World) (h : KS W w (mrow (.slice (some ⟨gm, 0, none⟩) (n + 50) mc) lo 50 :: orow vo lo0 :: (lo.map wrow ++ R)) H) => (by
          have hh := turn_ws h HX.out HP.out hw (bits .xor .u32 IntKind.u32.max y)
          refine ⟨?_, hh⟩
          have := mrow_cell hh (g := gm) (.head _) (by rw [List.length_set, HN.out]) (k := k) (x := ⟨⟨x.o.k, x.o.a, x.o.ws.set 0 (bits .xor .u32 IntKind.u32.max y)⟩, x.p, x.c⟩) (List.getElem?_set_self (List.getElem?_eq_some_iff.1 HX.out).1) 2 _ rfl
          rw [this]
          show some (Value.slice x.p (x.o.ws.set 0 _).length x.c) = _
          rw [List.length_set, HP.out] : (w.setCell ⟨gx, 0, none⟩ (.int .u32 (bits .xor .u32 IntKind.u32.max y))).cell? ⟨gm, k * 3 + 2, none⟩ = some (.slice (some ⟨gx, 0, none⟩) x.o.ws.length x.c) ∧ KS W (w.setCell ⟨gx, 0, none⟩ (.int .u32 (bits .xor .u32 IntKind.u32.max y))) (mrow (.slice (some ⟨gm, 0, none⟩) (n + 50) mc) (lo.set k ⟨⟨x.o.k, x.o.a, x.o.ws.set 0 (bits .xor .u32 IntKind.u32.max y)⟩, x.p, x.c⟩) 50 :: orow vo lo0 :: ((lo.set k ⟨⟨x.o.k, x.o.a, x.o.ws.set 0 (bits .xor .u32 IntKind.u32.max y)⟩, x.p, x.c⟩).map wrow ++ R)) H))
        clear HK cy fy c2
        refine wp_region_held_drew (S := fun w => w.cell? ⟨gm, k * 3 + 2, none⟩ = some (.slice (some ⟨gx, 0, none⟩) x.o.ws.length x.c)) (by kernel_rfl) HY.out.2.2 (fun hHeld => ?_)
        generalize wr.drew = w3 at *
        refine tk 0 ⟨some 29, .move (.tmp 0), 25, "outright.go:212", #[], none⟩ (.slice (some ⟨gm, 0, none⟩) n mc) ?_
        simp only [Act.put, List.setIfInBounds_toArray, List.set_cons_zero, List.set_cons_succ]
        refine tk 1 ⟨some 30, .move (.tmp 3), 3, "outright.go:212", #[], none⟩ (.int .i64 (k : Int)) ?_
        simp only [Act.put, List.setIfInBounds_toArray, List.set_cons_zero, List.set_cons_succ]
        refine tk 2 ⟨some 31, .indexAddr 25 (.tmp 29) (.tmp 30), 0, "outright.go:212", #[⟨0, .data⟩, ⟨1, .data⟩], none⟩ (.pointer (some ⟨gm, k * 3, none⟩)) ?_
        simp only [Act.put, List.setIfInBounds_toArray, List.set_cons_zero, List.set_cons_succ]
        refine tk 3 ⟨some 32, .fieldAddr 43 (.tmp 31) 2, 0, "outright.go:212", #[⟨2, .data⟩], none⟩ (.pointer (some ⟨gm, k * 3 + 2, none⟩)) ?_
        simp only [Act.put, List.setIfInBounds_toArray, List.set_cons_zero, List.set_cons_succ]
        refine tk 4 ⟨some 33, .load 22 (.tmp 32), 22, "outright.go:212", #[⟨3, .data⟩], none⟩ (.slice (some ⟨gx, 0, none⟩) x.o.ws.length x.c) ?_ (hy := Or.inl ⟨by rfl, by intro w hSw; have hc := hSw; go_simp⟩)
        simp only [Act.put, List.setIfInBounds_toArray, List.set_cons_zero, List.set_cons_succ]
        refine tk 5 ⟨some 34, .move (.tmp 0), 25, "outright.go:212", #[], none⟩ (.slice (some ⟨gm, 0, none⟩) n mc) ?_
        simp only [Act.put, List.setIfInBounds_toArray, List.set_cons_zero, List.set_cons_succ]
        refine tk 6 ⟨some 35, .move (.tmp 3), 3, "outright.go:212", #[], none⟩ (.int .i64 (k : Int)) ?_
        simp only [Act.put, List.setIfInBounds_toArray, List.set_cons_zero, List.set_cons_succ]
        refine tk 7 ⟨some 36, .indexAddr 25 (.tmp 34) (.tmp 35), 0, "outright.go:212", #[⟨5, .data⟩, ⟨6, .data⟩], none⟩ (.pointer (some ⟨gm, k * 3, none⟩)) ?_
        simp only [Act.put, List.setIfInBounds_toArray, List.set_cons_zero, List.set_cons_succ]
        refine tk 8 ⟨some 37, .fieldAddr 43 (.tmp 36) 2, 0, "outright.go:212", #[⟨7, .data⟩], none⟩ (.pointer (some ⟨gm, k * 3 + 2, none⟩)) ?_
        simp only [Act.put, List.setIfInBounds_toArray, List.set_cons_zero, List.set_cons_succ]
        refine tk 9 ⟨some 38, .load 22 (.tmp 37), 22, "outright.go:212", #[⟨8, .data⟩], none⟩ (.slice (some ⟨gx, 0, none⟩) x.o.ws.length x.c) ?_ (hy := Or.inl ⟨by rfl, by intro w hSw; have hc := hSw; go_simp⟩)
        simp only [Act.put, List.setIfInBounds_toArray, List.set_cons_zero, List.set_cons_succ]
        refine tk 10 ⟨some 39, .indexAddr 22 (.tmp 38) (.const (.int .i64 0)), 0, "outright.go:212", #[⟨9, .data⟩], none⟩ (.pointer (some ⟨gx, 0, none⟩)) ?_
        simp only [Act.put, List.setIfInBounds_toArray, List.set_cons_zero, List.set_cons_succ]
        refine wpAnyH_ready (rs := [11]) (by kernel_rfl) (by simp) (AllReadyH.cons (o := ⟨some 40, .load 24 (.tmp 39), 24, "outright.go:212", #[⟨10, .data⟩], none⟩) rfl (fun KQ hK => ?_) AllReadyH.nil)
        have hcc := HY.out.1; go_simp; clear hcc
        refine hK.out _ _ HY.out.2.2 (fun hHeld => ?_)
        clear hK KQ
        try simp only [Act.put, List.setIfInBounds_toArray, List.set_cons_zero, List.set_cons_succ]
        refine tk 12 ⟨some 41, .unOp .xor 24 (.tmp 40), 24, "outright.go:212", #[⟨11, .data⟩], none⟩ (.int .u32 (bits .xor .u32 IntKind.u32.max y)) ?_ (hy := Or.inl ⟨by rfl, by intro w hSw; have hs : IntKind.u32.signed = false := rfl; go_simp⟩)
        simp only [Act.put, List.setIfInBounds_toArray, List.set_cons_zero, List.set_cons_succ]
        refine tk 13 ⟨some 42, .indexAddr 22 (.tmp 33) (.const (.int .i64 0)), 0, "outright.go:212", #[⟨4, .data⟩, ⟨0, .phase⟩, ⟨1, .phase⟩, ⟨2, .phase⟩, ⟨3, .phase⟩, ⟨4, .phase⟩, ⟨5, .phase⟩, ⟨6, .phase⟩, ⟨7, .phase⟩, ⟨8, .phase⟩, ⟨9, .phase⟩, ⟨10, .phase⟩, ⟨11, .phase⟩, ⟨12, .phase⟩], none⟩ (.pointer (some ⟨gx, 0, none⟩)) ?_
        simp only [Act.put, List.setIfInBounds_toArray, List.set_cons_zero, List.set_cons_succ]
        refine wpAnyH_ready (rs := [14]) (by kernel_rfl) (by simp) (AllReadyH.cons (o := ⟨none, .store 24 (.tmp 42) (.tmp 41), 0, "outright.go:212", #[⟨13, .data⟩, ⟨12, .data⟩, ⟨0, .phase⟩, ⟨1, .phase⟩, ⟨2, .phase⟩, ⟨3, .phase⟩, ⟨4, .phase⟩, ⟨5, .phase⟩, ⟨6, .phase⟩, ⟨7, .phase⟩, ⟨8, .phase⟩, ⟨9, .phase⟩, ⟨10, .phase⟩, ⟨11, .phase⟩, ⟨12, .phase⟩], none⟩) rfl (fun KQ hK => ?_) AllReadyH.nil)
        have hcc := HY.out.1; have hcf := HY.out.2.1; go_simp; clear hcc hcf
        have HK3 := hid (HST.out _ HK2.out)
        refine hK.out _ _ HK3.out.1 (fun hHeld => ?_)
        clear hK KQ
        try simp only [Act.put]
        refine wpAnyH_done (by kernel_rfl) ?_ _
        go_wp2_with fail
        go_roundw
        case measure => simp [intOf] <;> omega
        case rel => exact ⟨k + 1, _, by omega, by simp, hid (by rw [List.length_set]; exact HN.out), hid (set_all HOk.out k _ (ok_set (HOk.out x (List.mem_of_getElem? HX.out)) _)), hid HK3.out.2⟩
      · have hw0 : x.o.ws.length = 0 := by omega
        have q2 : ¬ ((0 : Int) < (x.o.ws.length : Int)) := by omega
        have f1 := own_free (g := gm) (n := lo.length + 50) (c := mc) (by have : wr.ownsRow W.heap.size 43 3 (.slice (some ⟨gm, 0, none⟩) (n + 50) mc) (lo.length + 50) (lo.flatMap Ov.cs ++ t50 50) := HK.out.mem (i := 0) rfl; rw [HN.out] at this ⊢; exact this) (k * 3 + 1)
        have HK3 := hid (turn_a HK.out (by rw [HN.out]) hx (bits .xor .u32 x.o.a 4))
        rw [hw0] at c2
        clear hcell hok c0 HK q2
        go_wp2_with fail
        go_roundw
        case measure => simp [intOf] <;> omega
        case rel => exact ⟨k + 1, lo.set k ⟨⟨x.o.k, bits .xor .u32 x.o.a 4, x.o.ws⟩, x.p, x.c⟩, by omega, by simp, hid (by rw [List.length_set]; exact HN.out), hid (set_all HOk.out k _ (ok_a (HOk.out x (List.mem_of_getElem? HX.out)) _)), HK3⟩
    · have q1 : (n : Int) ≤ (k : Int) := by omega
      have HK1 : Hid (KS W wr (mrow0 (.slice none 0 0) [] :: (([] : List Ov).map wr1 ++ (mrow (.slice (some ⟨gm, 0, none⟩) (n + 50) mc) lo 50 :: orow vo lo0 :: (lo.map wrow ++ R)))) H) := hid (HK.out.add (mrow0 (.slice none 0 0) []) (Below.refl _ _) (World.ownsRow_nil _ _ _ _))
      clear HK
      go_wp2_with fail
      go_loopw [4, 5] (fun v4 i w2 => ∃ (j : Nat) (u : Value) (lc : List Ov), j ≤ n ∧ i = .int .i64 (j : Int) ∧ v4 = u ∧ Hid (lc.map Ov.o = (lo.take j).map Ov.o) ∧ Hid (KS W w2 (mrow0 u lc :: (lc.map wr1 ++ (mrow (.slice (some ⟨gm, 0, none⟩) (n + 50) mc) lo 50 :: orow vo lo0 :: (lo.map wrow ++ R)))) H)) (fun _ i _ => n - (intOf i).toNat)
      case atStart => exact ⟨0, _, [], Nat.zero_le _, rfl, rfl, hid rfl, HK1⟩
      case round =>
        clear HK1
        obtain ⟨j, u4, lc, hj, rfl, rfl, HLc, HK⟩ := hrel
        have hlc : lc.length ≤ 100 := by have := congrArg List.length HLc.out; rw [List.length_map, List.length_map, List.length_take] at this; omega
        have q3 : (n : Int) ≤ (k : Int) := by omega
        by_cases hlt2 : j < n
        · have q2 : (j : Int) < (n : Int) := by omega
          obtain ⟨x, hx⟩ : ∃ x, lo[j]? = some x := ⟨_, List.getElem?_eq_getElem (by rw [HN.out]; exact hlt2)⟩
          have hxm := List.mem_of_getElem? hx
          have hl := ok_len (HOk.out x hxm)
          have HX := hid hx
          have hcell : ∀ w, KS W w (mrow0 u4 lc :: (lc.map wr1 ++ (mrow (.slice (some ⟨gm, 0, none⟩) (n + 50) mc) lo 50 :: orow vo lo0 :: (lo.map wrow ++ R)))) H → w.rangeAt gm (j * 3) x.cs := fun w h => mrow_cell h (g := gm) (.tail _ (List.mem_append_right _ (.head _))) (by rw [HN.out]) HX.out
          have HAt := hid (fun (w : World) (h : KS W w (mrow0 u4 lc :: (lc.map wr1 ++ (mrow (.slice (some ⟨gm, 0, none⟩) (n + 50) mc) lo 50 :: orow vo lo0 :: (lo.map wrow ++ R)))) H) => at_head (wrow_at (h.inn (r := wrow x) (.tail _ (List.mem_append_right _ (.tail _ (.tail _ (List.mem_append_left _ (List.mem_map_of_mem hxm)))))))))
          have HR := hid (hcell _ HK.out)
          unfold Ov.cs at HR
          go_upto_region 12 with (refine wpList_load_mid rfl 43 _ rfl gm (j * 3) rfl _ _ HR.out Tryd.underlying43 rfl (by rw [size43]; rfl) ?_)
          have HB := hid ((HK.out.box 43 [.int .i64 x.o.k, .int .u32 x.o.a, .slice x.p x.o.ws.length x.c]).add ⟨24, 1, .slice none 0 0, 0, []⟩ (Below.refl _ _) (World.ownsRow_nil _ _ _ _))
          have HC2 := hid (fun (w : World) (h : KS W w (⟨24, 1, .slice none 0 0, 0, []⟩ :: bx 43 wr.heap.size [.int .i64 x.o.k, .int .u32 x.o.a, .slice x.p x.o.ws.length x.c] :: (mrow0 u4 lc :: (lc.map wr1 ++ (mrow (.slice (some ⟨gm, 0, none⟩) (n + 50) mc) lo 50 :: orow vo lo0 :: (lo.map wrow ++ R))))) H) => And.intro (by simpa using hcell w h.tail.tail 2 _ rfl : w.cell? ⟨gm, j * 3 + 2, none⟩ = some (.slice x.p x.o.ws.length x.c)) (HAt.out w h.tail.tail))
          clear HR hcell HK hx
          generalize World.alloc _ _ = w3 at *
          generalize wr.heap.size = gb at *
          have c2 := (HC2.out _ HB.out).1
          go_upto_region 14 with (at_builtin; refine wpList_append_at rfl _ _ rfl rfl HB.out.own0 HB.out.below.size rfl rfl (HC2.out _ HB.out).2 (by omega) ?_; intro v7 w4 hal; obtain ⟨a7, c7, hv7⟩ := two_frm hal (by decide); rw [Nat.zero_add] at hv7; subst hv7; have HB2 := hid (HB.out.app 0 rfl hal); simp only [List.set_cons_zero, Nat.zero_add, List.nil_append] at HB2; clear hal; have cb := (HB2.out.cel 1 rfl).cell 2; have fb := (HB2.out.cel 1 rfl).free 2; simp only [List.getElem?_cons_succ, List.getElem?_cons_zero] at cb)
          have HB3 := hid (HB2.out.wr 1 rfl (bx 43 gb [.int .i64 x.o.k, .int .u32 x.o.a, .slice a7 x.o.ws.length c7]) (g := gb) rfl rfl (but_setCell w4 gb 2 (.slice a7 x.o.ws.length c7)) (own_setc (HB2.out.mem (i := 1) rfl) 2 (.slice a7 x.o.ws.length c7)))
          simp only [List.set_cons_succ, List.set_cons_zero] at HB3
          clear HB HB2 HC2 c2 cb fb HAt
          generalize World.setCell _ _ _ = w5 at *
          go_wp2_with (first | (refine wpList_load_cel rfl 43 _ rfl gb [.int .i64 x.o.k, .int .u32 x.o.a, .slice a7 x.o.ws.length c7] rfl (HB3.out.cel 1 rfl) Tryd.underlying43 rfl (by rw [size43]; rfl) ?_) | (at_builtin; refine wpList_append_1 rfl _ _ 25 43 rfl Tryd.underlying25 Tryd.info43 rfl (by decide) (by decide) rfl ((HB3.out.on (below_one _ _)).mem (i := 2) rfl) (HB3.out.on (below_one _ _)).below.size rfl rfl (cel_new _ 43 [.int .i64 x.o.k, .int .u32 x.o.a, .slice a7 x.o.ws.length c7]) (by simp [Value.oneCell']) (by show lc.length ≤ 2000000; omega) ?_; intro v8 w6 hal; have HB4 : Hid (KS W w6 (wr1 (⟨x.o, a7, c7⟩ : Ov) :: bx 43 gb [.int .i64 x.o.k, .int .u32 x.o.a, .slice a7 x.o.ws.length c7] :: mrow0 v8 (lc ++ [(⟨x.o, a7, c7⟩ : Ov)]) :: (lc.map wr1 ++ (mrow (.slice (some ⟨gm, 0, none⟩) (n + 50) mc) lo 50 :: orow vo lo0 :: (lo.map wrow ++ R)))) H) := hid (by have := (HB3.out.on (below_one _ _)).app 2 rfl hal; rw [← mrow0_snoc]; exact this); clear hal))
          go_roundw
          case measure => simp [intOf] <;> omega
          case rel => exact ⟨j + 1, v8, lc ++ [(⟨x.o, a7, c7⟩ : Ov)], by omega, by simp, rfl, hid (by rw [List.map_append, HLc.out, take_snoc_map lo j x HX.out]; rfl), hid (by
            have := (HB4.out.er 1).perm (R' := mrow0 v8 (lc ++ [(⟨x.o, a7, c7⟩ : Ov)]) :: ((lc ++ [(⟨x.o, a7, c7⟩ : Ov)]).map wr1 ++ (mrow (.slice (some ⟨gm, 0, none⟩) (n + 50) mc) lo 50 :: orow vo lo0 :: (lo.map wrow ++ R)))) (by
              have : (wr1 (⟨x.o, a7, c7⟩ : Ov) :: ((mrow0 v8 (lc ++ [(⟨x.o, a7, c7⟩ : Ov)]) :: lc.map wr1) ++ (mrow (.slice (some ⟨gm, 0, none⟩) (n + 50) mc) lo 50 :: orow vo lo0 :: (lo.map wrow ++ R)))).Perm ((mrow0 v8 (lc ++ [(⟨x.o, a7, c7⟩ : Ov)]) :: lc.map wr1) ++ wr1 (⟨x.o, a7, c7⟩ : Ov) :: (mrow (.slice (some ⟨gm, 0, none⟩) (n + 50) mc) lo 50 :: orow vo lo0 :: (lo.map wrow ++ R))) := List.perm_middle.symm
              simpa using this)
            exact this)⟩
        · have q2 : (n : Int) ≤ (j : Int) := by omega
          have hlc2 := HLc.out
          rw [List.take_of_length_le (by rw [HN.out]; omega)] at hlc2
          have HLn : Hid (lc.length = n) := hid (by have := congrArg List.length hlc2; rw [List.length_map, List.length_map, HN.out] at this; exact this)
          have hm4 : wr.ownsRow W.heap.size 43 3 u4 lc.length (lc.flatMap Ov.cs) := HK.out.own0
          rw [HLn.out] at hm4
          obtain ⟨a4, c4, rfl⟩ := own_frm hm4 (by decide)
          obtain ⟨L, hL⟩ : ∃ L, lo.map Ov.o = L := ⟨_, rfl⟩
          have HEl := hid (enc_bnd lo HOk.out (by rw [HN.out]; exact hb))
          have HOkc : Hid (∀ x ∈ lc, x.o.Ok) := hid (fun x hx => by
            have : x.o ∈ lo.map Ov.o := by rw [← hlc2]; exact List.mem_map_of_mem hx
            obtain ⟨z, hz, hz2⟩ := List.mem_map.1 this
            rw [← hz2]; exact HOk.out z hz)
          have ol1 : ∀ w, KS W w (mrow0 (.slice a4 n c4) lc :: (lc.map wr1 ++ (mrow (.slice (some ⟨gm, 0, none⟩) (n + 50) mc) lo 50 :: orow vo lo0 :: (lo.map wrow ++ R)))) H → OL w (some ⟨gm, 0, none⟩) lo := fun w h => ol_pre (mrow_ol h (mo := some ⟨gm, 0, none⟩) (mn := n + 50) (mc := mc) (lo := lo) (.tail _ (List.mem_append_right _ (.head _))) (by rw [HN.out]) (fun x hx => .tail _ (List.mem_append_right _ (.tail _ (.tail _ (List.mem_append_left _ (List.mem_map_of_mem hx)))))))
          have ol2 : ∀ w, KS W w (mrow0 (.slice a4 n c4) lc :: (lc.map wr1 ++ (mrow (.slice (some ⟨gm, 0, none⟩) (n + 50) mc) lo 50 :: orow vo lo0 :: (lo.map wrow ++ R)))) H → OL w a4 lc := fun w h => ol_row (by have : w.ownsRow W.heap.size 43 3 (.slice a4 n c4) lc.length (lc.flatMap Ov.cs) := h.own0; rw [HLn.out] at this; exact this) HLn.out (fun x hx => own_at (h.inn (r := wr1 x) (.tail _ (List.mem_append_left _ (List.mem_map_of_mem hx)))))
          have okm : ∀ (l : List Ov), (∀ x ∈ l, x.o.Ok) → ∀ o ∈ l.map Ov.o, o.Ok := fun l h o ho => by obtain ⟨x, hx, rfl⟩ := List.mem_map.1 ho; exact h x hx
          have HE1 := hid (fun w (h : KS W w (mrow0 (.slice a4 n c4) lc :: (lc.map wr1 ++ (mrow (.slice (some ⟨gm, 0, none⟩) (n + 50) mc) lo 50 :: orow vo lo0 :: (lo.map wrow ++ R)))) H) => encode_ok w (some ⟨gm, 0, none⟩) n mc lo HN.out (ol1 w h) (by omega) (okm _ HOk.out) HEl.out)
          have HE2 := hid (fun w (h : KS W w (mrow0 (.slice a4 n c4) lc :: (lc.map wr1 ++ (mrow (.slice (some ⟨gm, 0, none⟩) (n + 50) mc) lo 50 :: orow vo lo0 :: (lo.map wrow ++ R)))) H) => encode_ok w a4 n c4 lc HLn.out (ol2 w h) (by omega) (okm _ HOkc.out) (by rw [hlc2]; exact HEl.out))
          have HM1 := hid (fun w (h : KS W w (mrow0 (.slice a4 n c4) lc :: (lc.map wr1 ++ (mrow (.slice (some ⟨gm, 0, none⟩) (n + 50) mc) lo 50 :: orow vo lo0 :: (lo.map wrow ++ R)))) H) => measure_ok w (HT.out.1.below h.below HT.out.2) (by have := h.below.size; have := HT.out.2; omega) (some ⟨gm, 0, none⟩) n mc lo HN.out (ol1 w h) (by omega) (okm _ HOk.out) HEl.out)
          have HM2 := hid (fun w (h : KS W w (mrow0 (.slice a4 n c4) lc :: (lc.map wr1 ++ (mrow (.slice (some ⟨gm, 0, none⟩) (n + 50) mc) lo 50 :: orow vo lo0 :: (lo.map wrow ++ R)))) H) => measure_ok w (HT.out.1.below h.below HT.out.2) (by have := h.below.size; have := HT.out.2; omega) a4 n c4 lc HLn.out (ol2 w h) (by omega) (okm _ HOkc.out) (by rw [hlc2]; exact HEl.out))
          rw [hlc2] at HE2 HM2
          obtain ⟨E, hE⟩ : ∃ E, enc (lo.map Ov.o) = E := ⟨_, rfl⟩
          rw [hE] at HE1 HE2 HM1 HM2 HEl
          obtain ⟨M, hM⟩ : ∃ M, sumW E = M := ⟨_, rfl⟩
          have hMl : M.length = 8 := by rw [← hM]; exact sumW_length _
          rw [hM] at HM1 HM2
          unfold Ag at HM1 HM2
          obtain ⟨Y, hY⟩ : ∃ Y : List Int, Y = List.replicate 8 0 := ⟨_, rfl⟩
          have hYl : Y.length = 8 := by rw [hY]; simp
          have hy : ∀ w, (zeroValue 44).run Tryd.prog w = .ok (.agg (Y.map (Value.int .u32)).toArray) w := fun w => by rw [Tryd.zeroValue44, hY]; rfl
          have heqM := eq27 M M hMl hMl
          rw [decide_eq_true rfl] at heqM
          clear hY hM hE hL ol1 ol2 okm hm4 hlc2 HLc
          have HS := hid (fun w p q cp cq (h1 : At w .u32 p E) (h2 : At w .u32 q E) => (by have := same_any w p q E.length E.length cp cq E E rfl rfl h1 h2 (by have := HEl.out; omega); rw [decide_eq_true rfl] at this; exact this))
          go_upto_region 16 with (go_at_call 10; refine (HE1.out _ HK.out).mono ?_; rintro e w7 ⟨p1, cp1, rfl, hh⟩; have X1 := hid (And.intro (HK.out.on hh.below) (holds_at' hh).1); clear hh)
          go_upto_region 17 with (go_at_call 10; refine (HE2.out _ X1.out.1).mono ?_; rintro e w8 ⟨p2, cp2, rfl, hh⟩; have X2 := hid (And.intro (X1.out.1.on hh.below) (And.intro (X1.out.2.below hh.below) (holds_at' hh).1)); clear hh)
          clear HK X1 HE1 HE2
          go_upto_region 18 with (first | (go_at_call 17; refine (HM1.out _ X2.out.1).mono ?_; rintro e w9 ⟨rfl, hb9⟩; have X3 := hid (And.intro (X2.out.1.on hb9) (And.intro (X2.out.2.1.below hb9) (X2.out.2.2.below hb9))); clear hb9) | (revert X3; intro X3; refine wpList_store_but rfl 44 _ _ rfl w9.heap.size M rfl rfl (Blk.new w9 .u32 44 Y) (by rw [hMl]; exact size27) (by rw [hYl, hMl]) ?_; intro w10 b10 t10 s10; have X4 := hid (And.intro (X3.out.1.on (box_below2 _ t10)) (And.intro (X3.out.2.1.below (box_below2 _ t10)) (And.intro (X3.out.2.2.below (box_below2 _ t10)) b10))); clear b10 t10 s10))
          generalize w9.heap.size = g12 at *
          clear X2 X3 HM1
          go_upto_region 19 with (first | (go_at_call 17; refine (HM2.out _ X4.out.1).mono ?_; rintro e w11 ⟨rfl, hb11⟩; have X5 := hid (And.intro (X4.out.1.on hb11) (And.intro (X4.out.2.1.below hb11) (And.intro (X4.out.2.2.1.below hb11) (X4.out.2.2.2.below hb11 X4.out.2.2.2.lt)))); clear hb11) | (revert X5; intro X5; refine wpList_store_but rfl 44 _ _ rfl w11.heap.size M rfl rfl (Blk.new w11 .u32 44 Y) (by rw [hMl]; exact size27) (by rw [hYl, hMl]) ?_; intro w12 b12 t12 s12; have X6 := hid (And.intro (X5.out.1.on (box_below2 _ t12)) (And.intro (X5.out.2.1.below (box_below2 _ t12)) (And.intro (X5.out.2.2.1.below (box_below2 _ t12)) (And.intro (X5.out.2.2.2.below (box_below2 _ t12) X5.out.2.2.2.lt) b12)))); clear b12 t12 s12))
          generalize w11.heap.size = g14 at *
          clear X4 X5 HM2
          go_wp2_with (first | (go_at_call 11; refine (HS.out _ _ _ _ _ X6.out.2.1 X6.out.2.2.1).mono ?_; rintro e w13 ⟨rfl, hb13⟩; have X7 := hid (And.intro (X6.out.1.on hb13) (And.intro (X6.out.2.2.2.1.below hb13 X6.out.2.2.2.1.lt) (X6.out.2.2.2.2.below hb13 X6.out.2.2.2.2.lt))); clear hb13) | (revert X7; intro X7; refine wpList_load_b2 rfl 44 _ rfl g12 M rfl X7.out.2.1 Tryd.underlying44 (by rw [hMl]; exact size27) ?_) | (revert X7; intro X7; refine wpList_load_b2 rfl 44 _ rfl g14 M rfl X7.out.2.2 Tryd.underlying44 (by rw [hMl]; exact size27) ?_))
          go_ret
          exact ⟨rfl, X7.out.1.emb (fun i => i + (3 + lc.length + lo.length)) (fun i r hr => by
            rw [show i + (3 + lc.length + lo.length) = (i + (2 + lo.length) + lc.length) + 1 by omega, List.getElem?_cons_succ, List.getElem?_append_right (by rw [List.length_map]; omega), List.length_map]
            rw [show i + (2 + lo.length) + lc.length - lc.length = (i + lo.length) + 1 + 1 by omega, List.getElem?_cons_succ, List.getElem?_cons_succ, List.getElem?_append_right (by rw [List.length_map]; omega), List.length_map]
            rw [show i + lo.length - lo.length = i by omega]
            exact hr) (fun i j hij => by omega)⟩
end Go.Proofs.YtmomidkodjihjaaDoor
