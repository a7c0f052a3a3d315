/- The law's lays 59. -/
import Derived.Test.YtnmdhnbgikbpoaaQ9
namespace Go.Proofs.Ytnmdhnbgikbpoaa
open Go.RowKit
theorem Hl.cap {W w : World} {ao : Option Addr} {n c : Nat} {L : List Int} (h : Hl W w (.slice ao n c) L) : (ao = none → c = 0) ∧ n = L.length ∧ n ≤ c ∨ (n = 0 ∧ L = [] ∧ ao = none ∧ c = 0) := by
  rcases h.own.2 with ⟨hv, h0⟩ | ⟨g, cap, cur, hv, hB, hg, hle, r⟩
  · injection hv with a b d
    exact .inr ⟨b, List.eq_nil_of_length_eq_zero h0, a, d⟩
  · injection hv with a b d
    exact .inl ⟨(fun e => by rw [a] at e; cases e), b, by omega⟩
/-- A list that belongs to nobody's memory, by its cells. -/
def LG (w W : World) (r : Nat → Rf) (lv : List Value) (g : Nat) (L : List Int) : Prop := (∀ j u, (u32s L)[j]? = some u → w.cell? ⟨g, j, none⟩ = some u) ∧ Loose w W g r lv ∧ ∃ cs, Cel w g 32 cs
theorem LG.but {w w' W : World} {r : Nat → Rf} {lv : List Value} {g : Nat} {L : List Int} {G : List Nat} (h : LG w W r lv g L) (hb : ButL G w w') (hn : g ∉ G) : LG w' W r lv g L :=
  ⟨fun j u hu => (World.cell?_of_block (w := w) (hb.block g h.2.1.ty.lt hn)).trans (h.1 j u hu), h.2.1.but hb hn, h.2.2.imp (fun _ hc => hc.but hb hn)⟩
theorem LG.on {w w' W : World} {r : Nat → Rf} {lv : List Value} {g : Nat} {L : List Int} (h : LG w W r lv g L) (hb : Below w.heap.size w w') : LG w' W r lv g L := h.but (G := []) (.of hb) (by simp)
theorem LG.f {w w' W : World} {gb : Nat} {f : Nat → Fp} {r : Nat → Rf} {mf mr : Nat → MS} {vL : Value} {lv : List Value} {g : Nat} {L : List Int} (h : LG w W r lv g L) (hB : Bn W w gb f r mf mr vL lv) (i : Nat) (hi : i < 4) (hb : ButL (f i).w w w') : LG w' W r lv g L :=
  h.but hb (fun hk => (hB.mem i hi).no h.2.1.ty (by decide) (by decide) (by decide) (Fp.w_all' hk))
theorem LG.r {w w' W : World} {r : Nat → Rf} {lv : List Value} {g : Nat} {L : List Int} (h : LG w W r lv g L) (i : Nat) (hi : i < 4) {r' : Rf} {m' : MS} (hs : RSt w w' (r i) r' m') : LG w' W (upd r i r') lv g L := by
  have a := h.but hs.but (h.2.1.nr i hi)
  refine ⟨a.1, ⟨a.2.1.ty, a.2.1.lo, fun j hj => ?_, a.2.1.nl⟩, a.2.2⟩
  by_cases e : j = i
  · subst e; rw [upd_same]; exact fun hk => (hs.sub g hk).elim (h.2.1.nr j hj) (fun hh => by have := h.2.1.ty.lt; omega)
  · rw [upd_ne _ _ e]; exact a.2.1.nr j hj
theorem LG.take {w W : World} {r : Nat → Rf} {lv : List Value} {g : Nat} {A B : List Int} (h : LG w W r lv g (A ++ B)) : ∀ j u, (u32s A)[j]? = some u → w.cell? ⟨g, 0 + j, none⟩ = some u := fun j u hu => by
  rw [Nat.zero_add]
  refine h.1 j u ?_
  have hj : j < (u32s A).length := (List.getElem?_eq_some_iff.1 hu).1
  have e : u32s (A ++ B) = u32s A ++ u32s B := by simp [u32s]
  rw [e, List.getElem?_append_left hj]; exact hu
theorem LG.src {w W : World} {r : Nat → Rf} {lv : List Value} {g : Nat} {L : List Int} (h : LG w W r lv g L) : SrcL w (some ⟨g, 0, none⟩) L := .inr ⟨g, 0, rfl, h.2.1.ty.lt, fun j u hu => by rw [Nat.zero_add]; exact h.1 j u hu⟩
/-- A list that may be empty. -/
def WL (w W : World) (r : Nat → Rf) (lv : List Value) (ao : Option Addr) (L : List Int) : Prop := L = [] ∨ ∃ g, ao = some ⟨g, 0, none⟩ ∧ LG w W r lv g L
theorem WL.map {w w' W : World} {r r' : Nat → Rf} {lv : List Value} {ao : Option Addr} {L : List Int} (h : WL w W r lv ao L) (k : ∀ g, LG w W r lv g L → LG w' W r' lv g L) : WL w' W r' lv ao L := h.imp id (fun ⟨g, e, a⟩ => ⟨g, e, k g a⟩)
theorem WL.src {w W : World} {r : Nat → Rf} {lv : List Value} {ao : Option Addr} {L : List Int} (h : WL w W r lv ao L) : SrcL w ao L := by
  rcases h with h | ⟨g, rfl, a⟩
  · exact .inl h
  · exact a.src
theorem WL.of {W0 w W : World} {gb : Nat} {f : Nat → Fp} {r : Nat → Rf} {mf mr : Nat → MS} {vL : Value} {lv : List Value} {ao : Option Addr} {n c : Nat} {L : List Int} (hB : Bn W W0 gb f r mf mr vL lv) (h : Hl W0 w (.slice ao n c) L) : WL w W r lv ao L := by
  rcases Nat.eq_zero_or_pos L.length with h0 | hp
  · exact .inl (List.eq_nil_of_length_eq_zero h0)
  · obtain ⟨ao', c', e, hh⟩ := h.form
    obtain ⟨g, e2, h1, h2, ⟨cur, hc⟩, h3⟩ := hh hp
    injection e with e3 _ _
    exact .inr ⟨g, by rw [e3, e2], h3, hB.loose ⟨cur, _, hc⟩ h1, cur.toList, hc⟩
theorem wordsL_len (off : Int) (L : List Int) (h : L.length * 4 ≤ 140737488351232) : (wordsL off L).length * 4 ≤ 140737488351232 := by
  unfold wordsL
  split
  · exact h
  · rw [turnsL_len]; omega
theorem LG.set {w W : World} {r : Nat → Rf} {lv : List Value} {g : Nat} {L : List Int} (h : LG w W r lv g L) (j : Nat) (hj : j < L.length) (a : Int) : LG (w.setCell ⟨g, j, none⟩ (.int .u32 a)) W r lv g (L.set j a) := by
  obtain ⟨h1, h2, cs, hc⟩ := h
  have hc' := hc.setCell j (.int .u32 a)
  refine ⟨fun k u hu => ?_, ⟨hc'.tyAt, h2.lo, h2.nr, h2.nl⟩, _, hc'⟩
  rw [hc'.cell k, List.getElem?_set]
  rw [← u32s_set, List.getElem?_set] at hu
  by_cases e : j = k
  · subst e
    have hj2 : j < (u32s L).length := by simpa [u32s] using hj
    have o := h1 j _ (List.getElem?_eq_getElem hj2)
    rw [hc.cell j] at o
    have hj3 := (List.getElem?_eq_some_iff.1 o).1
    rw [if_pos rfl, if_pos hj2] at hu
    rw [if_pos rfl, if_pos hj3]; exact hu
  · rw [if_neg e] at hu ⊢
    rw [← hc.cell k]; exact h1 k u hu
theorem LG.old {w W : World} {r : Nat → Rf} {lv : List Value} {g : Nat} {L : List Int} (h : LG w W r lv g L) (j : Nat) (hj : j < L.length) : ∃ old, w.cell? ⟨g, j, none⟩ = some (.int .u32 old) := ⟨L[j], h.1 j _ (by rw [u32s, List.getElem?_map, List.getElem?_eq_getElem hj]; rfl)⟩
theorem LG.free {w W : World} {r : Nat → Rf} {lv : List Value} {g : Nat} {L : List Int} (h : LG w W r lv g L) (j : Nat) : w.frozen? ⟨g, j, none⟩ = false := by
  obtain ⟨_, _, cs, hc⟩ := h
  exact hc.free j
theorem SB.other {W wr w' : World} {gb : Nat} {f : Nat → Fp} {r : Nat → Rf} {mf mr : Nat → MS} {vL : Value} {lv : List Value} {BC : List Value} {g3 : Nat} {q : Oq} (h : SB W wr gb f r mf mr vL lv BC g3 q) {g : Nat} (hl : Loose wr W g r lv) (hb : ButL [g] wr w') : SB W w' gb f r mf mr vL lv BC g3 q :=
  ⟨h.bn.other hl hb, h.bc.but hb (fun hm => by rw [List.mem_singleton] at hm; subst hm; exact absurd (h.bc.tyAt.eq hl.ty) (by decide)), h.box.but hb (fun hm => by rw [List.mem_singleton] at hm; subst hm; exact absurd (h.box.tyAt.eq hl.ty) (by decide))⟩
def fives (n : Nat) : List Int := List.replicate n 5
set_option maxRecDepth 40000 in
set_option maxHeartbeats 16000000 in
theorem lays_any : LaysOk := by
  intro W wr gb f r m vL lv h h4 q hq i hi
  have i4 : (i : Int) < 4 := by omega
  have HSB : Hid (SB W (wr.alloc (.cells q.cs.toArray 72)) gb f r m m vL lv (benC f r vL) wr.heap.size q) := hid ⟨h.on (below_one _ _), h.cel.on (below_one _ _), Cel.new wr 72 q.cs⟩
  have HQX : Hid (OqOk (wr.alloc (.cells q.cs.toArray 72)) q) := hid (hq.on HSB.out.bn.below)
  have H4 := hid h4
  have HLEN := hid (wordsL_len q.off q.W hq.len)
  have HR : Hid ((wr.alloc (.cells q.cs.toArray 72)).rangeAt wr.heap.size 0 q.cs) := hid HSB.out.box.range
  clear h hq h4
  generalize hLw : wordsL q.off q.W = Lw at *
  go_enter Try.func59, Try.ntmps59
  go_wp2_with (first | (refine wpList_load_mid rfl 72 _ rfl wr.heap.size 0 rfl q.cs _ HR.out under72 rfl size72 ?_))
  refine (words_any _ q HQX.out).mono ?_
  rintro x w1 ⟨yw, rfl, hw⟩
  rw [hLw] at hw
  clear hLw HR HQX
  obtain ⟨wo, wc, rfl, _⟩ := hw.form
  have SB1 := hid (HSB.out.on hw.below)
  have WL1 : Hid (WL w1 W r lv wo Lw) := hid (WL.of HSB.out.bn hw)
  have HC0 : Hid (wo = none → wc = 0) := hid (fun e => by
    rcases hw.cap with ⟨a, _⟩ | ⟨_, _, _, a⟩
    · exact a e
    · exact a)
  clear hw HSB
  generalize hX : wr.alloc _ = X at *
  clear hX
  generalize hg3 : wr.heap.size = g3 at *
  clear hg3
  go_wp2_with fail
  refine (lent_any w1 wo Lw WL1.out.src wc HLEN.out HC0.out).mono ?_
  rintro x w2 ⟨yl, rfl, hl⟩
  obtain ⟨lo, lc, rfl, hlo⟩ := hl.form
  have hln : (Lw ++ lmarks 120).length = Lw.length + 120 := by rw [List.length_append, lmarks_len]
  rw [hln] at hlo
  obtain ⟨gl, rfl, hgl1, hgl2, ⟨cur, hgc⟩, hcell⟩ := hlo (by omega)
  have SB2 := hid (SB1.out.on hl.below)
  have WL2 : Hid (WL w2 W r lv wo Lw) := hid (WL1.out.map (fun g a => a.on hl.below))
  have LG2 : Hid (LG w2 W r lv gl (Lw ++ lmarks 120)) := hid ⟨hcell, SB1.out.bn.loose ⟨cur, _, hgc⟩ hgl1, cur.toList, hgc⟩
  have HCAP : Lw.length + 120 ≤ lc := by
    rcases hl.cap with ⟨_, _, a⟩ | ⟨a, _⟩
    · rw [hln] at a; exact a
    · rw [hln] at a; omega
  rw [hln]
  clear hl hlo hgl1 hgl2 hgc hcell SB1 WL1 hln
  have n0 := HLEN.out
  have n1 : (Lw.length : Int) ≤ 35184372087808 := by omega
  obtain ⟨n, hn⟩ : ∃ n, Lw.length = n := ⟨_, rfl⟩
  have HNL := hid hn
  rw [hn] at HCAP n0 n1
  rw [hn]
  clear hn
  go_wp2_with fail
  refine wp_region_held_drew (S := SS gb (benC f r vL) g3 q) (by kernel_rfl) (SB2.out.on (Below.refl _ _).drew).s (fun hHeld => ?_)
  refine wpAnyH_take (i := 0) (oi := { dst := some 15, op := Op.move (Operand.tmp 0), type := 62, pos := "law.go:144", after := #[], guard := none }) (v := .pointer (some ⟨gb, 0, none⟩)) rfl (by kernel_rfl) (by kernel_rfl) (by kernel_rfl) (fun _ _ _ h => h) (Or.inl ⟨by rfl, by intro w hSw; go_simp⟩) (by assumption) ?_
  simp only [Act.put, List.setIfInBounds_toArray, List.set_cons_zero, List.set_cons_succ]
  refine wpAnyH_take (i := 1) (oi := { dst := some 16, op := Op.move (Operand.tmp 1), type := 3, pos := "law.go:144", after := #[], guard := none }) (v := .int .i64 (i : Int)) rfl (by kernel_rfl) (by kernel_rfl) (by kernel_rfl) (fun _ _ _ h => h) (Or.inl ⟨by rfl, by intro w hSw; go_simp⟩) (by assumption) ?_
  simp only [Act.put, List.setIfInBounds_toArray, List.set_cons_zero, List.set_cons_succ]
  refine wpAnyH_take (i := 2) (oi := { dst := some 17, op := Op.nilCheck (Operand.tmp 15), type := 0, pos := "law.go:144", after := #[{ on := 0, ground := Ground.data }], guard := none }) (v := .pointer (some ⟨gb, 0, none⟩)) rfl (by kernel_rfl) (by kernel_rfl) (by kernel_rfl) (fun _ _ _ h => h) (Or.inl ⟨by rfl, by intro w hSw; go_simp⟩) (by assumption) ?_
  simp only [Act.put, List.setIfInBounds_toArray, List.set_cons_zero, List.set_cons_succ]
  refine wpAnyH_take (i := 3) (oi := { dst := some 18, op := Op.fieldAddr 68 (Operand.tmp 17) 0, type := 0, pos := "law.go:144", after := #[{ on := 2, ground := Ground.data }], guard := none }) (v := .pointer (some ⟨gb, 0, none⟩)) rfl (by kernel_rfl) (by kernel_rfl) (by kernel_rfl) (fun _ _ _ h => h) (Or.inl ⟨by rfl, by intro w hSw; go_simp⟩) (by assumption) ?_
  simp only [Act.put, List.setIfInBounds_toArray, List.set_cons_zero, List.set_cons_succ]
  refine wpAnyH_take (i := 4) (oi := { dst := some 19, op := Op.indexAddr 63 (Operand.tmp 18) (Operand.tmp 16), type := 0, pos := "law.go:144", after := #[{ on := 3, ground := Ground.data }, { on := 1, ground := Ground.data }], guard := none }) (v := .pointer (some ⟨gb, i, none⟩)) rfl (by kernel_rfl) (by kernel_rfl) (by kernel_rfl) (fun _ _ _ h => h) (Or.inl ⟨by rfl, by intro w hSw; go_simp⟩) (by assumption) ?_
  simp only [Act.put, List.setIfInBounds_toArray, List.set_cons_zero, List.set_cons_succ]
  refine wpAnyH_take (i := 5) (oi := { dst := some 20, op := Op.load 25 (Operand.tmp 19), type := 25, pos := "law.go:144", after := #[{ on := 4, ground := Ground.data }], guard := none }) (v := .pointer (some ⟨(f i).gm, 0, none⟩)) rfl (by kernel_rfl) (by kernel_rfl) (by kernel_rfl) (fun _ _ _ h => h) (Or.inl ⟨by rfl, by intro w hSw; have hcc := SS.cm hSw i hi; go_simp⟩) (by assumption) ?_
  simp only [Act.put, List.setIfInBounds_toArray, List.set_cons_zero, List.set_cons_succ]
  refine wpAnyH_take (i := 6) (oi := { dst := some 21, op := Op.fieldAddr 72 (Operand.tmp 5) 3, type := 0, pos := "law.go:144", after := #[], guard := none }) (v := .pointer (some ⟨g3, 3, none⟩)) rfl (by kernel_rfl) (by kernel_rfl) (by kernel_rfl) (fun _ _ _ h => h) (Or.inl ⟨by rfl, by intro w hSw; go_simp⟩) (by assumption) ?_
  simp only [Act.put, List.setIfInBounds_toArray, List.set_cons_zero, List.set_cons_succ]
  refine wpAnyH_take (i := 7) (oi := { dst := some 22, op := Op.load 23 (Operand.tmp 21), type := 23, pos := "law.go:144", after := #[{ on := 6, ground := Ground.data }], guard := none }) (v := .agg #[.bool q.s, .int .i64 q.p]) rfl (by kernel_rfl) (by kernel_rfl) (by kernel_rfl) (fun _ _ _ h => h) (yieldsIf_load_mid (by rfl) _ _ rfl _ _ rfl _ _ (fun w hSw => (Cel.rangeF hSw.2)) under23 rfl size23) (by assumption) ?_
  simp only [Act.put, List.setIfInBounds_toArray, List.set_cons_zero, List.set_cons_succ]
  refine wpAnyH_take (i := 8) (oi := { dst := some 23, op := Op.move (Operand.tmp 8), type := 24, pos := "law.go:144", after := #[], guard := none }) (v := .slice (some ⟨gl, 0, none⟩) (n + 120) lc) rfl (by kernel_rfl) (by kernel_rfl) (by kernel_rfl) (fun _ _ _ h => h) (Or.inl ⟨by rfl, by intro w hSw; go_simp⟩) (by assumption) ?_
  simp only [Act.put, List.setIfInBounds_toArray, List.set_cons_zero, List.set_cons_succ]
  refine wpAnyH_take (i := 9) (oi := { dst := some 24, op := Op.move (Operand.tmp 7), type := 24, pos := "law.go:144", after := #[], guard := none }) (v := .slice wo n wc) rfl (by kernel_rfl) (by kernel_rfl) (by kernel_rfl) (fun _ _ _ h => h) (Or.inl ⟨by rfl, by intro w hSw; go_simp⟩) (by assumption) ?_
  simp only [Act.put, List.setIfInBounds_toArray, List.set_cons_zero, List.set_cons_succ]
  refine wpAnyH_take (i := 10) (oi := { dst := some 25, op := Op.call { callee := Callee.builtin Builtin.len, args := #[Operand.tmp 24], argTypes := #[24] }, type := 3, pos := "law.go:144", after := #[{ on := 9, ground := Ground.data }], guard := none }) (v := .int .i64 (n : Int)) rfl (by kernel_rfl) (by kernel_rfl) (by kernel_rfl) (fun _ _ _ h => h) (Or.inl ⟨by rfl, by intro w hSw; go_simp⟩) (by assumption) ?_
  simp only [Act.put, List.setIfInBounds_toArray, List.set_cons_zero, List.set_cons_succ]
  refine wpAnyH_take (i := 11) (oi := { dst := some 26, op := Op.slice 24 (Operand.tmp 23) none (some (Operand.tmp 25)) none, type := 24, pos := "law.go:144", after := #[{ on := 8, ground := Ground.data }, { on := 10, ground := Ground.data }], guard := none }) (v := .slice (some ⟨gl, 0, none⟩) n lc) rfl (by kernel_rfl) (by kernel_rfl) (by kernel_rfl) (fun _ _ _ h => h) (Or.inl ⟨by rfl, by intro w hSw; have m1 : n ≤ lc := (by omega); (go_simp; try omega)⟩) (by assumption) ?_
  simp only [Act.put, List.setIfInBounds_toArray, List.set_cons_zero, List.set_cons_succ]
  refine wpAnyH_take (i := 14) (oi := { dst := some 29, op := Op.move (Operand.tmp 0), type := 62, pos := "law.go:144", after := #[], guard := none }) (v := .pointer (some ⟨gb, 0, none⟩)) rfl (by kernel_rfl) (by kernel_rfl) (by kernel_rfl) (fun _ _ _ h => h) (Or.inl ⟨by rfl, by intro w hSw; go_simp⟩) (by assumption) ?_
  simp only [Act.put, List.setIfInBounds_toArray, List.set_cons_zero, List.set_cons_succ]
  refine wpAnyH_take (i := 15) (oi := { dst := some 30, op := Op.move (Operand.tmp 1), type := 3, pos := "law.go:144", after := #[], guard := none }) (v := .int .i64 (i : Int)) rfl (by kernel_rfl) (by kernel_rfl) (by kernel_rfl) (fun _ _ _ h => h) (Or.inl ⟨by rfl, by intro w hSw; go_simp⟩) (by assumption) ?_
  simp only [Act.put, List.setIfInBounds_toArray, List.set_cons_zero, List.set_cons_succ]
  refine wpAnyH_take (i := 16) (oi := { dst := some 31, op := Op.nilCheck (Operand.tmp 29), type := 0, pos := "law.go:144", after := #[{ on := 14, ground := Ground.data }], guard := none }) (v := .pointer (some ⟨gb, 0, none⟩)) rfl (by kernel_rfl) (by kernel_rfl) (by kernel_rfl) (fun _ _ _ h => h) (Or.inl ⟨by rfl, by intro w hSw; go_simp⟩) (by assumption) ?_
  simp only [Act.put, List.setIfInBounds_toArray, List.set_cons_zero, List.set_cons_succ]
  refine wpAnyH_take (i := 17) (oi := { dst := some 32, op := Op.fieldAddr 68 (Operand.tmp 31) 1, type := 0, pos := "law.go:144", after := #[{ on := 16, ground := Ground.data }], guard := none }) (v := .pointer (some ⟨gb, 4, none⟩)) rfl (by kernel_rfl) (by kernel_rfl) (by kernel_rfl) (fun _ _ _ h => h) (Or.inl ⟨by rfl, by intro w hSw; go_simp⟩) (by assumption) ?_
  simp only [Act.put, List.setIfInBounds_toArray, List.set_cons_zero, List.set_cons_succ]
  refine wpAnyH_take (i := 18) (oi := { dst := some 33, op := Op.indexAddr 65 (Operand.tmp 32) (Operand.tmp 30), type := 0, pos := "law.go:144", after := #[{ on := 17, ground := Ground.data }, { on := 15, ground := Ground.data }], guard := none }) (v := .pointer (some ⟨gb, 4 + i, none⟩)) rfl (by kernel_rfl) (by kernel_rfl) (by kernel_rfl) (fun _ _ _ h => h) (Or.inl ⟨by rfl, by intro w hSw; go_simp⟩) (by assumption) ?_
  simp only [Act.put, List.setIfInBounds_toArray, List.set_cons_zero, List.set_cons_succ]
  refine wpAnyH_take (i := 19) (oi := { dst := some 34, op := Op.load 64 (Operand.tmp 33), type := 64, pos := "law.go:144", after := #[{ on := 18, ground := Ground.data }], guard := none }) (v := .pointer (some ⟨(r i).g, 0, none⟩)) rfl (by kernel_rfl) (by kernel_rfl) (by kernel_rfl) (fun _ _ _ h => h) (Or.inl ⟨by rfl, by intro w hSw; have hcc := SS.cr hSw i hi; go_simp⟩) (by assumption) ?_
  simp only [Act.put, List.setIfInBounds_toArray, List.set_cons_zero, List.set_cons_succ]
  refine wpAnyH_take (i := 20) (oi := { dst := some 35, op := Op.fieldAddr 72 (Operand.tmp 5) 3, type := 0, pos := "law.go:144", after := #[], guard := none }) (v := .pointer (some ⟨g3, 3, none⟩)) rfl (by kernel_rfl) (by kernel_rfl) (by kernel_rfl) (fun _ _ _ h => h) (Or.inl ⟨by rfl, by intro w hSw; go_simp⟩) (by assumption) ?_
  simp only [Act.put, List.setIfInBounds_toArray, List.set_cons_zero, List.set_cons_succ]
  refine wpAnyH_take (i := 21) (oi := { dst := some 36, op := Op.load 23 (Operand.tmp 35), type := 23, pos := "law.go:144", after := #[{ on := 20, ground := Ground.data }], guard := none }) (v := .agg #[.bool q.s, .int .i64 q.p]) rfl (by kernel_rfl) (by kernel_rfl) (by kernel_rfl) (fun _ _ _ h => h) (yieldsIf_load_mid (by rfl) _ _ rfl _ _ rfl _ _ (fun w hSw => (Cel.rangeF hSw.2)) under23 rfl size23) (by assumption) ?_
  simp only [Act.put, List.setIfInBounds_toArray, List.set_cons_zero, List.set_cons_succ]
  refine wpAnyH_take (i := 23) (oi := { dst := some 38, op := Op.move (Operand.tmp 7), type := 24, pos := "law.go:144", after := #[], guard := none }) (v := .slice wo n wc) rfl (by kernel_rfl) (by kernel_rfl) (by kernel_rfl) (fun _ _ _ h => h) (Or.inl ⟨by rfl, by intro w hSw; go_simp⟩) (by assumption) ?_
  simp only [Act.put, List.setIfInBounds_toArray, List.set_cons_zero, List.set_cons_succ]
  refine wpAnyH_ready (rs := [12]) (by kernel_rfl) (by simp) (AllReadyH.cons (o := { dst := some 27, op := Op.call { callee := Callee.value (Operand.func 16), args := #[Operand.tmp 20, Operand.tmp 22, Operand.tmp 26], argTypes := #[25, 23, 24] }, type := 26, pos := "law.go:144", after := #[{ on := 5, ground := Ground.data }, { on := 7, ground := Ground.data }, { on := 11, ground := Ground.data }], guard := none }) rfl (fun KQ hK => ?_) AllReadyH.nil)
  go_simp
  have LC := lay_any _ (f i) (m i) (((SB2.out.on (Below.refl _ _).drew)).bn.mem i hi) q.s q.p Lw (some ⟨gl, 0, none⟩) lc (by rw [HNL.out]; omega) (fun _ _ => ⟨gl, 0, rfl, (LG2.out.on (Below.refl _ _).drew).2.1.ty.lt, fun hk => (((SB2.out.on (Below.refl _ _).drew)).bn.mem i hi).no (LG2.out.on (Below.refl _ _).drew).2.1.ty (by decide) (by decide) (by decide) (Fp.w_all' hk), (LG2.out.on (Below.refl _ _).drew).take⟩)
  rw [HNL.out] at LC
  refine LC.mono ?_
  rintro x wA ⟨rfl, hmA, hbA⟩
  have lgA := (LG2.out.on (Below.refl _ _).drew).f ((SB2.out.on (Below.refl _ _).drew)).bn i hi hbA
  have wlA := (WL2.out.map (fun g a => a.on (Below.refl _ _).drew)).map (fun g a => a.f ((SB2.out.on (Below.refl _ _).drew)).bn i hi hbA)
  have sbA := ((SB2.out.on (Below.refl _ _).drew)).fst i hi hbA hmA (len_lay _ _ _ _)
  clear LC
  go_wp2_with fail
  refine hK.out _ _ sbA.s (fun hHeld => ?_)
  clear hK KQ
  try simp only [Act.put, List.setIfInBounds_toArray, List.set_cons_zero, List.set_cons_succ]
  refine wpAnyH_ready (rs := [13]) (by kernel_rfl) (by simp) (AllReadyH.cons (o := { dst := some 28, op := Op.call { callee := Callee.value (Operand.func 8), args := #[Operand.tmp 27], argTypes := #[26] }, type := 3, pos := "law.go:144", after := #[{ on := 12, ground := Ground.data }, { on := 12, ground := Ground.chain }], guard := none }) rfl (fun KQ hK => ?_) AllReadyH.nil)
  go_simp
  refine (num_any _ _).mono ?_
  rintro x wn ⟨rfl, rfl⟩
  go_wp2_with fail
  refine hK.out _ _ sbA.s (fun hHeld => ?_)
  clear hK KQ
  try simp only [Act.put, List.setIfInBounds_toArray, List.set_cons_zero, List.set_cons_succ]
  refine wpAnyH_ready (rs := [22]) (by kernel_rfl) (by simp) (AllReadyH.cons (o := { dst := some 37, op := Op.call { callee := Callee.value (Operand.func 42), args := #[Operand.tmp 36], argTypes := #[23] }, type := 95, pos := "law.go:144", after := #[{ on := 21, ground := Ground.data }, { on := 13, ground := Ground.chain }], guard := none }) rfl (fun KQ hK => ?_) AllReadyH.nil)
  go_simp
  refine (doc_any _ q.s q.p).mono ?_
  rintro x wB ⟨rfl, hbB⟩
  have sbB := (sbA).on hbB
  have lgB := lgA.on hbB
  have wlB := wlA.map (fun g a => a.on hbB)
  simp only [fr]
  go_wp2_with fail
  refine hK.out _ _ sbB.s (fun hHeld => ?_)
  clear hK KQ
  try simp only [Act.put, List.setIfInBounds_toArray, List.set_cons_zero, List.set_cons_succ]
  refine wpAnyH_ready (rs := [24]) (by kernel_rfl) (by simp) (AllReadyH.cons (o := { dst := some 39, op := Op.call { callee := Callee.value (Operand.func 66), args := #[Operand.tmp 34, Operand.tmp 37, Operand.tmp 38], argTypes := #[64, 95, 24] }, type := 3, pos := "law.go:144", after := #[{ on := 19, ground := Ground.data }, { on := 22, ground := Ground.data }, { on := 23, ground := Ground.data }, { on := 22, ground := Ground.chain }], guard := none }) rfl (fun KQ hK => ?_) AllReadyH.nil)
  go_simp
  have RC := rlay_any _ (r i) (m i) ((sbB).bn.rmem i hi) q.s q.p Lw wo wc (by rw [HNL.out]; omega) (fun h10 => by rcases wlB with e | ⟨g, e, a⟩; (· rw [e] at h10; simp at h10); (· exact ⟨g, 0, e, a.2.1.ty.lt, a.2.1.nr i hi, fun j u hu => by rw [Nat.zero_add]; exact a.1 j u hu⟩))
  rw [HNL.out] at RC
  refine RC.mono ?_
  rintro x wC ⟨rfl, rC, hrC⟩
  have sbC := sbB.rst i hi hrC (len_lay _ _ _ _)
  have lgC := lgB.r i hi hrC
  have wlC := wlB.map (fun g a => a.r i hi hrC)
  clear RC
  go_wp2_with fail
  refine hK.out _ _ sbC.s (fun hHeld => ?_)
  clear hK KQ
  try simp only [Act.put, List.setIfInBounds_toArray, List.set_cons_zero, List.set_cons_succ]
  refine wpAnyH_take (i := 25) (oi := { dst := some 40, op := Op.binOp BinOp.eql 3 (Operand.tmp 28) (Operand.tmp 39) 3, type := 4, pos := "law.go:144", after := #[{ on := 13, ground := Ground.data }, { on := 24, ground := Ground.data }], guard := none }) (v := .bool true) rfl (by kernel_rfl) (by kernel_rfl) (by kernel_rfl) (fun _ _ _ h => h) (Or.inl ⟨by rfl, by intro w hSw; go_simp⟩) (by assumption) ?_
  simp only [Act.put, List.setIfInBounds_toArray, List.set_cons_zero, List.set_cons_succ]
  refine wpAnyH_take (i := 26) (oi := { dst := some 41, op := Op.move (Operand.tmp 40), type := 4, pos := "law.go:144", after := #[{ on := 25, ground := Ground.data }, { on := 24, ground := Ground.chain }], guard := none }) (v := .bool true) rfl (by kernel_rfl) (by kernel_rfl) (by kernel_rfl) (fun _ _ _ h => h) (Or.inl ⟨by rfl, by intro w hSw; go_simp⟩) (by assumption) ?_
  simp only [Act.put, List.setIfInBounds_toArray, List.set_cons_zero, List.set_cons_succ]
  refine wpAnyH_take (i := 27) (oi := { dst := some 42, op := Op.move (Operand.tmp 8), type := 24, pos := "law.go:144", after := #[{ on := 26, ground := Ground.guard }], guard := some (26, true) }) (v := .slice (some ⟨gl, 0, none⟩) (n + 120) lc) rfl (by kernel_rfl) (by kernel_rfl) (by kernel_rfl) (fun _ _ _ h => h) (Or.inl ⟨by rfl, by intro w hSw; go_simp⟩) (by assumption) ?_
  simp only [Act.put, List.setIfInBounds_toArray, List.set_cons_zero, List.set_cons_succ]
  refine wpAnyH_take (i := 28) (oi := { dst := some 43, op := Op.move (Operand.tmp 7), type := 24, pos := "law.go:144", after := #[{ on := 26, ground := Ground.guard }], guard := some (26, true) }) (v := .slice wo n wc) rfl (by kernel_rfl) (by kernel_rfl) (by kernel_rfl) (fun _ _ _ h => h) (Or.inl ⟨by rfl, by intro w hSw; go_simp⟩) (by assumption) ?_
  simp only [Act.put, List.setIfInBounds_toArray, List.set_cons_zero, List.set_cons_succ]
  refine wpAnyH_ready (rs := [29]) (by kernel_rfl) (by simp) (AllReadyH.cons (o := { dst := some 44, op := Op.call { callee := Callee.value (Operand.func 65), args := #[Operand.tmp 43], argTypes := #[24] }, type := 24, pos := "law.go:144", after := #[{ on := 28, ground := Ground.data }, { on := 26, ground := Ground.chain }, { on := 26, ground := Ground.guard }], guard := some (26, true) }) rfl (fun KQ hK => ?_) AllReadyH.nil)
  go_simp
  have LT := lent_any _ wo Lw wlC.src wc HLEN.out HC0.out
  rw [HNL.out] at LT
  refine LT.mono ?_
  rintro x wD ⟨yd, rfl, hd⟩
  obtain ⟨dd, dc, rfl, _⟩ := hd.form
  have sbD := sbC.on hd.below
  have lgD := lgC.on hd.below
  have wlD := wlC.map (fun g a => a.on hd.below)
  have hdl : (Lw ++ lmarks 120).length = n + 120 := by rw [List.length_append, lmarks_len, HNL.out]
  rw [hdl]
  clear LT
  go_wp2_with fail
  refine hK.out _ _ sbD.s (fun hHeld => ?_)
  clear hK KQ
  try simp only [Act.put, List.setIfInBounds_toArray, List.set_cons_zero, List.set_cons_succ]
  refine wpAnyH_ready (rs := [30]) (by kernel_rfl) (by simp) (AllReadyH.cons (o := { dst := some 45, op := Op.call { callee := Callee.value (Operand.func 57), args := #[Operand.tmp 42, Operand.tmp 44], argTypes := #[24, 24] }, type := 4, pos := "law.go:144", after := #[{ on := 27, ground := Ground.data }, { on := 29, ground := Ground.data }, { on := 29, ground := Ground.chain }, { on := 26, ground := Ground.guard }], guard := some (26, true) }) rfl (fun KQ hK => ?_) AllReadyH.nil)
  go_simp
  have SM := lsame_self _ (some ⟨gl, 0, none⟩) dd (Lw ++ lmarks 120) lgD.src hd.src lc dc (by rw [hdl]; omega)
  rw [hdl] at SM
  refine SM.mono ?_
  rintro x wE ⟨rfl, hbE⟩
  have sbE := sbD.on hbE
  have lgE := lgD.on hbE
  have wlE := wlD.map (fun g a => a.on hbE)
  clear SM
  go_wp2_with fail
  refine hK.out _ _ sbE.s (fun hHeld => ?_)
  clear hK KQ
  try simp only [Act.put, List.setIfInBounds_toArray, List.set_cons_zero, List.set_cons_succ]
  refine wpAnyH_take (i := 31) (oi := { dst := some 46, op := Op.pick (Operand.tmp 41) (Operand.tmp 45) (Operand.const (Value.bool false)), type := 4, pos := "law.go:144", after := #[{ on := 26, ground := Ground.data }, { on := 30, ground := Ground.data }], guard := none }) (v := .bool true) rfl (by kernel_rfl) (by kernel_rfl) (by kernel_rfl) (fun _ _ _ h => h) (Or.inl ⟨by rfl, by intro w hSw; go_simp⟩) (by assumption) ?_
  simp only [Act.put, List.setIfInBounds_toArray, List.set_cons_zero, List.set_cons_succ]
  refine wpAnyH_ready (rs := [32]) (by kernel_rfl) (by simp) (AllReadyH.cons (o := { dst := some 9, op := Op.assign (Operand.tmp 46), type := 4, pos := "law.go:144", after := #[{ on := 31, ground := Ground.data }, { on := 30, ground := Ground.chain }, { on := 0, ground := Ground.phase }, { on := 1, ground := Ground.phase }, { on := 2, ground := Ground.phase }, { on := 3, ground := Ground.phase }, { on := 4, ground := Ground.phase }, { on := 5, ground := Ground.phase }, { on := 6, ground := Ground.phase }, { on := 7, ground := Ground.phase }, { on := 8, ground := Ground.phase }, { on := 9, ground := Ground.phase }, { on := 10, ground := Ground.phase }, { on := 11, ground := Ground.phase }, { on := 12, ground := Ground.phase }, { on := 13, ground := Ground.phase }, { on := 14, ground := Ground.phase }, { on := 15, ground := Ground.phase }, { on := 16, ground := Ground.phase }, { on := 17, ground := Ground.phase }, { on := 18, ground := Ground.phase }, { on := 19, ground := Ground.phase }, { on := 20, ground := Ground.phase }, { on := 21, ground := Ground.phase }, { on := 22, ground := Ground.phase }, { on := 23, ground := Ground.phase }, { on := 24, ground := Ground.phase }, { on := 25, ground := Ground.phase }, { on := 26, ground := Ground.phase }, { on := 27, ground := Ground.phase }, { on := 28, ground := Ground.phase }, { on := 29, ground := Ground.phase }, { on := 30, ground := Ground.phase }, { on := 31, ground := Ground.phase }], guard := none }) rfl (fun KQ hK => ?_) AllReadyH.nil)
  go_simp
  refine hK.out _ _ sbE.s (fun hHeld => ?_)
  clear hK KQ
  try simp only [Act.put, List.setIfInBounds_toArray, List.set_cons_zero, List.set_cons_succ]
  refine wpAnyH_done (by kernel_rfl) ?_ _
  have HB1 : ∃ m1 r1, Hid (SB W wE gb f r1 m1 m1 vL lv (benC f r1 vL) g3 q) ∧ Hid (LG wE W r1 lv gl (fillL (Lw ++ lmarks 120) 0 5)) := ⟨_, _, hid ⟨sbE.bn, sbE.bn.cel, sbE.box⟩, hid (by rw [fillL_zero]; exact lgE)⟩
  obtain ⟨m1, r1, SB3, LG3⟩ := HB1
  have HLL : Hid ((Lw ++ lmarks 120).length = n + 120) := hid hdl
  clear hHeld sbA lgA wlA sbB lgB wlB sbC lgC wlC sbD lgD wlD sbE lgE wlE hmA hbA hbB hrC rC hd hbE hdl SB2 WL2 LG2
  generalize hM : Lw ++ lmarks 120 = ML at *
  clear hM
  go_wp2_with fail
  go_loopw [10] (fun k wr => ∃ j : Nat, j ≤ n + 120 ∧ k = .int .i64 (j : Int) ∧ Hid (SB W wr gb f r1 m1 m1 vL lv (benC f r1 vL) g3 q) ∧ Hid (LG wr W r1 lv gl (fillL ML j 5))) (fun k _ => n + 120 - (intOf k).toNat)
  case atStart => exact ⟨0, Nat.zero_le _, rfl, SB3, LG3⟩
  case round =>
    clear SB3 LG3
    obtain ⟨j, hj, rfl, SB4, LG4⟩ := hrel
    by_cases hlt : j < n + 120
    · have c1 : (j : Int) < (n : Int) + 120 := by omega
      have hl1 : j < (fillL ML j 5).length := by rw [fillL_len _ _ _ (by rw [HLL.out]; exact hj), HLL.out]; exact hlt
      obtain ⟨old, ho⟩ := LG4.out.old j hl1
      have hf := LG4.out.free j
      have SB5 : Hid (SB W (wr.setCell ⟨gl, j, none⟩ (.int .u32 5)) gb f r1 m1 m1 vL lv (benC f r1 vL) g3 q) := hid (SB4.out.other LG4.out.2.1 (.setCell _ _ _ _ (by simp)))
      have LG5 : Hid (LG (wr.setCell ⟨gl, j, none⟩ (.int .u32 5)) W r1 lv gl (fillL ML (j + 1) 5)) := hid (by rw [← fillL_set _ _ _ (by rw [HLL.out]; exact hlt)]; exact LG4.out.set j hl1 5)
      clear SB4 LG4
      go_wp2_with fail
      go_roundw
      case measure => simp [intOf] <;> omega
      case rel => exact ⟨j + 1, by omega, by go_num, SB5, LG5⟩
    · obtain rfl : j = n + 120 := by omega
      have c1 : ¬ (((n + 120 : Nat) : Int) < (n : Int) + 120) := by omega
      have LG6 : Hid (LG wr W r1 lv gl (fives n ++ fives 120)) := hid (by
        have e : fillL ML (n + 120) 5 = fives n ++ fives 120 := by
          rw [← HLL.out, fillL_full, HLL.out]; unfold fives; exact List.replicate_append_replicate.symm
        rw [← e]; exact LG4.out)
      clear LG4
      have F5 : (fives n).length = n := by simp [fives]
      have HF5 := hid F5
      clear F5
      go_wp2_with fail
      refine wp_region_held_drew (S := SS gb (benC f r1 vL) g3 q) (by kernel_rfl) (SB4.out.on (Below.refl _ _).drew).s (fun hHeld => ?_)
      refine wpAnyH_take (i := 0) (oi := { dst := some 56, op := Op.move (Operand.tmp 9), type := 4, pos := "law.go:148", after := #[], guard := none }) (v := .bool true) rfl (by kernel_rfl) (by kernel_rfl) (by kernel_rfl) (fun _ _ _ h => h) (Or.inl ⟨by rfl, by intro w hSw; go_simp⟩) (by assumption) ?_
      simp only [Act.put, List.setIfInBounds_toArray, List.set_cons_zero, List.set_cons_succ]
      refine wpAnyH_take (i := 1) (oi := { dst := some 57, op := Op.move (Operand.tmp 56), type := 4, pos := "law.go:148", after := #[{ on := 0, ground := Ground.data }], guard := none }) (v := .bool true) rfl (by kernel_rfl) (by kernel_rfl) (by kernel_rfl) (fun _ _ _ h => h) (Or.inl ⟨by rfl, by intro w hSw; go_simp⟩) (by assumption) ?_
      simp only [Act.put, List.setIfInBounds_toArray, List.set_cons_zero, List.set_cons_succ]
      refine wpAnyH_take (i := 2) (oi := { dst := some 58, op := Op.move (Operand.tmp 0), type := 62, pos := "law.go:148", after := #[{ on := 1, ground := Ground.guard }], guard := some (1, true) }) (v := .pointer (some ⟨gb, 0, none⟩)) rfl (by kernel_rfl) (by kernel_rfl) (by kernel_rfl) (fun _ _ _ h => h) (Or.inl ⟨by rfl, by intro w hSw; go_simp⟩) (by assumption) ?_
      simp only [Act.put, List.setIfInBounds_toArray, List.set_cons_zero, List.set_cons_succ]
      refine wpAnyH_take (i := 3) (oi := { dst := some 59, op := Op.move (Operand.tmp 1), type := 3, pos := "law.go:148", after := #[{ on := 1, ground := Ground.guard }], guard := some (1, true) }) (v := .int .i64 (i : Int)) rfl (by kernel_rfl) (by kernel_rfl) (by kernel_rfl) (fun _ _ _ h => h) (Or.inl ⟨by rfl, by intro w hSw; go_simp⟩) (by assumption) ?_
      simp only [Act.put, List.setIfInBounds_toArray, List.set_cons_zero, List.set_cons_succ]
      refine wpAnyH_take (i := 4) (oi := { dst := some 60, op := Op.nilCheck (Operand.tmp 58), type := 0, pos := "law.go:148", after := #[{ on := 2, ground := Ground.data }, { on := 1, ground := Ground.guard }], guard := some (1, true) }) (v := .pointer (some ⟨gb, 0, none⟩)) rfl (by kernel_rfl) (by kernel_rfl) (by kernel_rfl) (fun _ _ _ h => h) (Or.inl ⟨by rfl, by intro w hSw; go_simp⟩) (by assumption) ?_
      simp only [Act.put, List.setIfInBounds_toArray, List.set_cons_zero, List.set_cons_succ]
      refine wpAnyH_take (i := 5) (oi := { dst := some 61, op := Op.fieldAddr 68 (Operand.tmp 60) 0, type := 0, pos := "law.go:148", after := #[{ on := 4, ground := Ground.data }, { on := 1, ground := Ground.guard }], guard := some (1, true) }) (v := .pointer (some ⟨gb, 0, none⟩)) rfl (by kernel_rfl) (by kernel_rfl) (by kernel_rfl) (fun _ _ _ h => h) (Or.inl ⟨by rfl, by intro w hSw; go_simp⟩) (by assumption) ?_
      simp only [Act.put, List.setIfInBounds_toArray, List.set_cons_zero, List.set_cons_succ]
      refine wpAnyH_take (i := 6) (oi := { dst := some 62, op := Op.indexAddr 63 (Operand.tmp 61) (Operand.tmp 59), type := 0, pos := "law.go:148", after := #[{ on := 5, ground := Ground.data }, { on := 3, ground := Ground.data }, { on := 1, ground := Ground.guard }], guard := some (1, true) }) (v := .pointer (some ⟨gb, i, none⟩)) rfl (by kernel_rfl) (by kernel_rfl) (by kernel_rfl) (fun _ _ _ h => h) (Or.inl ⟨by rfl, by intro w hSw; go_simp⟩) (by assumption) ?_
      simp only [Act.put, List.setIfInBounds_toArray, List.set_cons_zero, List.set_cons_succ]
      refine wpAnyH_take (i := 7) (oi := { dst := some 63, op := Op.load 25 (Operand.tmp 62), type := 25, pos := "law.go:148", after := #[{ on := 6, ground := Ground.data }, { on := 1, ground := Ground.guard }], guard := some (1, true) }) (v := .pointer (some ⟨(f i).gm, 0, none⟩)) rfl (by kernel_rfl) (by kernel_rfl) (by kernel_rfl) (fun _ _ _ h => h) (Or.inl ⟨by rfl, by intro w hSw; have hcc := SS.cm hSw i hi; go_simp⟩) (by assumption) ?_
      simp only [Act.put, List.setIfInBounds_toArray, List.set_cons_zero, List.set_cons_succ]
      refine wpAnyH_take (i := 8) (oi := { dst := some 64, op := Op.fieldAddr 72 (Operand.tmp 5) 3, type := 0, pos := "law.go:148", after := #[{ on := 1, ground := Ground.guard }], guard := some (1, true) }) (v := .pointer (some ⟨g3, 3, none⟩)) rfl (by kernel_rfl) (by kernel_rfl) (by kernel_rfl) (fun _ _ _ h => h) (Or.inl ⟨by rfl, by intro w hSw; go_simp⟩) (by assumption) ?_
      simp only [Act.put, List.setIfInBounds_toArray, List.set_cons_zero, List.set_cons_succ]
      refine wpAnyH_take (i := 9) (oi := { dst := some 65, op := Op.load 23 (Operand.tmp 64), type := 23, pos := "law.go:148", after := #[{ on := 8, ground := Ground.data }, { on := 1, ground := Ground.guard }], guard := some (1, true) }) (v := .agg #[.bool q.s, .int .i64 q.p]) rfl (by kernel_rfl) (by kernel_rfl) (by kernel_rfl) (fun _ _ _ h => h) (yieldsIf_load_mid (by rfl) _ _ rfl _ _ rfl _ _ (fun w hSw => (Cel.rangeF hSw.2)) under23 rfl size23) (by assumption) ?_
      simp only [Act.put, List.setIfInBounds_toArray, List.set_cons_zero, List.set_cons_succ]
      refine wpAnyH_take (i := 10) (oi := { dst := some 66, op := Op.move (Operand.tmp 8), type := 24, pos := "law.go:148", after := #[{ on := 1, ground := Ground.guard }], guard := some (1, true) }) (v := .slice (some ⟨gl, 0, none⟩) (n + 120) lc) rfl (by kernel_rfl) (by kernel_rfl) (by kernel_rfl) (fun _ _ _ h => h) (Or.inl ⟨by rfl, by intro w hSw; go_simp⟩) (by assumption) ?_
      simp only [Act.put, List.setIfInBounds_toArray, List.set_cons_zero, List.set_cons_succ]
      refine wpAnyH_take (i := 11) (oi := { dst := some 67, op := Op.move (Operand.tmp 7), type := 24, pos := "law.go:148", after := #[{ on := 1, ground := Ground.guard }], guard := some (1, true) }) (v := .slice wo n wc) rfl (by kernel_rfl) (by kernel_rfl) (by kernel_rfl) (fun _ _ _ h => h) (Or.inl ⟨by rfl, by intro w hSw; go_simp⟩) (by assumption) ?_
      simp only [Act.put, List.setIfInBounds_toArray, List.set_cons_zero, List.set_cons_succ]
      refine wpAnyH_take (i := 12) (oi := { dst := some 68, op := Op.call { callee := Callee.builtin Builtin.len, args := #[Operand.tmp 67], argTypes := #[24] }, type := 3, pos := "law.go:148", after := #[{ on := 11, ground := Ground.data }, { on := 1, ground := Ground.guard }], guard := some (1, true) }) (v := .int .i64 (n : Int)) rfl (by kernel_rfl) (by kernel_rfl) (by kernel_rfl) (fun _ _ _ h => h) (Or.inl ⟨by rfl, by intro w hSw; go_simp⟩) (by assumption) ?_
      simp only [Act.put, List.setIfInBounds_toArray, List.set_cons_zero, List.set_cons_succ]
      refine wpAnyH_take (i := 13) (oi := { dst := some 69, op := Op.slice 24 (Operand.tmp 66) none (some (Operand.tmp 68)) none, type := 24, pos := "law.go:148", after := #[{ on := 10, ground := Ground.data }, { on := 12, ground := Ground.data }, { on := 1, ground := Ground.guard }], guard := some (1, true) }) (v := .slice (some ⟨gl, 0, none⟩) n lc) rfl (by kernel_rfl) (by kernel_rfl) (by kernel_rfl) (fun _ _ _ h => h) (Or.inl ⟨by rfl, by intro w hSw; have m1 : n ≤ lc := (by omega); (go_simp; try omega)⟩) (by assumption) ?_
      simp only [Act.put, List.setIfInBounds_toArray, List.set_cons_zero, List.set_cons_succ]
      refine wpAnyH_take (i := 16) (oi := { dst := some 72, op := Op.move (Operand.tmp 0), type := 62, pos := "law.go:148", after := #[{ on := 1, ground := Ground.guard }], guard := some (1, true) }) (v := .pointer (some ⟨gb, 0, none⟩)) rfl (by kernel_rfl) (by kernel_rfl) (by kernel_rfl) (fun _ _ _ h => h) (Or.inl ⟨by rfl, by intro w hSw; go_simp⟩) (by assumption) ?_
      simp only [Act.put, List.setIfInBounds_toArray, List.set_cons_zero, List.set_cons_succ]
      refine wpAnyH_take (i := 17) (oi := { dst := some 73, op := Op.move (Operand.tmp 1), type := 3, pos := "law.go:148", after := #[{ on := 1, ground := Ground.guard }], guard := some (1, true) }) (v := .int .i64 (i : Int)) rfl (by kernel_rfl) (by kernel_rfl) (by kernel_rfl) (fun _ _ _ h => h) (Or.inl ⟨by rfl, by intro w hSw; go_simp⟩) (by assumption) ?_
      simp only [Act.put, List.setIfInBounds_toArray, List.set_cons_zero, List.set_cons_succ]
      refine wpAnyH_take (i := 18) (oi := { dst := some 74, op := Op.nilCheck (Operand.tmp 72), type := 0, pos := "law.go:148", after := #[{ on := 16, ground := Ground.data }, { on := 1, ground := Ground.guard }], guard := some (1, true) }) (v := .pointer (some ⟨gb, 0, none⟩)) rfl (by kernel_rfl) (by kernel_rfl) (by kernel_rfl) (fun _ _ _ h => h) (Or.inl ⟨by rfl, by intro w hSw; go_simp⟩) (by assumption) ?_
      simp only [Act.put, List.setIfInBounds_toArray, List.set_cons_zero, List.set_cons_succ]
      refine wpAnyH_take (i := 19) (oi := { dst := some 75, op := Op.fieldAddr 68 (Operand.tmp 74) 1, type := 0, pos := "law.go:148", after := #[{ on := 18, ground := Ground.data }, { on := 1, ground := Ground.guard }], guard := some (1, true) }) (v := .pointer (some ⟨gb, 4, none⟩)) rfl (by kernel_rfl) (by kernel_rfl) (by kernel_rfl) (fun _ _ _ h => h) (Or.inl ⟨by rfl, by intro w hSw; go_simp⟩) (by assumption) ?_
      simp only [Act.put, List.setIfInBounds_toArray, List.set_cons_zero, List.set_cons_succ]
      refine wpAnyH_take (i := 20) (oi := { dst := some 76, op := Op.indexAddr 65 (Operand.tmp 75) (Operand.tmp 73), type := 0, pos := "law.go:148", after := #[{ on := 19, ground := Ground.data }, { on := 17, ground := Ground.data }, { on := 1, ground := Ground.guard }], guard := some (1, true) }) (v := .pointer (some ⟨gb, 4 + i, none⟩)) rfl (by kernel_rfl) (by kernel_rfl) (by kernel_rfl) (fun _ _ _ h => h) (Or.inl ⟨by rfl, by intro w hSw; go_simp⟩) (by assumption) ?_
      simp only [Act.put, List.setIfInBounds_toArray, List.set_cons_zero, List.set_cons_succ]
      refine wpAnyH_take (i := 21) (oi := { dst := some 77, op := Op.load 64 (Operand.tmp 76), type := 64, pos := "law.go:148", after := #[{ on := 20, ground := Ground.data }, { on := 1, ground := Ground.guard }], guard := some (1, true) }) (v := .pointer (some ⟨(r1 i).g, 0, none⟩)) rfl (by kernel_rfl) (by kernel_rfl) (by kernel_rfl) (fun _ _ _ h => h) (Or.inl ⟨by rfl, by intro w hSw; have hcc := SS.cr hSw i hi; go_simp⟩) (by assumption) ?_
      simp only [Act.put, List.setIfInBounds_toArray, List.set_cons_zero, List.set_cons_succ]
      refine wpAnyH_take (i := 22) (oi := { dst := some 78, op := Op.fieldAddr 72 (Operand.tmp 5) 3, type := 0, pos := "law.go:148", after := #[{ on := 1, ground := Ground.guard }], guard := some (1, true) }) (v := .pointer (some ⟨g3, 3, none⟩)) rfl (by kernel_rfl) (by kernel_rfl) (by kernel_rfl) (fun _ _ _ h => h) (Or.inl ⟨by rfl, by intro w hSw; go_simp⟩) (by assumption) ?_
      simp only [Act.put, List.setIfInBounds_toArray, List.set_cons_zero, List.set_cons_succ]
      refine wpAnyH_take (i := 23) (oi := { dst := some 79, op := Op.load 23 (Operand.tmp 78), type := 23, pos := "law.go:148", after := #[{ on := 22, ground := Ground.data }, { on := 1, ground := Ground.guard }], guard := some (1, true) }) (v := .agg #[.bool q.s, .int .i64 q.p]) rfl (by kernel_rfl) (by kernel_rfl) (by kernel_rfl) (fun _ _ _ h => h) (yieldsIf_load_mid (by rfl) _ _ rfl _ _ rfl _ _ (fun w hSw => (Cel.rangeF hSw.2)) under23 rfl size23) (by assumption) ?_
      simp only [Act.put, List.setIfInBounds_toArray, List.set_cons_zero, List.set_cons_succ]
      refine wpAnyH_take (i := 25) (oi := { dst := some 81, op := Op.move (Operand.tmp 8), type := 24, pos := "law.go:148", after := #[{ on := 1, ground := Ground.guard }], guard := some (1, true) }) (v := .slice (some ⟨gl, 0, none⟩) (n + 120) lc) rfl (by kernel_rfl) (by kernel_rfl) (by kernel_rfl) (fun _ _ _ h => h) (Or.inl ⟨by rfl, by intro w hSw; go_simp⟩) (by assumption) ?_
      simp only [Act.put, List.setIfInBounds_toArray, List.set_cons_zero, List.set_cons_succ]
      refine wpAnyH_take (i := 26) (oi := { dst := some 82, op := Op.move (Operand.tmp 7), type := 24, pos := "law.go:148", after := #[{ on := 1, ground := Ground.guard }], guard := some (1, true) }) (v := .slice wo n wc) rfl (by kernel_rfl) (by kernel_rfl) (by kernel_rfl) (fun _ _ _ h => h) (Or.inl ⟨by rfl, by intro w hSw; go_simp⟩) (by assumption) ?_
      simp only [Act.put, List.setIfInBounds_toArray, List.set_cons_zero, List.set_cons_succ]
      refine wpAnyH_take (i := 27) (oi := { dst := some 83, op := Op.call { callee := Callee.builtin Builtin.len, args := #[Operand.tmp 82], argTypes := #[24] }, type := 3, pos := "law.go:148", after := #[{ on := 26, ground := Ground.data }, { on := 1, ground := Ground.guard }], guard := some (1, true) }) (v := .int .i64 (n : Int)) rfl (by kernel_rfl) (by kernel_rfl) (by kernel_rfl) (fun _ _ _ h => h) (Or.inl ⟨by rfl, by intro w hSw; go_simp⟩) (by assumption) ?_
      simp only [Act.put, List.setIfInBounds_toArray, List.set_cons_zero, List.set_cons_succ]
      refine wpAnyH_take (i := 28) (oi := { dst := some 84, op := Op.slice 24 (Operand.tmp 81) none (some (Operand.tmp 83)) none, type := 24, pos := "law.go:148", after := #[{ on := 25, ground := Ground.data }, { on := 27, ground := Ground.data }, { on := 1, ground := Ground.guard }], guard := some (1, true) }) (v := .slice (some ⟨gl, 0, none⟩) n lc) rfl (by kernel_rfl) (by kernel_rfl) (by kernel_rfl) (fun _ _ _ h => h) (Or.inl ⟨by rfl, by intro w hSw; have m1 : n ≤ lc := (by omega); (go_simp; try omega)⟩) (by assumption) ?_
      simp only [Act.put, List.setIfInBounds_toArray, List.set_cons_zero, List.set_cons_succ]
      refine wpAnyH_ready (rs := [14]) (by kernel_rfl) (by simp) (AllReadyH.cons (o := { dst := some 70, op := Op.call { callee := Callee.value (Operand.func 16), args := #[Operand.tmp 63, Operand.tmp 65, Operand.tmp 69], argTypes := #[25, 23, 24] }, type := 26, pos := "law.go:148", after := #[{ on := 7, ground := Ground.data }, { on := 9, ground := Ground.data }, { on := 13, ground := Ground.data }, { on := 1, ground := Ground.chain }, { on := 1, ground := Ground.guard }], guard := some (1, true) }) rfl (fun KQ hK => ?_) AllReadyH.nil)
      go_simp
      have LC := lay_any _ (f i) (m1 i) (((SB4.out.on (Below.refl _ _).drew)).bn.mem i hi) q.s q.p (fives n) (some ⟨gl, 0, none⟩) lc (by rw [HF5.out]; omega) (fun _ _ => ⟨gl, 0, rfl, (LG6.out.on (Below.refl _ _).drew).2.1.ty.lt, fun hk => (((SB4.out.on (Below.refl _ _).drew)).bn.mem i hi).no (LG6.out.on (Below.refl _ _).drew).2.1.ty (by decide) (by decide) (by decide) (Fp.w_all' hk), (LG6.out.on (Below.refl _ _).drew).take⟩)
      rw [HF5.out] at LC
      refine LC.mono ?_
      rintro x wA ⟨rfl, hmA, hbA⟩
      have lgA := (LG6.out.on (Below.refl _ _).drew).f ((SB4.out.on (Below.refl _ _).drew)).bn i hi hbA
      have sbA := ((SB4.out.on (Below.refl _ _).drew)).fst i hi hbA hmA (len_lay _ _ _ _)
      clear LC
      go_wp2_with fail
      refine hK.out _ _ sbA.s (fun hHeld => ?_)
      clear hK KQ
      try simp only [Act.put, List.setIfInBounds_toArray, List.set_cons_zero, List.set_cons_succ]
      refine wpAnyH_ready (rs := [15]) (by kernel_rfl) (by simp) (AllReadyH.cons (o := { dst := some 71, op := Op.call { callee := Callee.value (Operand.func 8), args := #[Operand.tmp 70], argTypes := #[26] }, type := 3, pos := "law.go:148", after := #[{ on := 14, ground := Ground.data }, { on := 14, ground := Ground.chain }, { on := 1, ground := Ground.guard }], guard := some (1, true) }) rfl (fun KQ hK => ?_) AllReadyH.nil)
      go_simp
      refine (num_any _ _).mono ?_
      rintro x wn ⟨rfl, rfl⟩
      go_wp2_with fail
      refine hK.out _ _ sbA.s (fun hHeld => ?_)
      clear hK KQ
      try simp only [Act.put, List.setIfInBounds_toArray, List.set_cons_zero, List.set_cons_succ]
      refine wpAnyH_ready (rs := [24]) (by kernel_rfl) (by simp) (AllReadyH.cons (o := { dst := some 80, op := Op.call { callee := Callee.value (Operand.func 42), args := #[Operand.tmp 79], argTypes := #[23] }, type := 95, pos := "law.go:148", after := #[{ on := 23, ground := Ground.data }, { on := 15, ground := Ground.chain }, { on := 1, ground := Ground.guard }], guard := some (1, true) }) rfl (fun KQ hK => ?_) AllReadyH.nil)
      go_simp
      refine (doc_any _ q.s q.p).mono ?_
      rintro x wB ⟨rfl, hbB⟩
      have sbB := (sbA).on hbB
      have lgB := lgA.on hbB
      simp only [fr]
      go_wp2_with fail
      refine hK.out _ _ sbB.s (fun hHeld => ?_)
      clear hK KQ
      try simp only [Act.put, List.setIfInBounds_toArray, List.set_cons_zero, List.set_cons_succ]
      refine wpAnyH_ready (rs := [29]) (by kernel_rfl) (by simp) (AllReadyH.cons (o := { dst := some 85, op := Op.call { callee := Callee.value (Operand.func 66), args := #[Operand.tmp 77, Operand.tmp 80, Operand.tmp 84], argTypes := #[64, 95, 24] }, type := 3, pos := "law.go:148", after := #[{ on := 21, ground := Ground.data }, { on := 24, ground := Ground.data }, { on := 28, ground := Ground.data }, { on := 24, ground := Ground.chain }, { on := 1, ground := Ground.guard }], guard := some (1, true) }) rfl (fun KQ hK => ?_) AllReadyH.nil)
      go_simp
      have RC := rlay_any _ (r1 i) (m1 i) ((sbB).bn.rmem i hi) q.s q.p (fives n) (some ⟨gl, 0, none⟩) lc (by rw [HF5.out]; omega) (fun _ => ⟨gl, 0, rfl, lgB.2.1.ty.lt, lgB.2.1.nr i hi, lgB.take⟩)
      rw [HF5.out] at RC
      refine RC.mono ?_
      rintro x wC ⟨rfl, rC, hrC⟩
      have sbC := sbB.rst i hi hrC (len_lay _ _ _ _)
      clear RC
      go_wp2_with fail
      refine hK.out _ _ sbC.s (fun hHeld => ?_)
      clear hK KQ
      try simp only [Act.put, List.setIfInBounds_toArray, List.set_cons_zero, List.set_cons_succ]
      refine wpAnyH_take (i := 30) (oi := { dst := some 86, op := Op.binOp BinOp.eql 3 (Operand.tmp 71) (Operand.tmp 85) 3, type := 4, pos := "law.go:148", after := #[{ on := 15, ground := Ground.data }, { on := 29, ground := Ground.data }, { on := 1, ground := Ground.guard }], guard := some (1, true) }) (v := .bool true) rfl (by kernel_rfl) (by kernel_rfl) (by kernel_rfl) (fun _ _ _ h => h) (Or.inl ⟨by rfl, by intro w hSw; go_simp⟩) (by assumption) ?_
      simp only [Act.put, List.setIfInBounds_toArray, List.set_cons_zero, List.set_cons_succ]
      refine wpAnyH_take (i := 31) (oi := { dst := some 87, op := Op.pick (Operand.tmp 57) (Operand.tmp 86) (Operand.const (Value.bool false)), type := 4, pos := "law.go:148", after := #[{ on := 1, ground := Ground.data }, { on := 30, ground := Ground.data }], guard := none }) (v := .bool true) rfl (by kernel_rfl) (by kernel_rfl) (by kernel_rfl) (fun _ _ _ h => h) (Or.inl ⟨by rfl, by intro w hSw; go_simp⟩) (by assumption) ?_
      simp only [Act.put, List.setIfInBounds_toArray, List.set_cons_zero, List.set_cons_succ]
      refine wpAnyH_ready (rs := [32]) (by kernel_rfl) (by simp) (AllReadyH.cons (o := { dst := some 6, op := Op.assign (Operand.tmp 87), type := 4, pos := "law.go:148", after := #[{ on := 31, ground := Ground.data }, { on := 29, ground := Ground.chain }, { on := 0, ground := Ground.phase }, { on := 1, ground := Ground.phase }, { on := 2, ground := Ground.phase }, { on := 3, ground := Ground.phase }, { on := 4, ground := Ground.phase }, { on := 5, ground := Ground.phase }, { on := 6, ground := Ground.phase }, { on := 7, ground := Ground.phase }, { on := 8, ground := Ground.phase }, { on := 9, ground := Ground.phase }, { on := 10, ground := Ground.phase }, { on := 11, ground := Ground.phase }, { on := 12, ground := Ground.phase }, { on := 13, ground := Ground.phase }, { on := 14, ground := Ground.phase }, { on := 15, ground := Ground.phase }, { on := 16, ground := Ground.phase }, { on := 17, ground := Ground.phase }, { on := 18, ground := Ground.phase }, { on := 19, ground := Ground.phase }, { on := 20, ground := Ground.phase }, { on := 21, ground := Ground.phase }, { on := 22, ground := Ground.phase }, { on := 23, ground := Ground.phase }, { on := 24, ground := Ground.phase }, { on := 25, ground := Ground.phase }, { on := 26, ground := Ground.phase }, { on := 27, ground := Ground.phase }, { on := 28, ground := Ground.phase }, { on := 29, ground := Ground.phase }, { on := 30, ground := Ground.phase }, { on := 31, ground := Ground.phase }], guard := none }) rfl (fun KQ hK => ?_) AllReadyH.nil)
      go_simp
      refine hK.out _ _ sbC.s (fun hHeld => ?_)
      clear hK KQ
      try simp only [Act.put, List.setIfInBounds_toArray, List.set_cons_zero, List.set_cons_succ]
      refine wpAnyH_done (by kernel_rfl) ?_ _
      clear hHeld
      have HFIN := hid sbC.bn
      clear sbC
      go_wp2_with fail
      go_ret
      exact ⟨rfl, f, _, _, vL, lv, HFIN.out, by omega, H4.out⟩
end Go.Proofs.Ytnmdhnbgikbpoaa
