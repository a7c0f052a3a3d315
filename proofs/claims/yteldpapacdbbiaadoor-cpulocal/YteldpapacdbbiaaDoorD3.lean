/- The law's reach 19. -/
import Derived.Test.YteldpapacdbbiaaDoorD2
import Derived.Test.YteldpapacdbbiaaDoorCg
namespace Go.Proofs.YteldpapacdbbiaaDoor
open Go.RowKit
set_option maxHeartbeats 8000000
set_option maxRecDepth 100000
attribute [-simp] Tryd.isAgg26 Tryd.sizeOf26 Tryd.isAgg24 Tryd.isAgg28 Tryd.sizeOf28
def rcs (v : Value) (st ts : Bool) (tp tf : Int) : List Value := [v, .bool st, .bool ts, .int .i64 tp, .int .i64 tf]
theorem cel5 {w : World} {g : Nat} {v : Value} {st ts : Bool} {tp tf : Int} (h : Cel w g 64 (rcs v st ts tp tf)) : w.cell? ⟨g, 0, none⟩ = some v ∧ w.cell? ⟨g, 1, none⟩ = some (.bool st) ∧ w.cell? ⟨g, 2, none⟩ = some (.bool ts) ∧ w.cell? ⟨g, 3, none⟩ = some (.int .i64 tp) ∧ w.cell? ⟨g, 4, none⟩ = some (.int .i64 tf) :=
  ⟨h.cell 0, h.cell 1, h.cell 2, h.cell 3, h.cell 4⟩
theorem chain5 {w w3 : World} {g : Nat} {cs : List Value} (h : Cel w g 64 cs) (x y z t u : Value) (hl : cs.length = 5) (e : ((((w.setCell ⟨g, 0, none⟩ x).setCell ⟨g, 1, none⟩ y).setCell ⟨g, 2, none⟩ z).setCell ⟨g, 3, none⟩ t).setCell ⟨g, 4, none⟩ u = w3) :
    (w3.cell? ⟨g, 0, none⟩ = some x ∧ w3.cell? ⟨g, 1, none⟩ = some y ∧ w3.cell? ⟨g, 2, none⟩ = some z ∧ w3.cell? ⟨g, 3, none⟩ = some t ∧ w3.cell? ⟨g, 4, none⟩ = some u) ∧ ButL [g] w w3 := by
  have h4 : Cel w3 g 64 [x, y, z, t, u] := by
    rw [← e]
    match cs, hl with
    | [c0, c1, c2, c3, c4], _ => exact ((((h.setCell 0 x).setCell 1 y).setCell 2 z).setCell 3 t).setCell 4 u
  exact ⟨⟨h4.cell 0, h4.cell 1, h4.cell 2, h4.cell 3, h4.cell 4⟩, by rw [← e]; exact ((((ButL.setCell w g 0 x (by simp)).trans (.setCell _ g 1 y (by simp))).trans (.setCell _ g 2 z (by simp))).trans (.setCell _ g 3 t (by simp))).trans (.setCell _ g 4 u (by simp))⟩
/-- A Reach that is being put together. -/
structure RS (W x : World) (g5 g6 g7 : Nat) (fp : Fp) (m : MS) (f : F) (v : Value) (L : List Pl) (st ts : Bool) (tp tf : Int) : Prop where
  mem : Mem x fp m
  lm : ∀ k ∈ fp.all, k < W.heap.size
  c5 : Cel x g5 26 f.cs
  c6 : Cel x g6 64 (rcs (.slice none 0 0) false false 0 0)
  c7 : Cel x g7 64 (rcs v st ts tp tf)
  hp : Hp W x v L
  l6 : W.heap.size ≤ g6
  l7 : W.heap.size ≤ g7
  n : g6 ≠ g7
theorem RS.on {W x x' : World} {g5 g6 g7 : Nat} {fp : Fp} {m : MS} {f : F} {v : Value} {L : List Pl} {st ts : Bool} {tp tf : Int} (h : RS W x g5 g6 g7 fp m f v L st ts tp tf) (k : Below x.heap.size x x') : RS W x' g5 g6 g7 fp m f v L st ts tp tf :=
  ⟨h.mem.on k, h.lm, h.c5.on k, h.c6.on k, h.c7.on k, h.hp.on k, h.l6, h.l7, h.n⟩
theorem Hp.put {W x x' : World} {v : Value} {L : List Pl} {g : Nat} {t : TypeId} {cs : List Value} (h : Hp W x v L) (hc : Cel x g t cs) (ht : t ≠ 48) (hb : ButL [g] x x') (hl : W.heap.size ≤ g) : Hp W x' v L :=
  h.but hb (by simpa using hl) (fun b hb' hm => by
    simp at hm
    obtain ⟨_, cur, hh⟩ := h.blk hb'
    rw [hm] at hh
    unfold Cel at hc
    rw [hc] at hh
    injection hh with hh
    injection hh with _ h2 _
    exact ht h2)
theorem RS.grow {W x x' : World} {g5 g6 g7 : Nat} {fp : Fp} {m : MS} {f : F} {v v' : Value} {L L' : List Pl} {st ts : Bool} {tp tf : Int} (h : RS W x g5 g6 g7 fp m f v L st ts tp tf) (h' : Hp W x' v' L') (hg : x.grownBy x' v.ownBlock) : RS W (x'.setCell ⟨g7, 0, none⟩ v') g5 g6 g7 fp m f v' L' st ts tp tf := by
  have c7 := h.hp.keep hg h.c7 (.inl (by decide))
  have c6 := h.hp.keep hg h.c6 (.inl (by decide))
  have c5 := h.hp.keep hg h.c5 (.inl (by decide))
  have hb := ButL.setCell (G := [g7]) x' g7 0 v' (by simp)
  exact ⟨(h.hp.mem hg h.mem h.lm).frame hb (fun k hk hm => by have := h.lm k hk; have := h.l7; simp at hm; omega), h.lm, c5.but hb (by simpa using c5.ne c7 (by decide)), c6.but hb (by simpa using h.n), c7.setCell 0 v', h'.put c7 (by decide) hb h.l7, h.l6, h.l7, h.n⟩
theorem RS.same {W x x' : World} {g5 g6 g7 : Nat} {fp : Fp} {m : MS} {f : F} {v : Value} {L : List Pl} {st ts st' ts' : Bool} {tp tf tp' tf' : Int} (h : RS W x g5 g6 g7 fp m f v L st ts tp tf) (hc : Cel x' g7 64 (rcs v st' ts' tp' tf')) (hb : ButL [g7] x x') : RS W x' g5 g6 g7 fp m f v L st' ts' tp' tf' :=
  ⟨h.mem.frame hb (fun k hk hm => by have := h.lm k hk; have := h.l7; simp at hm; omega), h.lm, h.c5.but hb (by simpa using h.c5.ne h.c7 (by decide)), h.c6.but hb (by simpa using h.n), hc, h.hp.put h.c7 (by decide) hb h.l7, h.l6, h.l7, h.n⟩
theorem RS.fin {W x x' : World} {g5 g6 g7 : Nat} {fp : Fp} {m : MS} {f : F} {v : Value} {L : List Pl} {st ts : Bool} {tp tf : Int} (h : RS W x g5 g6 g7 fp m f v L st ts tp tf) (hb : ButL [g6] x x') : Hp W x' v L := h.hp.put h.c6 (by decide) hb h.l6
/-- Where a step's store goes. -/
def stT (m : MS) (l : Int) (f : F) : Pl := if m.trE l f.pc 2 = 0 ∧ I.decE (m.fw l f.pc) = 0 ∧ acc (I.dec (m.fw l f.pc)) = 1 then (m.trS l (ad f (I.dec (m.fw l f.pc))) 1, m.trP l (ad f (I.dec (m.fw l f.pc))) 1, m.trO l (ad f (I.dec (m.fw l f.pc))) 1) else (false, 0, 0)
theorem tbl_len (m : MS) (l va : Int) : (m.tbl l va).length ≤ 2 := by unfold MS.tbl; split; split <;> simp; simp
theorem new3 (w : World) (s : Bool) (p o : Int) : ∀ j u, (plcs [(s, p, o)])[j]? = some u → (w.alloc (.cells #[.bool s, .int .i64 p, .int .i64 o] 48)).cell? ((⟨w.heap.size, 0, none⟩ : Addr).add j) = some u := by
  intro j u hu
  have := (Cel.new w 48 [.bool s, .int .i64 p, .int .i64 o]).cell j
  rw [Addr.add_mid, Nat.zero_add, this]
  exact hu
theorem wp_append_t {W w : World} {o : Oper} {a : Act} {K : Act → World → Prop} {Q : Exit → Act → World → Prop} (s x : Operand)
    (ho : o.op = .call { callee := .builtin .append, args := #[s, x], argTypes := #[62, 62] }) (v : Value) (L : List Pl) (hs : a.eval s = v) (H : Hp W w v L) (vx : Value) (xs : List Pl) (hx : a.eval x = vx)
    (hf : (xs = [] ∧ vx = .slice none 0 0) ∨ ∃ g, vx = .slice (some ⟨g, 0, none⟩) xs.length xs.length ∧ Cel w g 48 (plcs xs)) (hb : L.length + xs.length ≤ 100)
    (h : ∀ v' w', Hp W w' v' (L ++ xs) → w.grownBy w' v.ownBlock → K (a.put o.dst v') w') : o.wp Tryd.prog a w K Q := by
  rcases hf with ⟨rfl, rfl⟩ | ⟨g, rfl, hc⟩
  · exact wp_append_0 s x ho v L hs H hx (h v w (by rw [List.append_nil]; exact H) ⟨rfl, rfl, rfl, Nat.le_refl _, fun _ _ _ => rfl⟩)
  · exact wp_append_p s x ho v L hs H _ _ _ xs hx rfl (fun j u hu => by rw [Addr.add_mid, Nat.zero_add, hc.cell j]; exact hu) hb h
theorem reach_t (W w : World) (g5 g6 g7 g10 : Nat) (fp : Fp) (m : MS) (hU : m.U) (f : F) (v : Value) (L : List Pl) (hL : L.length ≤ 50) (l va : Int) (v0 : 0 ≤ va) (v1 : va < 4294967296) (i : Ins) (h : RS W w g5 g6 g7 fp m f v L false false 0 0) (hc : Cel w g10 57 i.cs) (RD : List Pl) (SS : Bool) (TT : Pl) (h1 : i.op = 16 ∨ i.op = 18 → RD = L ∧ SS = (m.trE l va 1 == 0) ∧ TT = (m.trS l va 1, m.trP l va 1, m.trO l va 1)) (h0 : ¬ (i.op = 16 ∨ i.op = 18) → RD = L ++ (if m.trE l va 0 = 0 then [(m.trS l va 0, m.trP l va 0, m.trO l va 0)] else []) ∧ SS = false ∧ TT = (false, 0, 0)) (z2 z3 z4 z5 z8 z9 z11 z13 z14 z15 z16 z17 z18 z19 z20 z21 z22 z23 z24 z25 z26 z27 z28 z29 z30 z31 z32 z33 z34 z35 z36 z37 z38 z39 z40 z41 z42 z43 z44 z45 z46 z47 z48 z49 z50 z51 z52 z53 z54 z55 z56 z57 z58 z59 z60 z61 z62 z63 z64 z65 z66 z67 z68 z69 z70 z71 z72 z73 z74 z75 z76 z77 z78 z79 z80 z81 z82 z83 z84 z85 z86 z87 z88 z89 z90 z91 z92 z93 z94 z95 z96 z97 z98 z99 z100 z101 z102 z103 z104 z105 : Value) :
    Code.wp Tryd.prog (sfx 9 (Tryd.f19.body.getD .skip)) (bodyPost Tryd.prog Tryd.f19 fun e W' => ∃ v, e = .returned (.agg (rcs v SS TT.1 TT.2.1 TT.2.2).toArray) ∧ Hp W W' v RD) { tmps := #[.pointer (some ⟨fp.gm, 0, none⟩), .int .i64 l, z2, z3, z4, z5, .pointer (some ⟨g6, 0, none⟩), .pointer (some ⟨g7, 0, none⟩), z8, z9, .pointer (some ⟨g10, 0, none⟩), z11, .int .u32 va, z13, z14, z15, z16, z17, z18, z19, z20, z21, z22, z23, z24, z25, z26, z27, z28, z29, z30, z31, z32, z33, z34, z35, z36, z37, z38, z39, z40, z41, z42, z43, z44, z45, z46, z47, z48, z49, z50, z51, z52, z53, z54, z55, z56, z57, z58, z59, z60, z61, z62, z63, z64, z65, z66, z67, z68, z69, z70, z71, z72, z73, z74, z75, z76, z77, z78, z79, z80, z81, z82, z83, z84, z85, z86, z87, z88, z89, z90, z91, z92, z93, z94, z95, z96, z97, z98, z99, z100, z101, z102, z103, z104, z105], defers := [] } w := by
  have HR := hid h
  have HQ := hid (cel6 hc)
  have HL := hid hL
  have H1 := hid h1
  have H2 := hid h0
  have HCo := hid (fun x a (hx : Mem x fp m) => comes_any x fp m hx hU l va a v0 v1)
  clear h hc hL h1 h0 hU v0 v1
  simp only [plc] at HCo
  unfold ptr at *
  obtain ⟨op, cond, a, b, c, imm⟩ := i
  obtain ⟨ao, cp, hv⟩ := HR.out.hp.form
  subst hv
  refine sfx_walk 9 rfl (by simp only [sfx]; rfl) ?_
  have q0 := HQ.out.1
  simp only at q0
  clear HQ
  by_cases e1 : op = 16 ∨ op = 18
  · obtain ⟨rfl, rfl, rfl⟩ := H1.out e1
    clear H1 H2
    have f1 := HR.out.c7.free 1
    rcases e1 with rfl | rfl
    · go_upto_region 13 with (go_at_call 14; refine (HCo.out _ 1 HR.out.mem).mono ?_; rintro e w1 ⟨rfl, hb1⟩; have HR1 := hid (HR.out.on hb1); obtain ⟨y0, y1, y2, y3, y4⟩ := cel5 HR1.out.c7; have k1 := HR1.out.c7.free 1; have k2 := HR1.out.c7.free 2; have k3 := HR1.out.c7.free 3; have k4 := HR1.out.c7.free 4; clear hb1)
      have HR2 := hid (HR1.out.same ((((HR1.out.c7.setCell 2 (.bool (m.trS l va 1))).setCell 3 (.int .i64 (m.trP l va 1))).setCell 4 (.int .i64 (m.trO l va 1))).setCell 1 (.bool (m.trE l va 1 == 0))) ((((ButL.setCell w1 g7 2 (.bool (m.trS l va 1)) (by simp)).trans (.setCell _ g7 3 (.int .i64 (m.trP l va 1)) (by simp))).trans (.setCell _ g7 4 (.int .i64 (m.trO l va 1)) (by simp))).trans (.setCell _ g7 1 (.bool (m.trE l va 1 == 0)) (by simp))))
      generalize hX5 : World.setCell _ _ _ = X5 at *
      clear hX5 y0 y1 y2 y3 y4 k1 k2 k3 k4 HR1 HR q0 f1
      obtain ⟨a0, a1, a2, a3, a4⟩ := cel5 HR2.out.c7
      obtain ⟨b0, b1, b2, b3, b4⟩ := cel5 HR2.out.c6
      have af0 := HR2.out.c6.free 0
      have af1 := HR2.out.c6.free 1
      have af2 := HR2.out.c6.free 2
      have af3 := HR2.out.c6.free 3
      have af4 := HR2.out.c6.free 4
      go_wp2_with (go_at_call 10; refine (num_any _ _).mono ?_; rintro e wn ⟨rfl, rfl⟩)
      generalize hX9 : World.setCell _ _ _ = w9
      have HC9 := chain5 HR2.out.c6 _ _ _ _ _ rfl hX9
      have HP9 := hid (HR2.out.fin HC9.2)
      clear hX9
      obtain ⟨⟨d0, d1, d2, d3, d4⟩, _⟩ := HC9
      (refine bodyPost_ret (by simp [results, Tryd.results19, go_sem, d0, d1, d2, d3, d4]; try rfl) rfl ?_)
      exact ⟨_, rfl, HP9.out⟩
    · go_upto_region 13 with (go_at_call 14; refine (HCo.out _ 1 HR.out.mem).mono ?_; rintro e w1 ⟨rfl, hb1⟩; have HR1 := hid (HR.out.on hb1); obtain ⟨y0, y1, y2, y3, y4⟩ := cel5 HR1.out.c7; have k1 := HR1.out.c7.free 1; have k2 := HR1.out.c7.free 2; have k3 := HR1.out.c7.free 3; have k4 := HR1.out.c7.free 4; clear hb1)
      have HR2 := hid (HR1.out.same ((((HR1.out.c7.setCell 2 (.bool (m.trS l va 1))).setCell 3 (.int .i64 (m.trP l va 1))).setCell 4 (.int .i64 (m.trO l va 1))).setCell 1 (.bool (m.trE l va 1 == 0))) ((((ButL.setCell w1 g7 2 (.bool (m.trS l va 1)) (by simp)).trans (.setCell _ g7 3 (.int .i64 (m.trP l va 1)) (by simp))).trans (.setCell _ g7 4 (.int .i64 (m.trO l va 1)) (by simp))).trans (.setCell _ g7 1 (.bool (m.trE l va 1 == 0)) (by simp))))
      generalize hX5 : World.setCell _ _ _ = X5 at *
      clear hX5 y0 y1 y2 y3 y4 k1 k2 k3 k4 HR1 HR q0 f1
      obtain ⟨a0, a1, a2, a3, a4⟩ := cel5 HR2.out.c7
      obtain ⟨b0, b1, b2, b3, b4⟩ := cel5 HR2.out.c6
      have af0 := HR2.out.c6.free 0
      have af1 := HR2.out.c6.free 1
      have af2 := HR2.out.c6.free 2
      have af3 := HR2.out.c6.free 3
      have af4 := HR2.out.c6.free 4
      go_wp2_with (go_at_call 10; refine (num_any _ _).mono ?_; rintro e wn ⟨rfl, rfl⟩)
      generalize hX9 : World.setCell _ _ _ = w9
      have HC9 := chain5 HR2.out.c6 _ _ _ _ _ rfl hX9
      have HP9 := hid (HR2.out.fin HC9.2)
      clear hX9
      obtain ⟨⟨d0, d1, d2, d3, d4⟩, _⟩ := HC9
      (refine bodyPost_ret (by simp [results, Tryd.results19, go_sem, d0, d1, d2, d3, d4]; try rfl) rfl ?_)
      exact ⟨_, rfl, HP9.out⟩
  · obtain ⟨hRD, rfl, rfl⟩ := H2.out e1
    clear H1 H2
    have n1 : (op == 16) = false := by simp; exact fun h => e1 (.inl h)
    have n2 : (op == 18) = false := by simp; exact fun h => e1 (.inr h)
    clear e1
    go_upto_region 14 with fail
    go_wp2_with fail
    refine (HCo.out _ 0 HR.out.mem).mono ?_
    rintro e w1 ⟨rfl, hb1⟩
    have HR1 := hid ((HR.out.on hb1).on (below_one w1 (.cells #[.bool (m.trS l va 0), .int .i64 (m.trP l va 0), .int .i64 (m.trO l va 0)] 48)))
    have HC13 := hid (Cel.new w1 48 [.bool (m.trS l va 0), .int .i64 (m.trP l va 0), .int .i64 (m.trO l va 0)])
    clear hb1 HR q0
    go_upto_region 15 with fail
    generalize hX1 : World.alloc _ _ = X1 at *
    clear hX1
    generalize w1.heap.size = g13 at *
    by_cases te : m.trE l va 0 = 0
    · have hb : (m.trE l va 0 == 0) = true := by rw [te]; rfl
      rw [if_pos te] at hRD
      subst hRD
      rw [hb]
      clear te hb
      have r0 := HC13.out.cell 0
      have r1 := HC13.out.cell 1
      have r2 := HC13.out.cell 2
      simp only [List.getElem?_cons_zero, List.getElem?_cons_succ] at r0 r1 r2
      go_upto_region 16 with fail
      have a0 := (cel5 HR1.out.c7).1
      go_upto_region 17 with (refine wpList_append_p rfl _ _ rfl _ _ rfl (HR1.out.hp.on (below_one _ _)) _ _ _ [(m.trS l va 0, m.trP l va 0, m.trO l va 0)] rfl rfl (new3 _ _ _ _) (by have := HL.out; simp; omega) ?_; intro v5 w5 hp5 hgr5; obtain ⟨ao5, cp5, hv5⟩ := hp5.form; generalize hn5 : List.length _ = n5 at hv5; clear hn5; subst hv5; have z7 := (HR1.out.on (below_one _ _)).hp.keep hgr5 (HR1.out.on (below_one _ _)).c7 (.inl (by decide)); have f7 := z7.free 0; have u7 := (cel5 z7).1; clear z7; have HR5 := hid ((HR1.out.on (below_one _ _)).grow hp5 hgr5); clear hp5 hgr5)
      generalize hX5 : World.setCell _ _ _ = X5 at *
      clear hX5 f7 u7 r0 r1 r2 a0 HR1
      obtain ⟨a0, a1, a2, a3, a4⟩ := cel5 HR5.out.c7
      obtain ⟨b0, b1, b2, b3, b4⟩ := cel5 HR5.out.c6
      have af0 := HR5.out.c6.free 0
      have af1 := HR5.out.c6.free 1
      have af2 := HR5.out.c6.free 2
      have af3 := HR5.out.c6.free 3
      have af4 := HR5.out.c6.free 4
      go_wp2_with (go_at_call 10; refine (num_any _ _).mono ?_; rintro e wn ⟨rfl, rfl⟩)
      generalize hX9 : World.setCell _ _ _ = w9
      have HC9 := chain5 HR5.out.c6 _ _ _ _ _ rfl hX9
      have HP9 := hid (HR5.out.fin HC9.2)
      clear hX9
      obtain ⟨⟨d0, d1, d2, d3, d4⟩, _⟩ := HC9
      (refine bodyPost_ret (by simp [results, Tryd.results19, go_sem, d0, d1, d2, d3, d4]; try rfl) rfl ?_)
      exact ⟨_, rfl, HP9.out⟩
    · have hb : (m.trE l va 0 == 0) = false := by simpa using te
      rw [if_neg te, List.append_nil] at hRD
      subst hRD
      rw [hb]
      clear te hb
      obtain ⟨a0, a1, a2, a3, a4⟩ := cel5 HR1.out.c7
      obtain ⟨b0, b1, b2, b3, b4⟩ := cel5 HR1.out.c6
      have af0 := HR1.out.c6.free 0
      have af1 := HR1.out.c6.free 1
      have af2 := HR1.out.c6.free 2
      have af3 := HR1.out.c6.free 3
      have af4 := HR1.out.c6.free 4
      go_wp2_with (go_at_call 10; refine (num_any _ _).mono ?_; rintro e wn ⟨rfl, rfl⟩)
      generalize hX9 : World.setCell _ _ _ = w9
      have HC9 := chain5 HR1.out.c6 _ _ _ _ _ rfl hX9
      have HP9 := hid (HR1.out.fin HC9.2)
      clear hX9
      obtain ⟨⟨d0, d1, d2, d3, d4⟩, _⟩ := HC9
      (refine bodyPost_ret (by simp [results, Tryd.results19, go_sem, d0, d1, d2, d3, d4]; try rfl) rfl ?_)
      exact ⟨_, rfl, HP9.out⟩

end Go.Proofs.YteldpapacdbbiaaDoor
