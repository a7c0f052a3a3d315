/- Free 16. -/
import Derived.Test.YtajkhkaidjjioaaIc
namespace Go.Proofs.Ytajkhkaidjjioaa
open Go.RowKit Go.Shelf
set_option maxHeartbeats 2000000
set_option maxRecDepth 100000
attribute [local go_sem] Oper.semAt_some
theorem cntN_le (f : Nat → Bool) (k : Nat) : cntN f k ≤ k := by
  induction k with
  | zero => exact Nat.le_refl _
  | succ k ih => rw [cntN]; split <;> omega
/-- What Free holds between two rounds. -/
structure FJ (w W : World) (p : Dp) (d : DS) (gc bd bs L D : Nat) (r : Loop) (so : Value) (c : Int) : Prop where
  db : DB W p d
  but : Below w.heap.size w W
  cd : Ob W bd (box (.pointer (some ⟨p.g, 0, none⟩)) 23)
  cs : Ob W bs (box so 103)
  l : Ob W L (.loop r)
  d : Ob W D (.deferred (some []))
  cnt : Ob W gc (box (.int .i64 c) 3)
theorem FJ.on {w W W' : World} {p : Dp} {d : DS} {gc bd bs L D : Nat} {r : Loop} {so : Value} {c : Int} (h : FJ w W p d gc bd bs L D r so c) (hb : Below W.heap.size W W') : FJ w W' p d gc bd bs L D r so c :=
  ⟨h.db.on hb, below_on h.but hb, h.cd.on hb, h.cs.on hb, h.l.on hb, h.d.on hb, h.cnt.on hb⟩
theorem free_in (n : Nat) (w : World) (p : Dp) (d : DS) (h : DB w p d) :
    CallsIn .wide n Try.prog 16 #[.pointer (some ⟨p.g, 0, none⟩)] w fun x w' => x = .returned (.int .i64 (d.free : Int)) ∧ Below w.heap.size w w' := by
  have n64 := h.ok.n64
  have HD := hid (h.on (below_one w (.cells #[.int .i64 0] 3)))
  have HC : Hid (Ob (w.alloc (.cells #[.int .i64 0] 3)) w.heap.size (box (.int .i64 0) 3)) := hid (heap_alloc_new _ _)
  have HB := hid (below_one w (.cells #[.int .i64 0] 3))
  have HLt := hid h.lt
  clear h
  refine callsIn_of_wp_marks Try.func16 rfl trivial ?_ rfl
  simp only [Try.ntmps16, List.size_toArray, List.length_cons, List.length_nil, Nat.reduceAdd, Nat.reduceSub, Array.replicate_succ, Array.replicate_zero, List.push_toArray, List.append_toArray, List.nil_append, List.cons_append]
  gi_wp2
  generalize hX : w.alloc _ = X at *
  clear hX
  refine ⟨trivial, (fun h => by cases h), CallsIn.mono (callsIn_wide.2 (pagesf_any _ _ _ _)) ?_⟩
  rintro x w3 ⟨bd, bs, rfl, hcd, hcs, ld, ls, hb3⟩
  have hxs := HB.out.size
  have hgX := HC.out.lt
  have HD3 := hid (HD.out.on hb3)
  have HC3 := hid (HC.out.on hb3)
  have HB3 := hid (below_on HB.out hb3)
  have HCD := hid hcd
  have HCS := hid hcs
  clear hb3 hcd hcs HD HC HB
  gi_wp2
  generalize hgc : w.heap.size = gc at HC3 hgX ⊢
  have HGC := hid hgc
  clear hgc
  refine range_out rfl rfl (gf := 92) (lb := #[.pointer (some ⟨bd, 0, none⟩), .pointer (some ⟨bs, 0, none⟩)]) rfl trivial (enters_of Try.func92 (by kernel_rfl) rfl) ?_
  intro fn hfn
  generalize hr0 : recOf fn _ _ _ _ _ = r0
  have hW1 : Below w3.heap.size w3 ((w3.alloc (.deferred (some []))).alloc (.loop r0)) := below_on (below_one _ _) (below_one _ _)
  have hD : Ob ((w3.alloc (.deferred (some []))).alloc (.loop r0)) w3.heap.size (.deferred (some [])) := Ob.on (heap_alloc_new w3 _) (below_one _ _)
  have hL : Ob ((w3.alloc (.deferred (some []))).alloc (.loop r0)) (w3.heap.size + 1) (.loop r0) := by
    have := heap_alloc_new (w3.alloc (.deferred (some []))) (.loop r0)
    rw [World.size_alloc] at this
    exact this
  generalize (w3.alloc (.deferred (some []))).alloc (.loop r0) = W1 at *
  have hs3 := HB3.out.size
  have hJ0 : FJ w W1 p d gc bd bs (w3.heap.size + 1) w3.heap.size r0 (.func (.func 51) #[] #[]) ((cntN (fun k => isF (d.at k)) 0 : Nat) : Int) := ⟨HD3.out.on hW1, below_on HB3.out hW1, HCD.out.on hW1, HCS.out.on hW1, hL, hD, HC3.out.on hW1⟩
  refine CallsIn.mono (pagesF_in (n - 1) (w3.heap.size + 1) bd bs p d (fun k => isF (d.at k)) (fun k W => FJ w W p d gc bd bs (w3.heap.size + 1) w3.heap.size r0 (.func (.func 51) #[] #[]) ((cntN (fun k => isF (d.at k)) k : Nat) : Int)) ?hJ ?hOn ?hSo ?hY ?hN W1 hJ0) ?post
  case hJ => exact fun k W hj => ⟨hj.db, hj.cd.cell, hj.cs.cell⟩
  case hOn => exact fun k W W' hj hb => hj.on hb
  case hSo => exact fun k W _ _ => isFree_any W _ _
  case hN =>
    intro k W _ hp hj
    rw [cntN, hp]
    exact hj
  case post =>
    rintro e W2 ⟨⟨v, rfl⟩, hj⟩
    refine ⟨⟨v, rfl⟩, hj.l, ?_⟩
    have hne : gc ≠ w3.heap.size + 1 := hj.cnt.ne hj.l (fun h => by cases h)
    have hv3 : Ob (W2.putObj (w3.heap.size + 1) (.loop { r0 with state := .exhausted })) gc (box (.int .i64 (d.free : Int)) 3) := (World.putObj_heap_other hne).trans hj.cnt
    have hd3 : Ob (W2.putObj (w3.heap.size + 1) (.loop { r0 with state := .exhausted })) w3.heap.size (.deferred (some [])) := (World.putObj_heap_other (by omega)).trans hj.d
    have hb4 : Below w.heap.size w (W2.putObj (w3.heap.size + 1) (.loop { r0 with state := .exhausted })) := hj.but.trans ((putObj_but W2 (w3.heap.size + 1) (.loop { r0 with state := .exhausted })).below (by simp; omega) hj.but.size)
    generalize W2.putObj (w3.heap.size + 1) (.loop { r0 with state := .exhausted }) = W3 at *
    have y0 := hv3.cell
    have hb5 : Below w.heap.size w (W3.putObj w3.heap.size (.deferred none)) := hb4.trans ((putObj_but W3 w3.heap.size (.deferred none)).below (by simp; omega) hb4.size)
    gi_wp2
    refine ⟨by simp, .inl ⟨_, _, rfl, run_takeDeferred hd3, ?_⟩⟩
    exact ⟨_, results_tmp rfl _ _ _, rfl, hb5⟩
  case hY =>
    intro k W hk hp hj
    refine yield_b (r := r0) hj.l (by rw [← hr0]; rfl) (by rw [← hr0]; rfl) (by rw [← hr0]; rfl) ?_
    rw [← congrArg Loop.assign hr0, ← congrArg Loop.body hr0, ← congrArg Loop.params hr0, ← congrArg Loop.tmps hr0]
    dsimp only [recOf]
    have hcl := cntN_le (fun k => isF (d.at k)) k
    have HE : Hid (((cntN (fun k => isF (d.at k)) (k + 1) : Nat) : Int) = ((cntN (fun k => isF (d.at k)) k : Nat) : Int) + 1) := hid (by rw [cntN, if_pos hp]; push_cast; rfl)
    generalize cntN (fun k => isF (d.at k)) (k + 1) = c1 at *
    generalize cntN (fun k => isF (d.at k)) k = c0 at *
    have hwr : wrap64 ((c0 : Int) + 1) = (c0 : Int) + 1 := by unfold wrap64; omega
    gi_wp2
    refine ⟨hj.l, ?_⟩
    have hne : gc ≠ w3.heap.size + 1 := hj.cnt.ne hj.l (fun h => by cases h)
    have hLY := hj.l.put (.loop (busyOf r0))
    have hpb := putObj_but W (w3.heap.size + 1) (.loop (busyOf r0))
    have hvY : Ob (W.putObj (w3.heap.size + 1) (.loop (busyOf r0))) gc (box (.int .i64 (c0 : Int)) 3) := (World.putObj_heap_other hne).trans hj.cnt
    generalize W.putObj (w3.heap.size + 1) (.loop (busyOf r0)) = Y at *
    have y0 := hvY.cell
    have yf := hvY.free
    gi_wp2
    have hG : ButL [w3.heap.size + 1, gc] W (Y.setCell ⟨gc, 0, none⟩ (.int .i64 ((c0 : Int) + 1))) := (hpb.mono (by simp)).trans (.setCell _ _ _ _ (by simp))
    have hL6 : Ob (Y.setCell ⟨gc, 0, none⟩ (.int .i64 ((c0 : Int) + 1))) (w3.heap.size + 1) (.loop (busyOf r0)) := (heap_setCell_other Y ⟨gc, 0, none⟩ _ _ (fun e => hne e.symm)).trans hLY
    have hg6 : Ob (Y.setCell ⟨gc, 0, none⟩ (.int .i64 ((c0 : Int) + 1))) gc (box (.int .i64 ((c0 : Int) + 1)) 3) := Cel.setCell (t := 3) (cs := [.int .i64 (c0 : Int)]) (g := gc) (w := Y) hvY 0 _
    generalize Y.setCell ⟨gc, 0, none⟩ (.int .i64 ((c0 : Int) + 1)) = Z at *
    have hG7 : ButL [w3.heap.size + 1, gc] W (Z.putObj (w3.heap.size + 1) (.loop r0)) := hG.trans ((putObj_but Z (w3.heap.size + 1) (.loop r0)).mono (by simp))
    have hlow : ∀ q ∈ [w3.heap.size + 1, gc], w.heap.size ≤ q := by
      have := HGC.out
      simp; omega
    refine ⟨hL6, ?_⟩
    have hoff : ∀ q ∈ p.all, q ∉ [w3.heap.size + 1, gc] := fun q hq hm => by have := hlow q hm; have := HLt.out q hq; omega
    have nd : bd ∉ [w3.heap.size + 1, gc] := by
      have h1 : bd ≠ w3.heap.size + 1 := hj.cd.ne hj.l (fun h => by cases h)
      have h2 : bd ≠ gc := by omega
      simp [h1, h2]
    have ns : bs ∉ [w3.heap.size + 1, gc] := by
      have h1 : bs ≠ w3.heap.size + 1 := hj.cs.ne hj.l (fun h => by cases h)
      have h2 : bs ≠ gc := by omega
      simp [h1, h2]
    have nD : w3.heap.size ∉ [w3.heap.size + 1, gc] := by
      have h2 : w3.heap.size ≠ gc := fun e => (hj.cnt.ne hj.d (fun h => by cases h)) e.symm
      simp [h2]
    rw [HE.out]
    exact ⟨hj.db.frame hG7 hoff, hj.but.trans (hG7.below (B := w.heap.size) hlow hj.but.size), hj.cd.but hG7 nd, hj.cs.but hG7 ns, hL6.put (.loop r0), hj.d.but hG7 nD, (World.putObj_heap_other hne).trans hg6⟩
theorem free_any (w : World) (p : Dp) (d : DS) (h : DB w p d) :
    Calls Try.prog 16 #[ptr p.g] w fun x w' => x = .returned (.int .i64 (d.free : Int)) ∧ Below w.heap.size w w' := callsIn_wide.1 (free_in 0 w p d h)
end Go.Proofs.Ytajkhkaidjjioaa
