import Derived.Test.YtdfnbcbnmiohnaaGreatDoorP29
namespace Go.Proofs.YtdfnbcbnmiohnaaGreatDoor
open Go.RowKit Go.Shelf
set_option maxHeartbeats 2000000
set_option maxRecDepth 100000
attribute [local go_sem] Oper.semAt_some
def ints (A : List Nat) : List Value := A.map fun (k : Nat) => Value.int .i64 (k : Int)
theorem ints_snoc (A : List Nat) (k : Nat) : ints (A ++ [k]) = ints A ++ [.int .i64 (k : Int)] := by simp [ints]
theorem lstN_len (f : Nat → Bool) (k : Nat) : (lstN f k).length ≤ k := by
  induction k with
  | zero => exact Nat.le_refl _
  | succ k ih => rw [lstN, List.length_append]; split <;> simp <;> omega
theorem under45 : Tryz.prog.underlying 25 = some (.slice 3) := by kernel_rfl
theorem info3 : (Tryz.prog.info? 3).map (fun i => (i.zero, i.size, i.bytes)) = some (some (.int .i64 0), 1, 8) := by kernel_rfl
structure OJ (w W : World) (p : Dp) (d : DS) (gl bd bs bo L D B : Nat) (r : Loop) (s : Int) (A : List Nat) : Prop where
  db : DB W p d
  but : Below w.heap.size w W
  cd : Ob W bd (box (.pointer (some ⟨p.g, 0, none⟩)) 23)
  cs : Ob W bs (box (.func (.func 136) #[] #[.pointer (some ⟨bo, 0, none⟩)]) 136)
  co : Ob W bo (box (.int .i64 s) 3)
  l : Ob W L (.loop r)
  d : Ob W D (.deferred (some []))
  lst : ∃ v, Ob W gl (box v 25) ∧ W.ownsRow B 3 1 v A.length (ints A)
theorem ownsRow_same {W W' : World} {b : Nat} {e : TypeId} {size : Nat} {v : Value} {n : Nat} {xs : List Value} (h : W.ownsRow b e size v n xs) (hk : ∀ k cs t z, b ≤ k → W.heap[k]? = some (.cells cs t z) → W'.heap[k]? = W.heap[k]?) : W'.ownsRow b e size v n xs := by
  refine ⟨h.1, h.2.imp id ?_⟩
  rintro ⟨g, cap, cur, rfl, h1, h2, h3⟩
  exact ⟨g, cap, cur, rfl, h1, (hk g _ _ _ h1 h2).trans h2, h3⟩
theorem OJ.on {w W W' : World} {p : Dp} {d : DS} {gl bd bs bo L D B : Nat} {r : Loop} {s : Int} {A : List Nat} (h : OJ w W p d gl bd bs bo L D B r s A) (hb : Below W.heap.size W W') : OJ w W' p d gl bd bs bo L D B r s A := by
  obtain ⟨v, h1, h2⟩ := h.lst
  exact ⟨h.db.on hb, below_on h.but hb, h.cd.on hb, h.cs.on hb, h.co.on hb, h.l.on hb, h.d.on hb, v, h1.on hb, ownsRow_same h2 (fun k cs t z _ hc => hb.block k (Array.getElem?_eq_some_iff.1 hc).1)⟩
theorem ownsRow_low {W : World} {b b' : Nat} {e : TypeId} {size : Nat} {v : Value} {n : Nat} {xs : List Value} (h : W.ownsRow b e size v n xs) (hb : b' ≤ b) : W.ownsRow b' e size v n xs := by
  refine ⟨h.1, h.2.imp id ?_⟩
  rintro ⟨g, cap, cur, rfl, h1, h2, h3⟩
  exact ⟨g, cap, cur, rfl, Nat.le_trans hb h1, h2, h3⟩
theorem owned_in (n : Nat) (w : World) (p : Dp) (d : DS) (h : DB w p d) (s : Int) :
    CallsIn .wide n Tryz.prog 46 #[.pointer (some ⟨p.g, 0, none⟩), .int .i64 s] w fun x w' => ∃ v, x = .returned v ∧ w'.ownsRow w.heap.size 3 1 v (d.owned s).length (ints (d.owned s)) ∧ Below w.heap.size w w' := by
  have n64 := h.ok.n64
  have HD := hid h
  have HSp : Hid (Calls Tryz.prog 94 #[.pointer (some ⟨p.g, 0, none⟩), .int .i64 s] w fun e W' => e = .returned (.bool ((d.ent s).t == 1)) ∧ Below w.heap.size w W') := hid (isSpace_any w p d h s)
  have HLt := hid h.lt
  clear h
  unfold DS.owned
  refine callsIn_of_wp_marks Tryz.func46 rfl trivial ?_ rfl
  simp only [Tryz.ntmps46, List.size_toArray, List.length_cons, List.length_nil, Nat.reduceAdd, Nat.reduceSub, Array.replicate_succ, Array.replicate_zero, List.push_toArray, List.append_toArray, List.nil_append, List.cons_append]
  gi_wp2
  refine ⟨trivial, (fun h => by cases h), CallsIn.mono (callsIn_wide.2 HSp.out) ?_⟩
  rintro x w2 ⟨rfl, hb2⟩
  have HD2 := hid (HD.out.on hb2)
  have HB2 := hid hb2
  clear hb2 HSp HD
  by_cases ht : (d.ent s).t = 1
  · have ht' : ((d.ent s).t == 1) = true := by simpa using ht
    rw [ht']
    have HT := hid ht
    clear ht ht'
    have HG : Hid (Ob (w2.alloc (.cells #[.slice none 0 0] 25)) w2.heap.size (box (.slice none 0 0) 25)) := hid (heap_alloc_new _ _)
    have HD3 := hid (HD2.out.on (below_one w2 (.cells #[.slice none 0 0] 25)))
    have HB3 := hid (below_on HB2.out (below_one w2 (.cells #[.slice none 0 0] 25)))
    have hgs : (w2.alloc (.cells #[.slice none 0 0] 25)).heap.size = w2.heap.size + 1 := World.size_alloc _ _
    have hg0 := HB2.out.size
    clear HD2 HB2
    gi_wp2
    generalize w2.alloc _ = X at *
    refine ⟨trivial, (fun h => by cases h), CallsIn.mono (callsIn_wide.2 (isOf_any _ _)) ?_⟩
    rintro x w4 ⟨bo, rfl, hco, lo, hb4⟩
    rw [hgs] at lo
    have HG4 := hid (HG.out.on hb4)
    have HD4 := hid (HD3.out.on hb4)
    have HB4 := hid (below_on HB3.out hb4)
    have HCO := hid hco
    have hs4 := hb4.size
    clear hb4 hco HG HD3 HB3
    gi_wp2
    refine ⟨trivial, (fun h => by cases h), CallsIn.mono (callsIn_wide.2 (pagesf_any _ _ _ _)) ?_⟩
    rintro x w3 ⟨bd, bs, rfl, hcd, hcs, ld, ls, hb3⟩
    have hbo := HCO.out.lt
    have HG3 := hid (HG4.out.on hb3)
    have HD3 := hid (HD4.out.on hb3)
    have HB3 := hid (below_on HB4.out hb3)
    have HCO3 := hid (HCO.out.on hb3)
    have HCD := hid hcd
    have HCS := hid hcs
    have hs3 := hb3.size
    clear hb3 hcd hcs HG4 HD4 HB4 HCO
    gi_wp2
    generalize w2.heap.size = gl at *
    refine range_out rfl rfl (gf := 118) (lb := #[.pointer (some ⟨bd, 0, none⟩), .pointer (some ⟨bs, 0, none⟩)]) rfl trivial (enters_of Tryz.func118 (by kernel_rfl) rfl) ?_
    intro fn hfn
    generalize hr0 : recOf fn _ _ _ _ _ = r0
    have hW1 : Below w3.heap.size w3 ((w3.alloc (.deferred (some []))).alloc (.loop r0)) := below_on (below_one _ _) (below_one _ _)
    have hD : Ob ((w3.alloc (.deferred (some []))).alloc (.loop r0)) w3.heap.size (.deferred (some [])) := Ob.on (heap_alloc_new w3 _) (below_one _ _)
    have hL : Ob ((w3.alloc (.deferred (some []))).alloc (.loop r0)) (w3.heap.size + 1) (.loop r0) := by
      have := heap_alloc_new (w3.alloc (.deferred (some []))) (.loop r0)
      rw [World.size_alloc] at this
      exact this
    generalize (w3.alloc (.deferred (some []))).alloc (.loop r0) = W1 at *
    have hglt := HG3.out.lt
    have hbdl := HCD.out.lt
    have hbsl := HCS.out.lt
    have hbol := HCO3.out.lt
    have hJ0 : OJ w W1 p d gl bd bs bo (w3.heap.size + 1) w3.heap.size w3.heap.size r0 s (lstN (fun k => isO s (k : Int) (d.at k)) 0) := ⟨HD3.out.on hW1, below_on HB3.out hW1, HCD.out.on hW1, HCS.out.on hW1, HCO3.out.on hW1, hL, hD, _, HG3.out.on hW1, World.ownsRow_nil _ _ _ _⟩
    refine CallsIn.mono (pagesO_in (n - 1) (w3.heap.size + 1) bd bs p d (fun k => isO s (k : Int) (d.at k)) bo (fun k W => OJ w W p d gl bd bs bo (w3.heap.size + 1) w3.heap.size w3.heap.size r0 s (lstN (fun k => isO s (k : Int) (d.at k)) k)) ?hJ ?hOn ?hSo ?hY ?hN W1 hJ0) ?post
    case hJ => exact fun k W hj => ⟨hj.db, hj.cd.cell, hj.cs.cell⟩
    case hOn => exact fun k W W' hj hb => hj.on hb
    case hSo => exact fun k W _ hj => isOf1_any W _ _ bo s hj.co
    case hN =>
      intro k W _ hp hj
      rw [lstN, hp, if_neg (by decide), List.append_nil]
      exact hj
    case post =>
      rintro e W2 ⟨⟨v, rfl⟩, hj⟩
      refine ⟨⟨v, rfl⟩, hj.l, ?_⟩
      obtain ⟨vl, hv, hown⟩ := hj.lst
      have hvL : gl ≠ w3.heap.size + 1 := hv.ne hj.l (fun h => by cases h)
      have hv3 : Ob (W2.putObj (w3.heap.size + 1) (.loop { r0 with state := .exhausted })) gl (box vl 25) := (World.putObj_heap_other hvL).trans hv
      have hd3 : Ob (W2.putObj (w3.heap.size + 1) (.loop { r0 with state := .exhausted })) w3.heap.size (.deferred (some [])) := (World.putObj_heap_other (by omega)).trans hj.d
      have ho3 := ownsRow_putObj hown (.loop { r0 with state := .exhausted }) hj.l rfl
      have hb4 : Below w.heap.size w (W2.putObj (w3.heap.size + 1) (.loop { r0 with state := .exhausted })) := hj.but.trans ((putObj_but W2 (w3.heap.size + 1) (.loop { r0 with state := .exhausted })).below (by simp; omega) hj.but.size)
      generalize W2.putObj (w3.heap.size + 1) (.loop { r0 with state := .exhausted }) = W3 at *
      have y0 := hv3.cell
      have hb5 : Below w.heap.size w (W3.putObj w3.heap.size (.deferred none)) := hb4.trans ((putObj_but W3 w3.heap.size (.deferred none)).below (by simp; omega) hb4.size)
      have ho4 := ownsRow_putObj ho3 (.deferred none) hd3 rfl
      gi_wp2
      refine ⟨by simp, .inl ⟨_, _, rfl, run_takeDeferred hd3, ?_⟩⟩
      refine ⟨_, results_tmp rfl _ _ _, vl, rfl, ?_, hb5⟩
      exact ownsRow_low ho4 (by omega)
    case hY =>
      intro k W hk hp hj
      refine yield_b (r := r0) hj.l (by rw [← hr0]; rfl) (by rw [← hr0]; rfl) (by rw [← hr0]; rfl) ?_
      rw [← congrArg Loop.assign hr0, ← congrArg Loop.body hr0, ← congrArg Loop.params hr0, ← congrArg Loop.tmps hr0]
      dsimp only [recOf]
      obtain ⟨v, hv, hown⟩ := hj.lst
      have hAl := lstN_len (fun k => isO s (k : Int) (d.at k)) k
      have hA1 : lstN (fun k => isO s (k : Int) (d.at k)) (k + 1) = lstN (fun k => isO s (k : Int) (d.at k)) k ++ [k] := by rw [lstN, if_pos hp]
      rw [hA1]
      generalize lstN (fun k => isO s (k : Int) (d.at k)) k = A at *
      clear hA1
      gi_wp2
      refine ⟨hj.l, ?_⟩
      have hvL : gl ≠ w3.heap.size + 1 := hv.ne hj.l (fun h => by cases h)
      have hLY := hj.l.put (.loop (busyOf r0))
      have hbY := putObj_but W (w3.heap.size + 1) (.loop (busyOf r0))
      have hvY : Ob (W.putObj (w3.heap.size + 1) (.loop (busyOf r0))) gl (box v 25) := (World.putObj_heap_other hvL).trans hv
      have hoY := ownsRow_putObj hown (.loop (busyOf r0)) hj.l rfl
      have hsY := hj.but.size
      have hlL := hj.l.lt
      generalize W.putObj (w3.heap.size + 1) (.loop (busyOf r0)) = Y at *
      have y0 := hvY.cell
      have hvo : some gl ≠ v.ownBlock := fun e => by
        rcases hown.2 with ⟨hn, _⟩ | ⟨g, cap, cur, hn, hge, hg, _⟩
        · rw [hn] at e; cases e
        · rw [hn] at e
          have e2 : g = gl := by simpa [Value.ownBlock] using e.symm
          omega
      obtain ⟨i0, hi, hz0, hz1, hz2⟩ := info_parts info3
      have hnew : ∀ j u, [Value.int .i64 (k : Int)][j]? = some u → (Y.alloc (.cells #[.int .i64 (k : Int)] 3)).cell? ((⟨Y.heap.size, 0, none⟩ : Addr).add j) = some u := (Cel.new Y 3 [.int .i64 (k : Int)]).src
      have hYs := hbY.size
      have hAm : A.length + 1 ≤ maxLen := by unfold maxLen; omega
      have hAb : (A.length + 1) * 8 ≤ 140737488355328 := by omega
      have HNEW := hid hnew
      clear hnew
      gi_wp2_with (first | (gi_at_builtin; refine wpListIn_append_own _ rfl _ _ 25 rfl w3.heap.size 3 i0 _ 1 8 under45 hi hz0 hz1 hz2 rfl (by decide) v A.length (ints A) rfl (hoY.alloc _) ⟨Y.heap.size, 0, none⟩ 1 1 [.int .i64 (k : Int)] rfl rfl HNEW.out (by intro u hu; simp only [List.mem_cons, List.not_mem_nil, or_false] at hu; rcases hu with rfl; rfl) hAm hAb (by simp; omega) ?_; intro v' w5 hown5 hgrow _; obtain ⟨g', cap', rfl⟩ := ownsRow_succ hown5; have hv5 : Ob w5 gl (box v 25) := (hgrow.block gl (hvY.on (below_one _ _)).lt hvo).trans (hvY.on (below_one _ _)); have c5 := hv5.cell; have f5 := hv5.free))
      have hg' : w3.heap.size ≤ g' := by
        rcases hown5.2 with ⟨hn, _⟩ | ⟨g, cap, cur, hn, hge, hg, _⟩
        · cases hn
        · cases hn; exact hge
      have hLo : some (w3.heap.size + 1) ≠ v.ownBlock := fun e => by
        rcases hown.2 with ⟨hn, _⟩ | ⟨g, cap, cur, hn, _, hg, _⟩
        · rw [hn] at e; cases e
        · rw [hn] at e
          cases e
          have hl := hj.l
          unfold Ob at hl
          rw [hl] at hg
          cases hg
      have hDo : some w3.heap.size ≠ v.ownBlock := fun e => by
        rcases hown.2 with ⟨hn, _⟩ | ⟨g, cap, cur, hn, _, hg, _⟩
        · rw [hn] at e; cases e
        · rw [hn] at e
          have e2 : g = w3.heap.size := by simpa [Value.ownBlock] using e.symm
          have hd := hj.d
          unfold Ob at hd
          rw [e2, hd] at hg
          cases hg
      have hvge : ∀ q, v.ownBlock = some q → w3.heap.size ≤ q := fun q hq => (hown.lt q hq).1
      obtain ⟨G, hG⟩ : ∃ G : List Nat, G = (w3.heap.size + 1) :: gl :: v.ownBlock.toList := ⟨_, rfl⟩
      have hGL : w3.heap.size + 1 ∈ G := by rw [hG]; simp
      have hGg : gl ∈ G := by rw [hG]; simp
      have hGo : ∀ q, some q = v.ownBlock → q ∈ G := fun q e => by rw [hG, ← e]; simp
      have hGm : ∀ q ∈ G, q = w3.heap.size + 1 ∨ q = gl ∨ v.ownBlock = some q := fun q hq => by
        rw [hG] at hq
        simp only [List.mem_cons, Option.mem_toList] at hq
        rcases hq with h | h | h
        · exact .inl h
        · exact .inr (.inl h)
        · exact .inr (.inr (by simpa using h))
      clear hG
      have hb5 : ButL G W w5 := ((hbY.mono (fun q hq => by rw [List.mem_singleton] at hq; rw [hq]; exact hGL)).on (below_one Y _)).trans ⟨hgrow.os, hgrow.tape, hgrow.output, hgrow.size, fun q hq hn => hgrow.block q hq (fun e => hn (hGo q e))⟩
      have hL5 : Ob w5 (w3.heap.size + 1) (.loop (busyOf r0)) := (hgrow.block _ (hLY.on (below_one _ _)).lt hLo).trans (hLY.on (below_one _ _))
      obtain ⟨v6, hv6⟩ : ∃ x, x = Value.slice (some { block := g', off := 0 }) (A.length + 1) cap' := ⟨_, rfl⟩
      have hown6 := hown5
      rw [← hv6] at hown6 ⊢
      have hb6 : ButL G W (w5.setCell ⟨gl, 0, none⟩ v6) := hb5.trans (.setCell _ _ _ _ hGg)
      have hL6 : Ob (w5.setCell ⟨gl, 0, none⟩ v6) (w3.heap.size + 1) (.loop (busyOf r0)) := (heap_setCell_other w5 ⟨gl, 0, none⟩ _ v6 (fun e => hvL e.symm)).trans hL5
      have hg6 : Ob (w5.setCell ⟨gl, 0, none⟩ v6) gl (box v6 25) := Cel.setCell (t := 25) (cs := [v]) (g := gl) (w := w5) hv5 0 v6
      have hg'L : g' ≠ w3.heap.size + 1 := fun e => by
        rcases hown5.2 with ⟨hn, _⟩ | ⟨g, cap, cur, hn, _, hg, _⟩
        · cases hn
        · cases hn
          subst e
          unfold Ob at hL5
          rw [hL5] at hg
          cases hg
      have hb7 : ButL G W ((w5.setCell ⟨gl, 0, none⟩ v6).putObj (w3.heap.size + 1) (.loop r0)) := hb6.trans ((putObj_but _ _ _).mono (fun q hq => by rw [List.mem_singleton] at hq; rw [hq]; exact hGL))
      have hown7 : ((w5.setCell ⟨gl, 0, none⟩ v6).putObj (w3.heap.size + 1) (.loop r0)).ownsRow w3.heap.size 3 1 v6 (A ++ [k]).length (ints (A ++ [k])) := by
        rw [ints_snoc, List.length_append, List.length_singleton]
        refine ⟨hown6.1, .inr ?_⟩
        rcases hown5.2 with ⟨hn, _⟩ | ⟨g, cap, cur, hn, h1, hg, h3⟩
        · cases hn
        · cases hn
          exact ⟨g', cap', cur, hv6, h1, ((World.putObj_heap_other hg'L).trans (heap_setCell_other w5 ⟨gl, 0, none⟩ g' v6 (fun e => by have e2 : g' = gl := e; omega))).trans hg, h3⟩
      have hlow : ∀ q ∈ G, w.heap.size ≤ q := fun q hq => by
        rcases hGm q hq with rfl | rfl | e
        · omega
        · omega
        · have := hvge q e; omega
      have hsm : ∀ q, q < w3.heap.size → q ≠ gl → q ∉ G := fun q h1 h2 hq => by
        rcases hGm q hq with rfl | rfl | e
        · omega
        · omega
        · have := hvge q e; omega
      have hdG : w3.heap.size ∉ G := fun hq => by
        rcases hGm _ hq with e | e | e
        · omega
        · omega
        · exact hDo e.symm
      exact ⟨hL6, hj.db.frame hb7 (fun q hq hm => by have := hlow q hm; have := HLt.out q hq; omega), hj.but.trans (hb7.below (B := w.heap.size) hlow hj.but.size), hj.cd.but hb7 (hsm _ (by omega) (by omega)), hj.cs.but hb7 (hsm _ (by omega) (by omega)), hj.co.but hb7 (hsm _ (by omega) (by omega)), hL6.put (.loop r0), hj.d.but hb7 hdG, v6, (World.putObj_heap_other hvL).trans hg6, hown7⟩
  · have ht' : ((d.ent s).t == 1) = false := by simpa using ht
    rw [ht']
    have HT := hid ht
    clear ht ht'
    gi_wp2
    refine ⟨_, results_tmp rfl _ _ _, _, rfl, ?_, HB2.out⟩
    exact World.ownsRow_nil _ _ _ _
theorem owned_any (w : World) (p : Dp) (d : DS) (h : DB w p d) (s : Int) :
    Calls Tryz.prog 46 #[ptr p.g, .int .i64 s] w fun x w' => ∃ v, x = .returned v ∧ w'.ownsRow w.heap.size 3 1 v (d.owned s).length (ints (d.owned s)) ∧ Below w.heap.size w w' := callsIn_wide.1 (owned_in 0 w p d h s)
end Go.Proofs.YtdfnbcbnmiohnaaGreatDoor
