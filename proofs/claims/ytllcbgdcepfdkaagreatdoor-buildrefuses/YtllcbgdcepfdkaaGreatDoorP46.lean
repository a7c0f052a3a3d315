import Derived.Test.YtllcbgdcepfdkaaGreatDoorP45
namespace Go.Proofs.YtllcbgdcepfdkaaGreatDoor
open Go.RowKit
set_option maxRecDepth 100000
set_option maxHeartbeats 4000000
theorem wds_nil' : H.Wds [] := fun i => by simp
theorem fit_cl {d : DS} (hk : d.Ok) (hU : d.m.U) (k a b c f : Int) (hw : W5 a b c f) : DS.Fit d (d.clD k a b c f) := by
  obtain ⟨a0, a1, b0, b1, c0, c1, f0, f1⟩ := hw
  have hst := DS.st_wds hU a
  have ex : ∀ xs, H.Wds xs → H.Wds (Q.exS (d.st a) xs) := fun xs h => Q.exS_wds hst h
  have hpw : ∀ j, 0 ≤ wd (d.m.pageI f) j ∧ wd (d.m.pageI f) j < 4294967296 := fun j => hU _ _
  unfold DS.clD
  split
  · unfold DS.spD
    exact (fit_space hk a b b0 b1).trans (fit_dig _ _ _ (H.wds_saveOf wds_nil' (by simp)) 26)
  · split
    · unfold DS.thD
      exact (fit_take d b 2 a).trans ((fit_wr _ b 0 c c0 c1).trans (fit_dig _ _ _ (ex _ (Q.wds_cons (by decide) (by decide) (Q.wds_cons c0 c1 wds_nil'))) 26))
    · split
      · unfold DS.tbD
        exact (fit_take d b 4 a).trans ((fit_add _ a c b).trans (fit_dig _ _ _ (ex _ (Q.wds_cons (by decide) (by decide) (Q.wds_cons c0 c1 wds_nil'))) 26))
      · split
        · unfold DS.daD
          exact (fit_take d b 5 a).trans ((fit_lay _ b _ hpw).trans ((fit_put _ _ _ _).trans (fit_dig _ _ _ (ex _ (Q.wds_cons (by decide) (by decide) (Q.wds_cons c0 c1 (fun j => hpw j)))) 26)))
        · unfold DS.shD
          exact (fit_put _ _ _ _).trans (fit_dig _ _ _ (ex _ (Q.wds_cons (by decide) (by decide) (Q.wds_cons b0 b1 wds_nil'))) 26)
/-- What a taken call says of the space that it names. -/
theorem cl_open {d : DS} {k a b c f : Int} (a0 : 0 ≤ a) (k1 : 1 ≤ k) (k5 : k ≤ 5) (hC : d.clC k a b c f = 0) : d.entE a = 0 ∧ (k ≠ 1 → (d.ent a).t = 1 ∧ (d.ent a).s = 1) := by
  have hcase : k = 1 ∨ k = 2 ∨ k = 3 ∨ k = 4 ∨ k = 5 := by omega
  have key : d.opE a = 0 → d.entE a = 0 ∧ (k ≠ 1 → (d.ent a).t = 1 ∧ (d.ent a).s = 1) := fun h => by
    obtain ⟨h1, h2, h3⟩ := op_zero a0 h
    exact ⟨by unfold DS.entE; rw [if_pos h1], fun _ => ⟨h2, h3⟩⟩
  rcases hcase with rfl | rfl | rfl | rfl | rfl
  · refine ⟨?_, fun h => absurd rfl h⟩
    have hC' : d.spC a b = 0 := hC
    unfold DS.spC at hC'
    split at hC'
    · cases hC'
    · unfold DS.entE; rw [if_pos (by unfold DS.there; simp; omega)]
  · exact key (th_zero (d := d) (a := a) (b := b) hC).1
  · exact key (tb_zero (d := d) (a := a) (b := b) (c := c) hC).1
  · exact key (da_zero (d := d) (a := a) (b := b) (c := c) (f := f) hC).1
  · exact key (sh_zero (d := d) (a := a) (b := b) (c := c) hC).1
/-- A word that was laid. -/
theorem MS.word_same {m : MS} (h0 : m.ns ≤ m.P.length) (hf : ∀ k, k < m.P.length → (m.p k).length = 1024) {s : Bool} {q : Int} {k : Nat} (hq : m.at s q = some k) {o : Int} (ho : In o) (v : Int) : (m.write s q o v).word s q o = v := by
  have hk := MS.at_lt h0 hq
  have hl := hf k hk
  have h1 : m.write s q o v = { m.tick 1 with P := m.P.set k ((m.p k).set o.toNat v) } := by unfold MS.write; rw [hq]; simp only [if_pos ho]
  rw [h1]
  unfold MS.word
  rw [MS.set_at, hq]
  simp only [if_pos ho, MS.p, List.getD_eq_getElem?_getD, List.getElem?_set, if_true, if_pos hk, Option.getD_some]
  unfold wd
  unfold In at ho
  rw [List.getD_eq_getElem?_getD, List.getElem?_set, if_pos rfl, if_pos (by simp only [MS.p, List.getD_eq_getElem?_getD] at hl; omega)]
  rfl
theorem MS.write_full {m : MS} (hf : ∀ k, k < m.P.length → (m.p k).length = 1024) (s : Bool) (q o v : Int) : ∀ k, k < (m.write s q o v).P.length → ((m.write s q o v).p k).length = 1024 := by
  intro k hk
  rw [MS.write_len] at hk
  unfold MS.write
  split
  · exact hf k hk
  · rename_i i hi
    split
    · by_cases e : k = i
      · subst e
        simp only [MS.p, List.getD_eq_getElem?_getD, List.getElem?_set, if_true, if_pos hk, Option.getD_some, List.length_set]
        have := hf k hk
        simpa [MS.p, List.getD_eq_getElem?_getD] using this
      · rw [MS.set_p _ _ _ _ _ e]; exact hf k hk
    · exact hf k hk
/-- A memory whose pages are whole. -/
structure MS.Whole (m : MS) : Prop where
  ns0 : m.ns ≤ m.P.length
  full : ∀ k, k < m.P.length → (m.p k).length = 1024
theorem Mem.whole {w : World} {f : Fp} {m : MS} (h : Mem w f m) : m.Whole := ⟨h.ns0, h.full⟩
theorem MS.Whole.write {m : MS} (h : m.Whole) (s : Bool) (q o v : Int) : (m.write s q o v).Whole := ⟨by rw [MS.write_ns, MS.write_len]; exact h.ns0, MS.write_full h.full s q o v⟩
theorem dig_at (d : DS) (s : Int) (L : List Int) (x : Bool) (q : Int) : ∀ j, (d.dig s L j).m.at x q = d.m.at x q
  | 0 => rfl
  | j + 1 => (MS.write_at _ _ _ _ _ _ _).trans (dig_at d s L x q j)
theorem dig_whole {d : DS} (h : d.m.Whole) (s : Int) (L : List Int) : ∀ j, (d.dig s L j).m.Whole
  | 0 => h
  | j + 1 => (dig_whole h s L j).write _ _ _ _
theorem dig_other {d : DS} (h : d.m.Whole) (s : Int) (L : List Int) (x : Bool) (q o : Int) (hq : ¬ (x = true ∧ q = s)) : ∀ j, (d.dig s L j).m.word x q o = d.m.word x q o
  | 0 => rfl
  | j + 1 => (MS.write_word (dig_whole h s L j).ns0 _ _ _ _ _ _ _ (fun e => hq ⟨e.1.symm, e.2.1.symm⟩)).trans (dig_other h s L x q o hq j)
theorem dig_word {d : DS} (h : d.m.Whole) (s : Int) (L : List Int) (hs : d.there s = true) (o : Int) : ∀ j, j ≤ 26 → (d.dig s L j).m.word true s o = if 11 ≤ o ∧ o < 11 + (j : Int) then L.getD (o - 11).toNat 0 else d.m.word true s o
  | 0, _ => by rw [if_neg (by omega)]; rfl
  | j + 1, hj => by
    have hi := dig_word h s L hs o j (by omega)
    obtain ⟨s0, s1, s2⟩ := there_lt hs
    have hat : (d.dig s L j).m.at true s = some s.toNat := by rw [dig_at]; exact at_sec s0 (by omega)
    by_cases e : o = 11 + (j : Int)
    · subst e
      rw [if_pos (by omega)]
      show ((d.dig s L j).m.write true s (11 + (j : Int)) (L.getD j 0)).word true s (11 + (j : Int)) = _
      rw [MS.word_same (dig_whole h s L j).ns0 (dig_whole h s L j).full hat (by unfold In; omega)]
      congr 1
      omega
    · show ((d.dig s L j).m.write true s (11 + (j : Int)) (L.getD j 0)).word true s o = _
      rw [MS.write_word (dig_whole h s L j).ns0 _ _ _ _ _ _ _ (fun x => e x.2.2.symm), hi]
      by_cases e2 : 11 ≤ o ∧ o < 11 + (j : Int)
      · rw [if_pos e2, if_pos (by omega)]
      · rw [if_neg e2, if_neg (by omega)]
theorem dig_st {d : DS} (h : d.m.Whole) (s : Int) (L : List Int) (hs : d.there s = true) (hL : L.length = 26) : (d.dig s L 26).st s = L := by
  apply List.ext_getElem?
  intro i
  by_cases hi : i < 26
  · rw [DS.st_get _ _ _ hi, dig_word h s L hs _ 26 (Nat.le_refl _), if_pos (by omega), show (11 + (i : Int) - 11).toNat = i by omega, List.getD_eq_getElem?_getD, List.getElem?_eq_getElem (by omega)]
    rfl
  · rw [List.getElem?_eq_none (by rw [DS.st_length]; omega), List.getElem?_eq_none (by omega)]
theorem dig_E (d : DS) (s : Int) (L : List Int) : ∀ j, (d.dig s L j).E = d.E ∧ (d.dig s L j).b = d.b ∧ (d.dig s L j).m.ns = d.m.ns
  | 0 => ⟨rfl, rfl, rfl⟩
  | j + 1 => ⟨(dig_E d s L j).1, (dig_E d s L j).2.1, (MS.write_ns _ _ _ _ _).trans (dig_E d s L j).2.2⟩
theorem dig_ent (d : DS) (s : Int) (L : List Int) (j : Nat) (x : Int) : (d.dig s L j).ent x = d.ent x ∧ (d.dig s L j).there x = d.there x := by
  obtain ⟨h1, _, h2⟩ := dig_E d s L j
  have h3 : (d.dig s L j).there x = d.there x := by unfold DS.there; rw [h2]
  exact ⟨by unfold DS.ent; rw [h3]; unfold DS.at; rw [h1], h3⟩
end Go.Proofs.YtllcbgdcepfdkaaGreatDoor
namespace Go.Proofs.YtllcbgdcepfdkaaGreatDoor
open Go.RowKit
set_option maxRecDepth 100000
set_option maxHeartbeats 4000000
theorem beside8 (W : World) (p : Dp) (d : DS) (h : DB W p d) (a b c f : Int) (hw : W5 a b c f) :
    Calls Tryz.prog 9 #[ptr p.g, opV 8 a b c f] W fun e W' => e = .returned (.tuple #[]) ∧ DB W' p (d.state a 3) ∧ ButL p.w W W' := by
  have D0 := hid ((DG.startp h).new 31 (opC 8 a b c f))
  obtain ⟨a0, a1, _, _, _, _, _, _⟩ := hw
  have kw : wrap64 a = a := by unfold wrap64; omega
  have kx : IntKind.wrap .i64 a = a := by rw [IntKind.wrap_i64]; omega
  have HSt := hid (fun w (hw : DB w p d) => setState_any w p d hw a 3)
  clear h a0 a1
  generalize d.state a 3 = ds at *
  simp only [opV, opC, ptr] at *
  go_enter Tryz.func9, Tryz.ntmps9
  go_upto_region 1 with fail
  generalize World.alloc _ _ = X at *
  generalize W.heap.size = g3 at *
  have c0 := (D0.out.get 0 rfl).cell 0
  have c1 := (D0.out.get 0 rfl).cell 1
  simp only [List.getElem?_cons_zero, List.getElem?_cons_succ] at c0 c1
  go_wp2_with (first | (go_at_call 33; refine (HSt.out _ D0.out.db).mono ?_; rintro e w1 ⟨rfl, hd, hb⟩; have D1 := hid (D0.out.step hd hb (fun _ hk => hk)); clear hd hb c0 c1))
  go_returns
  exact ⟨rfl, D1.out.db, D1.out.but⟩
theorem beside9 (W : World) (p : Dp) (d : DS) (h : DB W p d) (a b c f : Int) (hw : W5 a b c f) :
    Calls Tryz.prog 9 #[ptr p.g, opV 9 a b c f] W fun e W' => e = .returned (.tuple #[]) ∧ DB W' p (if d.goes a = true then d.give a else d) ∧ ButL p.w W W' := by
  have D0 := hid ((DG.startp h).new 31 (opC 9 a b c f))
  obtain ⟨a0, a1, _, _, _, _, _, _⟩ := hw
  have kw : wrap64 a = a := by unfold wrap64; omega
  have kx : IntKind.wrap .i64 a = a := by rw [IntKind.wrap_i64]; omega
  have HGo := hid (fun w (hw : DB w p d) => goes_any w p d hw a)
  have HGi := hid (fun w (hw : DB w p d) => give_any w p d hw a)
  clear h a0 a1
  generalize d.give a = dg at *
  simp only [opV, opC, ptr] at *
  cases hg : d.goes a
  · rw [hg] at HGo
    rw [if_neg (by decide)]
    go_enter Tryz.func9, Tryz.ntmps9
    go_upto_region 1 with fail
    generalize World.alloc _ _ = X at *
    generalize W.heap.size = g3 at *
    have c0 := (D0.out.get 0 rfl).cell 0
    have c1 := (D0.out.get 0 rfl).cell 1
    simp only [List.getElem?_cons_zero, List.getElem?_cons_succ] at c0 c1
    go_wp2_with (first | (go_at_call 34; refine (HGo.out _ D0.out.db).mono ?_; rintro e w1 ⟨rfl, hb⟩; have D1 := hid (D0.out.on hb); have k1 := (D1.out.get 0 rfl).cell 1; simp only [List.getElem?_cons_zero, List.getElem?_cons_succ] at k1; clear hb c0 c1))
    go_returns
    exact ⟨rfl, D1.out.db, D1.out.but⟩
  · rw [hg] at HGo
    rw [if_pos rfl]
    go_enter Tryz.func9, Tryz.ntmps9
    go_upto_region 1 with fail
    generalize World.alloc _ _ = X at *
    generalize W.heap.size = g3 at *
    have c0 := (D0.out.get 0 rfl).cell 0
    have c1 := (D0.out.get 0 rfl).cell 1
    simp only [List.getElem?_cons_zero, List.getElem?_cons_succ] at c0 c1
    go_upto_region 16 with (first | (go_at_call 34; refine (HGo.out _ D0.out.db).mono ?_; rintro e w1 ⟨rfl, hb⟩; have D1 := hid (D0.out.on hb); have k1 := (D1.out.get 0 rfl).cell 1; simp only [List.getElem?_cons_zero, List.getElem?_cons_succ] at k1; clear hb c0 c1))
    go_wp2_with (first | (go_at_call 35; refine (HGi.out _ D1.out.db).mono ?_; rintro e w2 ⟨rfl, hd, hb⟩; have D2 := hid (D1.out.step hd hb (fun _ hk => hk)); clear hd hb k1))
    go_returns
    exact ⟨rfl, D2.out.db, D2.out.but⟩
theorem besideN (W : World) (p : Dp) (d : DS) (h : DB W p d) (k a b c f : Int) (k6 : ¬ k = 6) (k7 : ¬ k = 7) (k8 : ¬ k = 8) (k9 : ¬ k = 9) :
    Calls Tryz.prog 9 #[ptr p.g, opV k a b c f] W fun e W' => e = .returned (.tuple #[]) ∧ DB W' p d ∧ ButL p.w W W' := by
  have D0 := hid ((DG.startp h).new 31 (opC k a b c f))
  have n6 : (k == 6) = false := by simpa using k6
  have n7 : (k == 7) = false := by simpa using k7
  have n8 : (k == 8) = false := by simpa using k8
  have n9 : (k == 9) = false := by simpa using k9
  clear h k6 k7 k8 k9
  simp only [opV, opC, ptr] at *
  go_enter Tryz.func9, Tryz.ntmps9
  go_upto_region 1 with fail
  generalize World.alloc _ _ = X at *
  generalize W.heap.size = g3 at *
  have c0 := (D0.out.get 0 rfl).cell 0
  have c1 := (D0.out.get 0 rfl).cell 1
  simp only [List.getElem?_cons_zero, List.getElem?_cons_succ] at c0 c1
  go_wp2_with fail
  go_returns
  exact ⟨rfl, D0.out.db, D0.out.but⟩
theorem beside7 (W : World) (p : Dp) (d : DS) (h : DB W p d) (a b c f : Int) (hw : W5 a b c f) :
    Calls Tryz.prog 9 #[ptr p.g, opV 7 a b c f] W fun e W' => e = .returned (.tuple #[]) ∧ DB W' p (if d.entE a = 0 ∧ (d.ent a).t = 1 ∧ (d.ent a).s = 1 then (d.dig a (List.replicate 26 0) 26).state a 2 else d) ∧ ButL p.w W W' := by
  have D0 := hid ((DG.startp h).new 31 (opC 7 a b c f))
  obtain ⟨a0, a1, _, _, _, _, _, _⟩ := hw
  have kw : wrap64 a = a := by unfold wrap64; omega
  have kx : IntKind.wrap .i64 a = a := by rw [IntKind.wrap_i64]; omega
  have HE := hid (fun w (hw : DB w p d) => entry_any w p d hw a)
  have HMm := hid (fun w d' (hw : DB w p d') => memory_any w p d' hw)
  have HWr := hid (fun w d' (hw : DB w p d') (off : Int) => (write_any w p.f d'.m hw.mem true a off 0))
  have HSt := hid (fun w d' (hw : DB w p d') => setState_any w p d' hw a 2)
  clear h a0 a1
  generalize d.ent a = D at *
  generalize d.entE a = DE at *
  simp only [opV, opC, ptr, fr, En.v] at *
  by_cases e0 : DE = 0
  rotate_left
  · rw [if_neg (fun h => e0 h.1)]
    have f0 : (DE == 0) = false := by simpa using e0
    go_enter Tryz.func9, Tryz.ntmps9
    go_upto_region 1 with fail
    generalize World.alloc _ _ = X at *
    generalize W.heap.size = g3 at *
    have c0 := (D0.out.get 0 rfl).cell 0
    have c1 := (D0.out.get 0 rfl).cell 1
    simp only [List.getElem?_cons_zero, List.getElem?_cons_succ] at c0 c1
    go_upto_region 6 with (first | (go_at_call 12; refine (HE.out _ D0.out.db).mono ?_; rintro x w2 ⟨rfl, hb⟩; have D1 := hid (D0.out.on hb); clear hb c0 c1) | (refine wpList_store_st rfl 38 _ _ rfl w2.heap.size D.cs rfl rfl (Cel.new w2 38 En.zero.cs) sizeE rfl rfl ?_; intro w3 hc hb hs; have D2 := hid (D1.out.add hc hb); have HN : Hid (g3 < w2.heap.size) := hid (D1.out.get 0 rfl).lt; clear hc hb hs))
    generalize w2.heap.size = g4 at *
    have d0 := (D2.out.get 0 rfl).cell 0
    have d3 := (D2.out.get 0 rfl).cell 3
    simp only [En.cs, List.getElem?_cons_zero, List.getElem?_cons_succ] at d0 d3
    go_wp2_with fail
    go_returns
    exact ⟨rfl, D2.out.db, D2.out.but⟩
  by_cases e1 : D.t = 1
  rotate_left
  · rw [if_neg (fun h => e1 h.2.1)]
    have f1 : (D.t == 1) = false := by simpa using e1
    go_enter Tryz.func9, Tryz.ntmps9
    go_upto_region 1 with fail
    generalize World.alloc _ _ = X at *
    generalize W.heap.size = g3 at *
    have c0 := (D0.out.get 0 rfl).cell 0
    have c1 := (D0.out.get 0 rfl).cell 1
    simp only [List.getElem?_cons_zero, List.getElem?_cons_succ] at c0 c1
    go_upto_region 6 with (first | (go_at_call 12; refine (HE.out _ D0.out.db).mono ?_; rintro x w2 ⟨rfl, hb⟩; have D1 := hid (D0.out.on hb); clear hb c0 c1) | (refine wpList_store_st rfl 38 _ _ rfl w2.heap.size D.cs rfl rfl (Cel.new w2 38 En.zero.cs) sizeE rfl rfl ?_; intro w3 hc hb hs; have D2 := hid (D1.out.add hc hb); have HN : Hid (g3 < w2.heap.size) := hid (D1.out.get 0 rfl).lt; clear hc hb hs))
    generalize w2.heap.size = g4 at *
    have d0 := (D2.out.get 0 rfl).cell 0
    have d3 := (D2.out.get 0 rfl).cell 3
    simp only [En.cs, List.getElem?_cons_zero, List.getElem?_cons_succ] at d0 d3
    go_wp2_with fail
    go_returns
    exact ⟨rfl, D2.out.db, D2.out.but⟩
  by_cases e2 : D.s = 1
  rotate_left
  · rw [if_neg (fun h => e2 h.2.2)]
    have f2 : (D.s == 1) = false := by simpa using e2
    go_enter Tryz.func9, Tryz.ntmps9
    go_upto_region 1 with fail
    generalize World.alloc _ _ = X at *
    generalize W.heap.size = g3 at *
    have c0 := (D0.out.get 0 rfl).cell 0
    have c1 := (D0.out.get 0 rfl).cell 1
    simp only [List.getElem?_cons_zero, List.getElem?_cons_succ] at c0 c1
    go_upto_region 6 with (first | (go_at_call 12; refine (HE.out _ D0.out.db).mono ?_; rintro x w2 ⟨rfl, hb⟩; have D1 := hid (D0.out.on hb); clear hb c0 c1) | (refine wpList_store_st rfl 38 _ _ rfl w2.heap.size D.cs rfl rfl (Cel.new w2 38 En.zero.cs) sizeE rfl rfl ?_; intro w3 hc hb hs; have D2 := hid (D1.out.add hc hb); have HN : Hid (g3 < w2.heap.size) := hid (D1.out.get 0 rfl).lt; clear hc hb hs))
    generalize w2.heap.size = g4 at *
    have d0 := (D2.out.get 0 rfl).cell 0
    have d3 := (D2.out.get 0 rfl).cell 3
    simp only [En.cs, List.getElem?_cons_zero, List.getElem?_cons_succ] at d0 d3
    go_wp2_with fail
    go_returns
    exact ⟨rfl, D2.out.db, D2.out.but⟩
  rw [if_pos ⟨e0, e1, e2⟩]
  have hh : True := trivial
  go_enter Tryz.func9, Tryz.ntmps9
  go_upto_region 1 with fail
  generalize World.alloc _ _ = X at *
  generalize W.heap.size = g3 at *
  have c0 := (D0.out.get 0 rfl).cell 0
  have c1 := (D0.out.get 0 rfl).cell 1
  simp only [List.getElem?_cons_zero, List.getElem?_cons_succ] at c0 c1
  go_upto_region 6 with (first | (go_at_call 12; refine (HE.out _ D0.out.db).mono ?_; rintro x w2 ⟨rfl, hb⟩; have D1 := hid (D0.out.on hb); clear hb c0 c1) | (refine wpList_store_st rfl 38 _ _ rfl w2.heap.size D.cs rfl rfl (Cel.new w2 38 En.zero.cs) sizeE rfl rfl ?_; intro w3 hc hb hs; have D2 := hid (D1.out.add hc hb); have HN : Hid (g3 < w2.heap.size) := hid (D1.out.get 0 rfl).lt; clear hc hb hs))
  generalize w2.heap.size = g4 at *
  have d0 := (D2.out.get 0 rfl).cell 0
  have d3 := (D2.out.get 0 rfl).cell 3
  simp only [En.cs, List.getElem?_cons_zero, List.getElem?_cons_succ] at d0 d3
  clear hh
  go_upto_region 8 with fail
  have D3 := hid D2.out.tail
  clear D2 d0 d3
  go_loopw [6] (fun i wr => ∃ j : Nat, j ≤ 26 ∧ i = .int .i64 (j : Int) ∧ Hid (DG W wr p (d.dig a (List.replicate 26 0) j) p.w [(g3, 31, [.int .i64 7, .int .u32 a, .int .u32 b, .int .u32 c, .int .u32 f])])) (fun i _ => 26 - (intOf i).toNat)
  case atStart => exact ⟨0, Nat.zero_le _, rfl, hid D3.out⟩
  case round =>
    obtain ⟨j, hj, rfl, HQ⟩ := hrel
    clear D3
    by_cases hlt : j < 26
    · have q1 : (j : Int) < 26 := by omega
      have kw3 : IntKind.wrap .i64 (11 + (j : Int)) = 11 + (j : Int) := by rw [IntKind.wrap_i64]; omega
      have kw2 : IntKind.wrap .i64 ((j : Int) + 1) = (j : Int) + 1 := by rw [IntKind.wrap_i64]; omega
      have HJ := hid hlt
      have HD1 : Hid (d.dig a (List.replicate 26 0) (j + 1) = (d.dig a (List.replicate 26 0) j).wr a (11 + (j : Int)) 0) := hid (by rw [DS.dig, zdig])
      clear hlt hj
      generalize hdn : d.dig a (List.replicate 26 0) (j + 1) = dn at *
      have HDN := hid hdn
      clear hdn
      generalize d.dig a (List.replicate 26 0) j = dj at *
      go_upto_region 10 with fail
      have E1 := hid (HQ.out.on (Below.refl _ _).drew)
      clear HQ
      refine wp_region_held_drew (S := fun w => Cel w g3 31 [.int .i64 7, .int .u32 a, .int .u32 b, .int .u32 c, .int .u32 f]) (by kernel_rfl) (E1.out.get 0 rfl) (fun hHeld => ?_)
      generalize World.drew _ = w3x at *
      refine wpAnyH_take (i := 0) (oi := { dst := some 50, op := Op.move (Operand.tmp 0), type := 25, pos := "law.go:123", after := #[], guard := none }) (v := .pointer (some ⟨p.g, 0, none⟩)) rfl (by kernel_rfl) (by kernel_rfl) (by kernel_rfl) (fun _ _ _ h => h) (Or.inl ⟨by rfl, by intro w hSw; go_simp⟩) (by assumption) ?_
      simp only [Act.put, List.setIfInBounds_toArray, List.set_cons_zero, List.set_cons_succ]
      refine wpAnyH_take (i := 2) (oi := { dst := some 52, op := Op.fieldAddr 31 (Operand.tmp 3) 1, type := 0, pos := "law.go:123", after := #[], guard := none }) (v := .pointer (some ⟨g3, 1, none⟩)) rfl (by kernel_rfl) (by kernel_rfl) (by kernel_rfl) (fun _ _ _ h => h) (Or.inl ⟨by rfl, by intro w hSw; go_simp⟩) (by assumption) ?_
      simp only [Act.put, List.setIfInBounds_toArray, List.set_cons_zero, List.set_cons_succ]
      refine wpAnyH_take (i := 3) (oi := { dst := some 53, op := Op.load 29 (Operand.tmp 52), type := 29, pos := "law.go:123", after := #[{ on := 2, ground := Ground.data }], guard := none }) (v := .int .u32 a) rfl (by kernel_rfl) (by kernel_rfl) (by kernel_rfl) (fun _ _ _ h => h) (Or.inl ⟨by rfl, by intro w hSw; have hc : w.cell? ⟨g3, 1, none⟩ = some (.int .u32 a) := hSw.cell 1; go_simp⟩) (by assumption) ?_
      simp only [Act.put, List.setIfInBounds_toArray, List.set_cons_zero, List.set_cons_succ]
      refine wpAnyH_take (i := 4) (oi := { dst := some 54, op := Op.convert 29 3 (Operand.tmp 53), type := 3, pos := "law.go:123", after := #[{ on := 3, ground := Ground.data }], guard := none }) (v := .int .i64 a) rfl (by kernel_rfl) (by kernel_rfl) (by kernel_rfl) (fun _ _ _ h => h) (Or.inl ⟨by rfl, by intro w hSw; go_simp⟩) (by assumption) ?_
      simp only [Act.put, List.setIfInBounds_toArray, List.set_cons_zero, List.set_cons_succ]
      refine wpAnyH_take (i := 5) (oi := { dst := some 55, op := Op.build 82 #[(0, Operand.const (Value.bool true)), (1, Operand.tmp 54)], type := 82, pos := "law.go:123", after := #[{ on := 4, ground := Ground.data }], guard := none }) (v := .agg #[.bool true, .int .i64 a]) rfl (by kernel_rfl) (by kernel_rfl) (by kernel_rfl) (fun _ _ _ h => h) (Or.inl ⟨by rfl, by intro w hSw; go_simp⟩) (by assumption) ?_
      simp only [Act.put, List.setIfInBounds_toArray, List.set_cons_zero, List.set_cons_succ]
      refine wpAnyH_take (i := 6) (oi := { dst := some 56, op := Op.move (Operand.tmp 6), type := 3, pos := "law.go:123", after := #[], guard := none }) (v := .int .i64 (j : Int)) rfl (by kernel_rfl) (by kernel_rfl) (by kernel_rfl) (fun _ _ _ h => h) (Or.inl ⟨by rfl, by intro w hSw; go_simp⟩) (by assumption) ?_
      simp only [Act.put, List.setIfInBounds_toArray, List.set_cons_zero, List.set_cons_succ]
      refine wpAnyH_take (i := 7) (oi := { dst := some 57, op := Op.binOp BinOp.add 3 (Operand.const (Value.int IntKind.i64 11)) (Operand.tmp 56) 3, type := 3, pos := "law.go:123", after := #[{ on := 6, ground := Ground.data }], guard := none }) (v := .int .i64 (11 + (j : Int))) rfl (by kernel_rfl) (by kernel_rfl) (by kernel_rfl) (fun _ _ _ h => h) (Or.inl ⟨by rfl, by intro w hSw; go_simp⟩) (by assumption) ?_
      simp only [Act.put, List.setIfInBounds_toArray, List.set_cons_zero, List.set_cons_succ]
      refine wpAnyH_ready (rs := [1]) (by kernel_rfl) (by simp) (AllReadyH.cons (o := { dst := some 51, op := Op.call { callee := Callee.value (Operand.func 25), args := #[Operand.tmp 50], argTypes := #[25] }, type := 67, pos := "law.go:123", after := #[{ on := 0, ground := Ground.data }], guard := none }) rfl (fun KQ hK => ?_) AllReadyH.nil)
      go_simp
      refine (HMm.out _ _ E1.out.db).mono ?_
      rintro e w4 ⟨rfl, rfl⟩
      go_wp2_with fail
      refine hK.out _ _ (E1.out.get 0 rfl) (fun hHeld => ?_)
      clear hK KQ
      try simp only [Act.put, List.setIfInBounds_toArray, List.set_cons_zero, List.set_cons_succ]
      refine wpAnyH_ready (rs := [8]) (by kernel_rfl) (by simp) (AllReadyH.cons (o := { dst := some 58, op := Op.call { callee := Callee.value (Operand.func 32), args := #[Operand.tmp 51, Operand.tmp 55, Operand.tmp 57, Operand.const (Value.int IntKind.u32 0)], argTypes := #[67, 82, 3, 29] }, type := 39, pos := "law.go:123", after := #[{ on := 1, ground := Ground.data }, { on := 5, ground := Ground.data }, { on := 7, ground := Ground.data }, { on := 1, ground := Ground.chain }], guard := none }) rfl (fun KQ hK => ?_) AllReadyH.nil)
      go_simp
      refine (HWr.out _ _ E1.out.db _).mono ?_
      rintro e w5 ⟨rfl, hm, hb⟩
      have E2 : Hid (DG W w5 p dn p.w [(g3, 31, [.int .i64 7, .int .u32 a, .int .u32 b, .int .u32 c, .int .u32 f])]) := hid (by rw [HD1.out]; exact E1.out.memp hm hb (MS.write_ns ..))
      clear hm hb E1
      go_wp2_with fail
      refine hK.out _ _ (E2.out.get 0 rfl) (fun hHeld => ?_)
      clear hK KQ
      try simp only [Act.put, List.setIfInBounds_toArray, List.set_cons_zero, List.set_cons_succ]
      refine wpAnyH_done (by kernel_rfl) ?_ _
      go_wp2_with fail
      go_roundw
      case measure => have := HJ.out; simp [intOf] <;> omega
      case rel => exact ⟨j + 1, HJ.out, by simp, hid (by rw [HDN.out]; exact E2.out)⟩
    · obtain rfl : j = 26 := by omega
      clear hlt hj
      have k1 := (HQ.out.get 0 rfl).cell 1
      simp only [List.getElem?_cons_zero, List.getElem?_cons_succ] at k1
      go_wp2_with (first | (go_at_call 33; refine (HSt.out _ _ HQ.out.db).mono ?_; rintro e w8 ⟨rfl, hd, hb⟩; have D9 := hid (HQ.out.step hd hb (fun _ hk => hk)); clear hd hb))
      go_returns
      exact ⟨rfl, D9.out.db, D9.out.but⟩
theorem beside_any (W : World) (p : Dp) (d : DS) (h : DB W p d) (k a b c f : Int) (hw : W5 a b c f) :
    Calls Tryz.prog 9 #[ptr p.g, opV k a b c f] W fun e W' => e = .returned (.tuple #[]) ∧ DB W' p (d.bes k a b c) ∧ ButL p.w W W' := by
  by_cases k6 : k = 6
  · subst k6; exact beside6 W p d h a b c f hw
  by_cases k7 : k = 7
  · subst k7; exact beside7 W p d h a b c f hw
  by_cases k8 : k = 8
  · subst k8; exact beside8 W p d h a b c f hw
  by_cases k9 : k = 9
  · subst k9; exact beside9 W p d h a b c f hw
  rw [show d.bes k a b c = d from by unfold DS.bes; rw [if_neg k6, if_neg k7, if_neg k8, if_neg k9]]
  exact besideN W p d h k a b c f k6 k7 k8 k9
end Go.Proofs.YtllcbgdcepfdkaaGreatDoor
namespace Go.Proofs.YtllcbgdcepfdkaaGreatDoor
open Go.RowKit
set_option maxRecDepth 100000
set_option maxHeartbeats 4000000
/-- What Words tells is loaded back. -/
theorem load_back {d : DS} (h : d.Ok) : ldok d.m.ns d.ws = true ∧ DS.load d.m d.ws = d := by
  have hl : ∀ k, k < d.m.ns → wd d.ws (1 + 2 * k) = e0 (d.at k) ∧ wd d.ws (2 + 2 * k) = e1 (d.at k) := fun k hk => by
    have := wdsOf_at d.b d.E k (by rw [h.len]; exact hk)
    unfold wd DS.ws
    rw [List.getD_eq_getElem?_getD, List.getD_eq_getElem?_getD, this.1, this.2]
    exact ⟨rfl, rfl⟩
  have he : ∀ k, k < d.m.ns → ldE d.ws k = d.at k := fun k hk => by
    unfold ldE; rw [(hl k hk).1, (hl k hk).2]; exact (dec_w (h.ok k hk)).1
  refine ⟨(ldok_iff _ _).2 ⟨d.ws_len h, h.b1, fun k hk => ?_⟩, ?_⟩
  · unfold ldS
    rw [he k hk, (hl k hk).1, (hl k hk).2, (dok_w (h.ok k hk)).1]
    simpa using h.own k hk
  · have hE : (List.range d.m.ns).map (ldE d.ws) = d.E := by
      apply List.ext_getElem?
      intro k
      by_cases hk : k < d.m.ns
      · rw [List.getElem?_map, List.getElem?_range hk]
        show some (ldE d.ws k) = _
        rw [he k hk, DS.at, List.getD_eq_getElem?_getD, List.getElem?_eq_getElem (by rw [h.len]; exact hk)]
        rfl
      · rw [List.getElem?_eq_none (by simpa using hk), List.getElem?_eq_none (by rw [h.len]; omega)]
    unfold DS.load
    rw [hE]
    rfl
/-- A database of the law's own. -/
structure OD (W0 w : World) (p : Dp) (d : DS) : Prop where
  db : DB w p d
  bl : Below W0.heap.size W0 w
  own : ∀ k ∈ p.all, W0.heap.size ≤ k
theorem OD.on {W0 w w' : World} {p : Dp} {d : DS} (h : OD W0 w p d) (hb : Below w.heap.size w w') : OD W0 w' p d := ⟨h.db.on hb, below_on h.bl hb, h.own⟩
theorem OD.step {W0 w w' : World} {p : Dp} {d d' : DS} (h : OD W0 w p d) (hd : DB w' p d') (hb : ButL p.w w w') : OD W0 w' p d' := ⟨hd, h.bl.trans (hb.below (fun k hk => h.own k (p.w_all' k hk)) h.bl.size), h.own⟩
theorem OD.new {W0 w w' : World} {p p' : Dp} {d e : DS} (h : OD W0 w p d) (hn : NewDB w w' p' e) : OD W0 w' p' e := ⟨hn.db, below_on h.bl hn.below, fun k hk => Nat.le_trans h.bl.size (hn.new k hk)⟩
theorem cloneO (W0 : World) (p : Dp) (d : DS) (w : World) (hw : OD W0 w p d) : Calls Tryz.prog 11 #[ptr p.g] w fun e w' => ∃ g, e = .returned (ptr g) ∧ ∃ p', p'.g = g ∧ OD W0 w' p' d :=
  (dclone_any w p d hw.db).mono fun _ _ ⟨p', he, hn⟩ => ⟨p'.g, he, p', rfl, hw.new hn⟩
theorem loadO (d : DS) (hk : d.Ok) (w : World) (f' : Fp) (gn : Nat) (hm : Mem w f' d.m) (hc : Cel w gn 29 (u32s d.ws)) :
    Calls Tryz.prog 36 #[ptr f'.gm, .slice (some ⟨gn, 0, none⟩) (1 + 2 * d.m.ns) (1 + 2 * d.m.ns)] w fun e w' => ∃ g gw, e = .returned (.tuple #[ptr g, .int .i64 0]) ∧ DB w' ⟨g, gw, f'⟩ d ∧ w.heap.size ≤ g ∧ w.heap.size ≤ gw ∧ Below w.heap.size w w' :=
  (load_any w f' d.m hm hk.n64 (some ⟨gn, 0, none⟩) (1 + 2 * d.m.ns) (1 + 2 * d.m.ns) d.ws ⟨DS.ws_len hk, ws_range hk.b0 hk.b1 d.E, fun _ => ⟨gn, 0, rfl, hc.range, hc.lt⟩⟩).mono fun e w' hh => by
    rcases hh with ⟨h1, _⟩ | ⟨_, g, gw, h1, h2, h3⟩
    · rw [(load_back hk).1] at h1; cases h1
    · rw [(load_back hk).2] at h2; exact ⟨g, gw, h1, h2, h3⟩
theorem other_any (W0 W : World) (p : Dp) (d : DS) (h : OD W0 W p d) (k a b c f : Int) :
    Calls Tryz.prog 10 #[ptr p.g, opV k a b c f] W fun e W' => ∃ p', e = .returned (ptr p'.g) ∧ OD W0 W' p' d := by
  have C0 := hid (And.intro (Cel.new W 31 (opC k a b c f)) (h.on (below_one W (.cells (opC k a b c f).toArray 31))))
  have HCl := hid (fun w hw => cloneO W0 p d w hw)
  have HM := hid (fun w (hw : OD W0 w p d) => memory_any w p d hw.db)
  have HC := hid (fun w (hw : OD W0 w p d) => clone_any w p.f d.m hw.db.mem)
  have HW := hid (fun w (hw : OD W0 w p d) => words_any w p d hw.db)
  have HL := hid (fun w f' gn hm hc => loadO d h.db.ok w f' gn hm hc)
  clear h
  simp only [opV, opC, ptr] at *
  by_cases k10 : k = 10
  · subst k10
    go_enter Tryz.func10, Tryz.ntmps10
    go_upto_region 1 with fail
    generalize World.alloc _ _ = X at *
    generalize W.heap.size = g3 at *
    have c0 := (C0.out.1).cell 0
    simp only [List.getElem?_cons_zero] at c0
    go_wp2_with (first | (go_at_call 11; refine (HCl.out _ C0.out.2).mono ?_; rintro e w1 ⟨g, rfl, p', hg, hO⟩; have O1 := hid (And.intro hg hO); clear hg hO))
    go_returns
    exact ⟨_, by rw [O1.out.1]; rfl, O1.out.2⟩
  have n10 : (k == 10) = false := by simpa using k10
  by_cases k11 : k = 11
  · subst k11
    go_enter Tryz.func10, Tryz.ntmps10
    go_upto_region 1 with fail
    generalize World.alloc _ _ = X at *
    generalize W.heap.size = g3 at *
    have c0 := (C0.out.1).cell 0
    simp only [List.getElem?_cons_zero] at c0
    go_upto_region 6 with (first | (go_at_call 25; refine (HM.out _ C0.out.2).mono ?_; rintro e w1 ⟨rfl, rfl⟩) | (go_at_call 37; refine (HC.out _ C0.out.2).mono ?_; rintro e w2 ⟨f', rfl, hn⟩; have O2 := hid (And.intro (C0.out.2.on hn.below) (And.intro hn.mem (fun k hk => Nat.le_trans C0.out.2.bl.size (hn.new k hk)))); clear hn c0) | (go_at_call 38; refine (HW.out _ O2.out.1).mono ?_; rintro e w3 ⟨gn, rfl, hc, _, hb⟩; have O3 := hid (And.intro (O2.out.1.on hb) (And.intro (O2.out.2.1.on hb) hc)); clear hc hb) | (go_at_call 36; refine (HL.out _ _ _ O3.out.2.1 O3.out.2.2).mono ?_; rintro e w4 ⟨g, gw, rfl, hd, hg1, hg2, hb⟩; have O4 : Hid (OD W0 w4 ⟨g, gw, f'⟩ d) := hid ⟨hd, below_on O3.out.1.bl hb, fun k hk => by have h3 := O3.out.1.bl.size; simp only [Dp.all, List.mem_cons] at hk; rcases hk with rfl | rfl | hk; (exact Nat.le_trans h3 hg1); (exact Nat.le_trans h3 hg2); (exact O2.out.2.2 k (by simpa [Fp.all] using hk))⟩; clear hd hg1 hg2 hb))
    go_wp2_with fail
    go_returns
    exact ⟨⟨g, gw, f'⟩, rfl, O4.out⟩
  have n11 : (k == 11) = false := by simpa using k11
  have hh : True := trivial
  go_enter Tryz.func10, Tryz.ntmps10
  go_upto_region 1 with fail
  generalize World.alloc _ _ = X at *
  generalize W.heap.size = g3 at *
  have c0 := (C0.out.1).cell 0
  simp only [List.getElem?_cons_zero] at c0
  go_wp2_with fail
  go_returns
  exact ⟨p, rfl, C0.out.2⟩
end Go.Proofs.YtllcbgdcepfdkaaGreatDoor
