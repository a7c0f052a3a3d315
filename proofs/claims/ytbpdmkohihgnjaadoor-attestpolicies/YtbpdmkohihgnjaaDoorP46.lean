import Derived.Test.YtbpdmkohihgnjaaDoorP45
import Derived.Test.YtbpdmkohihgnjaaDoorP41
import Derived.Stop.LaidTwo
namespace Go.Proofs.YtbpdmkohihgnjaaDoor
open Go.ChangeShapes Go.WideShapes Go.ChangeAt Go.RowKit
set_option maxRecDepth 100000
theorem cells42 : Tryd.prog.cellsOf 42 = 10 := by kernel_rfl
theorem cells36 : Tryd.prog.cellsOf 36 = 2 := by kernel_rfl
theorem cells34 : Tryd.prog.cellsOf 34 = 1 := by kernel_rfl
theorem cells4 : Tryd.prog.cellsOf 4 = 1 := by kernel_rfl
theorem cells9 : Tryd.prog.cellsOf 9 = 1 := by kernel_rfl
theorem take_one {α : Type} {cs : List α} {j : Nat} {v : α} (h : (cs.drop j).take 1 = [v]) : cs[j]? = some v := by
  have := congrArg (fun l => l[0]?) h
  simpa using this
theorem open_arr8 {H : Type} {enc : TypeId × Value → H} {W : World} {b0 fuel : Nat} {held : Bool} {cs : List Value} {y : DataW H × List MemPlace}
    (hf : DataW.trod enc Tryd.prog W b0 (fun _ => true) held fuel 23 cs = some y) : ∃ xs : List Int, cs = xs.map (Value.int .u32) ∧ xs.length = 8 ∧ Wds xs := by
  obtain ⟨ys, m, _, _, hcl, hl, hel⟩ := DataW.trod_array Tryd.underlying23 hf
  rw [cells23] at hcl
  obtain ⟨xs, hxs, hw⟩ := ints_of .u32 cs fun i hi => by
    have hE := hel i (by omega)
    rw [cells22, Nat.mul_one, List.getElem?_eq_getElem (by omega)] at hE
    obtain ⟨z, e1, _, e3⟩ := DataW.trod_int Tryd.underlying22 hE
    exact ⟨z, take_one e1, e3⟩
  exact ⟨xs, hxs, by rw [hxs] at hcl; simpa using hcl, wds_of hw⟩
theorem split8 {cs : List Value} {o k : Nat} {xs : List Int} (h : (cs.drop o).take k = xs.map (Value.int .u32)) (hk : xs.length = k) (j : Nat) (hj : j < k) : cs[o + j]? = some (.int .u32 (xs.getD j 0)) := by
  have := congrArg (fun l => l[j]?) h
  simp only [List.getElem?_take, hj, if_true, List.getElem?_drop, List.getElem?_map] at this
  rw [this, List.getElem?_eq_getElem (by omega)]
  simp [List.getD_eq_getElem?_getD, List.getElem?_eq_getElem (show j < xs.length by omega)]
theorem map_at {xs : List Int} {j : Nat} (hj : j < xs.length) : (xs.map (Value.int .u32))[j]? = some (.int .u32 (xs.getD j 0)) := by
  rw [List.getElem?_map, List.getElem?_eq_getElem hj]
  simp [List.getD_eq_getElem?_getD, List.getElem?_eq_getElem hj]
theorem open_rule {H : Type} {enc : TypeId × Value → H} {W : World} {b0 fuel : Nat} {held : Bool} {cs : List Value} {y : DataW H × List MemPlace}
    (h : DataW.trod enc Tryd.prog W b0 (fun _ => true) held fuel 42 cs = some y) : ∃ r : Rl, cs = r.cs ∧ r.ms.length = 8 ∧ Wds r.ms ∧ r.nm.size ∈ y.1.weights Tryd.prog 42 := by
  obtain ⟨xs, m, rfl, hy, hlen, hn, hel⟩ := DataW.trod_struct Tryd.underlying42 h
  rw [cells42] at hlen
  have hsz : xs.length = 3 := hn
  match xs, hsz with
  | [x0, x1, x2], _ =>
    have e0 : DataW.trod enc Tryd.prog W b0 (fun _ => true) held m 4 ((cs.drop 0).take (Tryd.prog.cellsOf 4)) = some x0 := hel 0 _ rfl
    have e1 : DataW.trod enc Tryd.prog W b0 (fun _ => true) held m 9 ((cs.drop 1).take (Tryd.prog.cellsOf 9)) = some x1 := hel 1 _ rfl
    have e2 : DataW.trod enc Tryd.prog W b0 (fun _ => true) held m 23 ((cs.drop 2).take (Tryd.prog.cellsOf 23)) = some x2 := hel 2 _ rfl
    rw [cells4] at e0
    rw [cells9] at e1
    rw [cells23] at e2
    obtain ⟨b, g0, _⟩ := DataW.trod_bool Tryd.underlying4 (show _ = some x0 from e0)
    obtain ⟨s, g1, hs1, _⟩ := DataW.trod_string Tryd.underlying9 (show _ = some x1 from e1)
    obtain ⟨ms, g2, hl, hw⟩ := open_arr8 e2
    refine ⟨⟨b, s, ms⟩, ?_, hl, hw, ?_⟩
    · apply List.ext_getElem?
      intro j
      by_cases h5 : j < 10
      · rcases (show j = 0 ∨ j = 1 ∨ ∃ i, j = 2 + i ∧ i < 8 from by
          rcases j with _ | _ | j
          · exact .inl rfl
          · exact .inr (.inl rfl)
          · exact .inr (.inr ⟨j, by omega, by omega⟩)) with rfl | rfl | ⟨i, rfl, hi⟩
        · exact take_one g0
        · exact take_one g1
        · rw [split8 g2 hl i hi, Rl.cs, show 2 + i = i + 1 + 1 by omega, List.getElem?_cons_succ, List.getElem?_cons_succ, map_at (by show i < ms.length; omega)]
      · rw [List.getElem?_eq_none (by omega), List.getElem?_eq_none (by simp [Rl.cs, hl]; omega)]
    · rw [show y.1 = _ from congrArg Prod.fst hy]
      subst hs1
      show s.size ∈ DataW.weights Tryd.prog 42 (.agg [x0.1, .lit (.string s.data.toList), x2.1])
      rw [DataW.weights, Tryd.underlying42]
      show s.size ∈ DataW.weights Tryd.prog 4 x0.1 ++ (DataW.weights Tryd.prog 9 (.lit (.string s.data.toList)) ++ _)
      refine List.mem_append_right _ (List.mem_append_left _ ?_)
      rw [DataW.weights]
      exact List.mem_singleton.2 rfl
theorem open_slice {H : Type} {enc : TypeId × Value → H} {W : World} {fuel : Nat} {held : Bool} {cs0 : List Value} {y0 : DataW H × List MemPlace} {t e : TypeId} {st : Nat} (ht : Tryd.prog.underlying t = some (.slice e)) (hce : Tryd.prog.cellsOf e = st) (hst : 0 < st)
    (hf : DataW.trod enc Tryd.prog W 0 (fun _ => true) held fuel t cs0 = some y0) :
    ∃ (ao : Option Addr) (n cap b off : Nat), cs0 = [.slice ao n cap] ∧ n ≤ cap ∧ (0 < n → ao = some ⟨b, off, none⟩ ∧ b < W.heap.size) ∧
      cap ≤ maxLen ∧ (n = 0 ∨ ∃ es sp, y0.1 = .slice es sp ∧ es.length = n ∧ ∀ k, k < n → ∃ cs m y, W.rangeAt b (off + k * st) cs ∧ DataW.trod enc Tryd.prog W 0 (fun _ => true) held m e cs = some y ∧ y.1 ∈ es) := by
  rcases DataW.trod_slice ht hf with ⟨hcs, hx⟩ | ⟨a, len, cap', elems, rest, m, rfl, hcs, hx, hb0, hl, hm, hlen, hel, hsp, hns⟩
  · exact ⟨none, 0, 0, 0, 0, hcs, Nat.le_refl _, fun h => absurd h (by decide), Nat.zero_le _, .inl rfl⟩
  · rw [hce] at hel
    rcases Nat.eq_zero_or_pos len with h0 | hn
    · subst h0
      exact ⟨_, 0, _, 0, 0, hcs, hl, fun h => absurd h (by decide), hm, .inl rfl⟩
    · have each : ∀ k (hk : k < len), ∃ cs y, W.cells? 0 (a.add (k * st)) st = some cs ∧ DataW.trod enc Tryd.prog W 0 (fun _ => true) held m e cs = some y ∧ y.1 ∈ elems.map (·.1) := fun k hk => by
        have he := hel k hk
        obtain ⟨y, hy⟩ : ∃ y, elems[k]? = some y := ⟨elems[k], List.getElem?_eq_getElem (by omega)⟩
        rw [hy] at he
        obtain ⟨cs, h1, h2⟩ := Option.bind_eq_some_iff.1 he
        exact ⟨cs, y, h1, h2, List.mem_map.2 ⟨y, List.mem_of_getElem? hy, rfl⟩⟩
      obtain ⟨b, off, spot⟩ := a
      have hspot : spot = none := by
        obtain ⟨cs, y, h1, _⟩ := each 0 hn
        have := (World.cells?_some h1).2.2 0 hst
        have hc := (World.cells?_some h1).2.1
        rw [List.getElem?_eq_getElem (by omega)] at this
        simpa [Addr.add] using World.cell?_spot this
      subst hspot
      have hadd : ∀ i j, ((⟨b, off, none⟩ : Addr).add i).add j = ⟨b, off + i + j, none⟩ := fun i j => by rw [Addr.add_mid, Addr.add_mid]
      have hblk : b < W.heap.size := by
        obtain ⟨cs, y, h1, _⟩ := each 0 hn
        have := World.cells?_block h1 hst
        simpa [Addr.add] using this
      refine ⟨_, len, cap', b, off, hcs, hl, fun _ => ⟨rfl, hblk⟩, hm, .inr ⟨elems.map (·.1), rest.map (·.1), by rw [hx], by rw [List.length_map]; exact hlen, fun k hk => ?_⟩⟩
      obtain ⟨cs, y, h1, h2, h3⟩ := each k hk
      refine ⟨cs, m, y, fun j v hv => ?_, h2, h3⟩
      have hj : j < st := by have := (List.getElem?_eq_some_iff.1 hv).1; have := (World.cells?_some h1).2.1; omega
      have := (World.cells?_some h1).2.2 j hj
      rw [hadd] at this
      rw [this, hv]
theorem pickr {Q : Nat → Rl → Prop} (n : Nat) (h : ∀ k, k < n → ∃ x, Q k x) : ∃ l : List Rl, l.length = n ∧ ∀ k x, l[k]? = some x → Q k x := by
  refine ⟨(List.range n).map (fun k => if hk : k < n then (h k hk).choose else ⟨false, ⟨#[]⟩, []⟩), by simp, fun k x hx => ?_⟩
  rw [List.getElem?_map] at hx
  obtain ⟨i, hi, rfl⟩ := Option.map_eq_some_iff.1 hx
  have hk : k < n := by simpa using (List.getElem?_eq_some_iff.1 hi).1
  rw [List.getElem?_range hk] at hi
  cases hi
  simp only [hk, dif_pos]
  exact (h k hk).choose_spec
theorem open_pol {H : Type} {enc : TypeId × Value → H} {W : World} {base : Nat} {held : Bool} {v : Value} {d : DataW H} {p : List MemPlace}
    (hv : Value.okWide Tryd.prog W .any base 36 v) (h : DataW.Trod enc Tryd.prog W 0 (fun _ => true) held 36 v d p) (hb : ∀ z ∈ d.weights Tryd.prog 36, z ≤ reachBytes) :
    ∃ (ao : Option Addr) (n c : Nat) (ot : Bool) (R : List Rl), v = .agg (polC ao n c ot).toArray ∧ R.length = n ∧ RulesAt W ao R ∧ (∀ r ∈ R, r.Ok) ∧ (n : Int) ≤ 9223372036854775807 := by
  obtain ⟨cs, rfl, hsz, _⟩ : ∃ cs, v = .agg cs ∧ cs.size = Tryd.prog.cellsOf 36 ∧ Row.okWide Tryd.prog W .any base 36 cs := by
    simpa [Value.okWide, Tryd.underlying36] using hv
  obtain ⟨fuel, hf⟩ := h
  obtain ⟨xs, m, rfl, hy, hlen, hn, hel⟩ := DataW.trod_struct Tryd.underlying36 hf
  obtain ⟨cs⟩ := cs
  have hlen' : cs.length = 2 := by simpa [cells36] using hsz
  have hsz' : xs.length = 2 := hn
  match cs, hlen' with
  | [v0, v1], _ =>
    match xs, hsz' with
    | [x0, x1], _ =>
      have e0 : DataW.trod enc Tryd.prog W 0 (fun _ => true) held m 34 (([v0, v1].drop 0).take (Tryd.prog.cellsOf 34)) = some x0 := hel 0 _ rfl
      have e1 : DataW.trod enc Tryd.prog W 0 (fun _ => true) held m 4 (([v0, v1].drop 1).take (Tryd.prog.cellsOf 4)) = some x1 := hel 1 _ rfl
      rw [cells34] at e0
      rw [cells4] at e1
      obtain ⟨ao, n, cap, b, off, hcs, hnc, hao, hcm, hk⟩ := open_slice Tryd.underlying34 cells42 (by decide) (show _ = some x0 from e0)
      obtain ⟨ot, g1, _⟩ := DataW.trod_bool Tryd.underlying4 (show _ = some x1 from e1)
      simp only [List.drop_zero, List.take_succ_cons, List.take_zero, List.cons.injEq, and_true] at hcs
      simp at g1
      subst hcs g1
      obtain ⟨R, hR, hQ⟩ := pickr (Q := fun k r => W.rangeAt b (off + k * 10) r.cs ∧ r.Ok) n fun k hkn => by
        rcases hk with rfl | ⟨es, sp, he, hel, hk⟩
        · omega
        · obtain ⟨cs, m', y, h1, h2, h3⟩ := hk k hkn
          obtain ⟨r, rfl, hl, hw, hwt⟩ := open_rule h2
          refine ⟨r, h1, hl, hw, ?_⟩
          have hz := hb r.nm.size (by
            rw [show d = _ from congrArg Prod.fst hy]
            simp only [DataW.weights, Tryd.underlying36, List.map_cons, List.map_nil, DataW.weightsEach, he, Tryd.underlying34]
            have := weights_all_mem (P := Tryd.prog) (e := 42) h3 hwt
            simp [this])
          simp only [reachBytes] at hz
          omega
      refine ⟨ao, n, cap, ot, R, rfl, hR, ?_, fun r hr => ?_, by unfold maxLen at hcm; omega⟩
      · rcases Nat.eq_zero_or_pos n with h0 | h0
        · exact .inl (List.eq_nil_of_length_eq_zero (by omega))
        · obtain ⟨rfl, hbl⟩ := hao h0
          exact .inr ⟨b, off, rfl, hbl, fun t r hr => (hQ t r hr).1⟩
      · obtain ⟨t, ht⟩ := List.getElem?_of_mem hr
        exact (hQ t r ht).2
theorem gE1 : Tryd.prog.globalNamed "warden/attest.errTag" = some 1 := by kernel_rfl
theorem gE2 : Tryd.prog.globalNamed "warden/attest.errNonce" = some 2 := by kernel_rfl
theorem gE3 : Tryd.prog.globalNamed "warden/attest.errDenied" = some 3 := by kernel_rfl
theorem gE4 : Tryd.prog.globalNamed "warden/attest.errLong" = some 4 := by kernel_rfl
theorem gE5 : Tryd.prog.globalNamed "warden/attest.errQuoted" = some 5 := by kernel_rfl
theorem gE6 : Tryd.prog.globalNamed "warden/attest.errPolicy" = some 6 := by kernel_rfl
theorem tE1 : (Tryd.prog.globals[1]?).map (·.type) = some 87 := by kernel_rfl
theorem tE2 : (Tryd.prog.globals[2]?).map (·.type) = some 87 := by kernel_rfl
theorem tE3 : (Tryd.prog.globals[3]?).map (·.type) = some 87 := by kernel_rfl
theorem tE4 : (Tryd.prog.globals[4]?).map (·.type) = some 87 := by kernel_rfl
theorem tE5 : (Tryd.prog.globals[5]?).map (·.type) = some 87 := by kernel_rfl
theorem tE6 : (Tryd.prog.globals[6]?).map (·.type) = some 87 := by kernel_rfl
theorem cells255 : Tryd.prog.cellsOf 255 = 1 := by kernel_rfl
theorem star : "*" ++ "errors.errorString" = "*errors.errorString" := by decide
theorem row235 (u : TypeId) (h : Tryd.prog.typeName? 3 u = some "*errors.errorString") : u = 235 :=
  typeName_ptr_named (nm := "errors.errorString") (by rw [star]; kernel_rfl) (by kernel_rfl) (by decide) u (by rw [star]; exact h)
theorem errs_of {W : World} {rest : List (String × DataW Unit)} (h : laidMet Tryd.prog (("warden/attest.errLong", Rows.laid_warden_attest_errLong) :: ("warden/attest.errQuoted", Rows.laid_warden_attest_errQuoted) :: ("warden/attest.errPolicy", Rows.laid_warden_attest_errPolicy) :: ("warden/attest.errTag", Rows.laid_warden_attest_errTag) :: ("warden/attest.errNonce", Rows.laid_warden_attest_errNonce) :: ("warden/attest.errDenied", Rows.laid_warden_attest_errDenied) :: rest) W) (hg : 12 < W.heap.size) : ∃ E, ErrS W E := by
  obtain ⟨ps, ⟨g4, t4, cs4, f4, p4, q4, hg4, ht4, hv4, hd4, ⟨g5, t5, cs5, f5, p5, q5, hg5, ht5, hv5, hd5, ⟨g6, t6, cs6, f6, p6, q6, hg6, ht6, hv6, hd6, ⟨g1, t1, cs1, f1, p1, q1, hg1, ht1, hv1, hd1, ⟨g2, t2, cs2, f2, p2, q2, hg2, ht2, hv2, hd2, ⟨g3, t3, cs3, f3, p3, q3, hg3, ht3, hv3, hd3, _, e3⟩, e2⟩, e1⟩, e6⟩, e5⟩, e4⟩, hnd, hrows⟩ := h
  obtain rfl := Option.some.inj (gE4.symm.trans hg4)
  obtain rfl := Option.some.inj (tE4.symm.trans ht4)
  obtain rfl := Option.some.inj (gE5.symm.trans hg5)
  obtain rfl := Option.some.inj (tE5.symm.trans ht5)
  obtain rfl := Option.some.inj (gE6.symm.trans hg6)
  obtain rfl := Option.some.inj (tE6.symm.trans ht6)
  obtain rfl := Option.some.inj (gE1.symm.trans hg1)
  obtain rfl := Option.some.inj (tE1.symm.trans ht1)
  obtain rfl := Option.some.inj (gE2.symm.trans hg2)
  obtain rfl := Option.some.inj (tE2.symm.trans ht2)
  obtain rfl := Option.some.inj (gE3.symm.trans hg3)
  obtain rfl := Option.some.inj (tE3.symm.trans ht3)
  subst e3
  subst e2
  subst e1
  subst e6
  subst e5
  subst e4
  obtain ⟨l4⟩ := cs4
  obtain ⟨l5⟩ := cs5
  obtain ⟨l6⟩ := cs6
  obtain ⟨l1⟩ := cs1
  obtain ⟨l2⟩ := cs2
  obtain ⟨l3⟩ := cs3
  have ok4 : ∀ u v, l4 = [.iface u v] → Value.okWide Tryd.prog W .any 0 u v := fun u v e => by
    subst e
    exact (hrows 4 0 (by simp [MemPlace.row])).2 u v (by simpa using World.var?_cell hg4 hv4 0)
  have ok5 : ∀ u v, l5 = [.iface u v] → Value.okWide Tryd.prog W .any 0 u v := fun u v e => by
    subst e
    exact (hrows 5 0 (by simp [MemPlace.row])).2 u v (by simpa using World.var?_cell hg5 hv5 0)
  have ok6 : ∀ u v, l6 = [.iface u v] → Value.okWide Tryd.prog W .any 0 u v := fun u v e => by
    subst e
    exact (hrows 6 0 (by simp [MemPlace.row])).2 u v (by simpa using World.var?_cell hg6 hv6 0)
  have ok1 : ∀ u v, l1 = [.iface u v] → Value.okWide Tryd.prog W .any 0 u v := fun u v e => by
    subst e
    exact (hrows 1 0 (by simp [MemPlace.row])).2 u v (by simpa using World.var?_cell hg1 hv1 0)
  have ok2 : ∀ u v, l2 = [.iface u v] → Value.okWide Tryd.prog W .any 0 u v := fun u v e => by
    subst e
    exact (hrows 2 0 (by simp [MemPlace.row])).2 u v (by simpa using World.var?_cell hg2 hv2 0)
  have ok3 : ∀ u v, l3 = [.iface u v] → Value.okWide Tryd.prog W .any 0 u v := fun u v e => by
    subst e
    exact (hrows 3 0 (by simp [MemPlace.row])).2 u v (by simpa using World.var?_cell hg3 hv3 0)
  obtain ⟨a4, s4, rfl, hc4, hs4, hz4, rfl⟩ := errorString_of_trod Tryd.underlying87 row235 Tryd.underlying235 Tryd.underlying255 rfl rfl Tryd.underlying9 cells255 cells9 hd4 ok4
  obtain ⟨a5, s5, rfl, hc5, hs5, hz5, rfl⟩ := errorString_of_trod Tryd.underlying87 row235 Tryd.underlying235 Tryd.underlying255 rfl rfl Tryd.underlying9 cells255 cells9 hd5 ok5
  obtain ⟨a6, s6, rfl, hc6, hs6, hz6, rfl⟩ := errorString_of_trod Tryd.underlying87 row235 Tryd.underlying235 Tryd.underlying255 rfl rfl Tryd.underlying9 cells255 cells9 hd6 ok6
  obtain ⟨a1, s1, rfl, hc1, hs1, hz1, rfl⟩ := errorString_of_trod Tryd.underlying87 row235 Tryd.underlying235 Tryd.underlying255 rfl rfl Tryd.underlying9 cells255 cells9 hd1 ok1
  obtain ⟨a2, s2, rfl, hc2, hs2, hz2, rfl⟩ := errorString_of_trod Tryd.underlying87 row235 Tryd.underlying235 Tryd.underlying255 rfl rfl Tryd.underlying9 cells255 cells9 hd2 ok2
  obtain ⟨a3, s3, rfl, hc3, hs3, hz3, rfl⟩ := errorString_of_trod Tryd.underlying87 row235 Tryd.underlying235 Tryd.underlying255 rfl rfl Tryd.underlying9 cells255 cells9 hd3 ok3
  have b4 := (hrows a4.block a4.off (by simp [MemPlace.row])).1
  have b5 := (hrows a5.block a5.off (by simp [MemPlace.row])).1
  have b6 := (hrows a6.block a6.off (by simp [MemPlace.row])).1
  have b1 := (hrows a1.block a1.off (by simp [MemPlace.row])).1
  have b2 := (hrows a2.block a2.off (by simp [MemPlace.row])).1
  have b3 := (hrows a3.block a3.off (by simp [MemPlace.row])).1
  have v4 : W.cell? ⟨4, 0, none⟩ = some (.iface 235 (.pointer (some a4))) := by simpa using World.var?_cell hg4 hv4 0
  have v5 : W.cell? ⟨5, 0, none⟩ = some (.iface 235 (.pointer (some a5))) := by simpa using World.var?_cell hg5 hv5 0
  have v6 : W.cell? ⟨6, 0, none⟩ = some (.iface 235 (.pointer (some a6))) := by simpa using World.var?_cell hg6 hv6 0
  have v1 : W.cell? ⟨1, 0, none⟩ = some (.iface 235 (.pointer (some a1))) := by simpa using World.var?_cell hg1 hv1 0
  have v2 : W.cell? ⟨2, 0, none⟩ = some (.iface 235 (.pointer (some a2))) := by simpa using World.var?_cell hg2 hv2 0
  have v3 : W.cell? ⟨3, 0, none⟩ = some (.iface 235 (.pointer (some a3))) := by simpa using World.var?_cell hg3 hv3 0
  have n4_5 : a4 ≠ a5 := by rintro rfl; simp [MemPlace.row] at hnd
  have n4_6 : a4 ≠ a6 := by rintro rfl; simp [MemPlace.row] at hnd
  have n4_1 : a4 ≠ a1 := by rintro rfl; simp [MemPlace.row] at hnd
  have n4_2 : a4 ≠ a2 := by rintro rfl; simp [MemPlace.row] at hnd
  have n4_3 : a4 ≠ a3 := by rintro rfl; simp [MemPlace.row] at hnd
  have n5_6 : a5 ≠ a6 := by rintro rfl; simp [MemPlace.row] at hnd
  have n5_1 : a5 ≠ a1 := by rintro rfl; simp [MemPlace.row] at hnd
  have n5_2 : a5 ≠ a2 := by rintro rfl; simp [MemPlace.row] at hnd
  have n5_3 : a5 ≠ a3 := by rintro rfl; simp [MemPlace.row] at hnd
  have n6_1 : a6 ≠ a1 := by rintro rfl; simp [MemPlace.row] at hnd
  have n6_2 : a6 ≠ a2 := by rintro rfl; simp [MemPlace.row] at hnd
  have n6_3 : a6 ≠ a3 := by rintro rfl; simp [MemPlace.row] at hnd
  have n1_2 : a1 ≠ a2 := by rintro rfl; simp [MemPlace.row] at hnd
  have n1_3 : a1 ≠ a3 := by rintro rfl; simp [MemPlace.row] at hnd
  have n2_3 : a2 ≠ a3 := by rintro rfl; simp [MemPlace.row] at hnd
  refine ⟨fun i => if i = 1 then a1 else if i = 2 then a2 else if i = 3 then a3 else if i = 4 then a4 else if i = 5 then a5 else a6, ?_, ?_, ?_, hg⟩
  · intro i h1 h2
    rcases (show i = 1 ∨ i = 2 ∨ i = 3 ∨ i = 4 ∨ i = 5 ∨ i = 6 by omega) with rfl | rfl | rfl | rfl | rfl | rfl
    · exact v1
    · exact v2
    · exact v3
    · exact v4
    · exact v5
    · exact v6
  · intro i j h1 h2 h3 h4 hij
    rcases (show i = 1 ∨ i = 2 ∨ i = 3 ∨ i = 4 ∨ i = 5 ∨ i = 6 by omega) with rfl | rfl | rfl | rfl | rfl | rfl <;> rcases (show j = 1 ∨ j = 2 ∨ j = 3 ∨ j = 4 ∨ j = 5 ∨ j = 6 by omega) with rfl | rfl | rfl | rfl | rfl | rfl
    · exact absurd rfl hij
    · exact n1_2
    · exact n1_3
    · exact n4_1.symm
    · exact n5_1.symm
    · exact n6_1.symm
    · exact n1_2.symm
    · exact absurd rfl hij
    · exact n2_3
    · exact n4_2.symm
    · exact n5_2.symm
    · exact n6_2.symm
    · exact n1_3.symm
    · exact n2_3.symm
    · exact absurd rfl hij
    · exact n4_3.symm
    · exact n5_3.symm
    · exact n6_3.symm
    · exact n4_1
    · exact n4_2
    · exact n4_3
    · exact absurd rfl hij
    · exact n4_5
    · exact n4_6
    · exact n5_1
    · exact n5_2
    · exact n5_3
    · exact n4_5.symm
    · exact absurd rfl hij
    · exact n5_6
    · exact n6_1
    · exact n6_2
    · exact n6_3
    · exact n4_6.symm
    · exact n5_6.symm
    · exact absurd rfl hij
  · intro i h1 h2
    rcases (show i = 1 ∨ i = 2 ∨ i = 3 ∨ i = 4 ∨ i = 5 ∨ i = 6 by omega) with rfl | rfl | rfl | rfl | rfl | rfl
    · exact b1
    · exact b2
    · exact b3
    · exact b4
    · exact b5
    · exact b6
end Go.Proofs.YtbpdmkohihgnjaaDoor
