/- Arguments opened: words, the law's operations. -/
import Derived.Test.YtmomidkodjihjaaDoorLw
import Derived.Test.YtmomidkodjihjaaDoorMm
import Derived.SizedLaws
import Derived.OwnWalk
namespace Go.Proofs.YtmomidkodjihjaaDoor
open Go.ChangeShapes Go.WideShapes Go.ChangeAt Go.RowKit
open H
set_option maxRecDepth 100000
theorem bytes24 : Tryd.prog.bytesOf 24 = 4 := by kernel_rfl
theorem bytes94 : Tryd.prog.bytesOf 94 = 56 := by kernel_rfl
theorem cel94 : Tryd.prog.cellsOf 94 = 5 := by kernel_rfl
theorem celI : Tryd.prog.cellsOf 3 = 1 := by kernel_rfl
theorem cel22 : Tryd.prog.cellsOf 22 = 1 := by kernel_rfl
/-- A slice of integers that came in. -/
theorem open_list {H : Type} {enc : TypeId × Value → H} {W : World} {base b0 : Nat} {held : Bool} {v : Value} {d : DataW H} {p : List MemPlace} {t e : TypeId} {k : IntKind}
    (ht : Tryd.prog.underlying t = some (.slice e)) (he : Tryd.prog.underlying e = some (.int k)) (hc : Tryd.prog.cellsOf e = 1)
    (hv : Value.okWide Tryd.prog W .any base t v) (h : DataW.Trod enc Tryd.prog W b0 (fun _ => true) held t v d p) :
    ∃ ao n cap xs, v = .slice ao n cap ∧ n ≤ cap ∧ xs.length = n ∧ (∀ x ∈ xs, (Lit.int k x).wf = true) ∧ At W k ao xs ∧ (n = 0 ∨ ∃ elems spare, d = .slice elems spare ∧ elems.length = n) := by
  obtain ⟨ao, n, cap, rfl⟩ := okWide_slice ht hv
  obtain ⟨fuel, hf⟩ := h
  rcases open_ints ht he hc hf with ⟨hcs, hx⟩ | ⟨x, l, c, zs, hcs, hb, hl, hm, hz, hx, hcell, hwz⟩
  · simp [Value.cells] at hcs
    obtain ⟨rfl, rfl, rfl⟩ := hcs
    exact ⟨none, 0, 0, [], rfl, Nat.le_refl _, rfl, fun x hx => by simp at hx, .inl rfl, .inl rfl⟩
  · simp [Value.cells] at hcs
    obtain ⟨rfl, rfl, rfl⟩ := hcs
    simp only [if_true] at hz
    have hlen : (zs.take n).length = n := by simp; omega
    refine ⟨some x, n, cap, zs.take n, rfl, hl, hlen, fun y hy => hwz y (List.mem_of_mem_take hy), ?_, ?_⟩
    · rcases Nat.eq_zero_or_pos n with rfl | hn
      · exact .inl (by simp)
      · obtain ⟨b, off, spot⟩ := x
        have h0 := hcell 0 (by omega)
        have hspot : spot = none := by simpa [Addr.add] using World.cell?_spot h0
        subst hspot
        refine .inr ⟨b, off, rfl, ?_, ?_⟩
        · rcases Nat.lt_or_ge b W.heap.size with h | h
          · exact h
          · simp [Addr.add, World.cell?, Array.getElem?_eq_none h] at h0
        · intro i hi
          have := hcell i (by omega)
          have e1 : (⟨b, off, none⟩ : Addr).add i = ⟨b, off + i, none⟩ := by unfold Addr.add; split <;> simp_all
          rw [e1] at this
          rw [this]
          congr 2
          simp only [List.getD_eq_getElem?_getD, List.getElem?_take]
          rw [if_pos (by omega)]
    · right
      simp only [Prod.mk.injEq] at hx
      exact ⟨_, _, hx.1, by simp [lits]; omega⟩
theorem wds_of {xs : List Int} (h : ∀ x ∈ xs, (Lit.int .u32 x).wf = true) : Wds xs := fun j => by
  have := range_u32 h j
  rw [List.getD_eq_getElem?_getD]
  omega
/-- Words inside of something that came in. -/
theorem open_words {H : Type} {enc : TypeId × Value → H} {W : World} {b0 fuel : Nat} {held : Bool} {cs : List Value} {y : DataW H × List MemPlace}
    (hf : DataW.trod enc Tryd.prog W b0 (fun _ => true) held fuel 22 cs = some y) :
    ∃ ao n cap xs, cs = [.slice ao n cap] ∧ n ≤ cap ∧ cap ≤ 9223372036854775807 ∧ xs.length = n ∧ Wds xs ∧ At W .u32 ao xs := by
  rcases open_ints Tryd.underlying22 Tryd.underlying24 cells24 hf with ⟨hcs, hx⟩ | ⟨x, n, cap, zs, hcs, hb, hl, hm, hz, hx, hcell, hwz⟩
  · exact ⟨none, 0, 0, [], hcs, Nat.le_refl _, by decide, rfl, fun j => by simp, .inl rfl⟩
  · simp only [if_true] at hz
    have hlen : (zs.take n).length = n := by simp; omega
    refine ⟨some x, n, cap, zs.take n, hcs, hl, hm, hlen, wds_of (fun y hy => hwz y (List.mem_of_mem_take hy)), ?_⟩
    rcases Nat.eq_zero_or_pos n with rfl | hn
    · exact .inl (by simp)
    · obtain ⟨b, off, spot⟩ := x
      have h0 := hcell 0 (by omega)
      have hspot : spot = none := by simpa [Addr.add] using World.cell?_spot h0
      subst hspot
      refine .inr ⟨b, off, rfl, ?_, ?_⟩
      · rcases Nat.lt_or_ge b W.heap.size with h | h
        · exact h
        · simp [Addr.add, World.cell?, Array.getElem?_eq_none h] at h0
      · intro i hi
        have := hcell i (by omega)
        have e1 : (⟨b, off, none⟩ : Addr).add i = ⟨b, off + i, none⟩ := by unfold Addr.add; split <;> simp_all
        rw [e1] at this
        rw [this]
        congr 2
        simp only [List.getD_eq_getElem?_getD, List.getElem?_take]
        rw [if_pos (by omega)]
theorem take_one {α : Type} {cs : List α} {j : Nat} {v : α} (h : (cs.drop j).take 1 = [v]) : cs[j]? = some v := by
  have := congrArg (fun l => l[0]?) h
  simpa using this
theorem lit_u32 {x : Int} (h : (Lit.int .u32 x).wf = true) : 0 ≤ x ∧ x < 4294967296 := by
  have := range_u32 (zs := [x]) (fun y hy => by rw [List.mem_singleton] at hy; subst hy; exact h) 0
  simp at this
  omega
theorem open_op {H : Type} {enc : TypeId × Value → H} {W : World} {b0 fuel : Nat} {held : Bool} {cs : List Value} {y : DataW H × List MemPlace}
    (h : DataW.trod enc Tryd.prog W b0 (fun _ => true) held fuel 94 cs = some y) : ∃ x : Lv, cs = x.cs ∧ LvW x ∧ At W .u32 x.p x.ld ∧ x.ld.length ≤ 9223372036854775807 := by
  obtain ⟨xs, m, rfl, hy, hlen, hn, hel⟩ := DataW.trod_struct Tryd.underlying94 h
  rw [cel94] at hlen
  have hsz : xs.length = 5 := hn
  match xs, hsz with
  | [x0, x1, x2, x3, x4], _ =>
    have e0 : DataW.trod enc Tryd.prog W b0 (fun _ => true) held m 3 ((cs.drop 0).take (Tryd.prog.cellsOf 3)) = some x0 := hel 0 _ rfl
    have e1 : DataW.trod enc Tryd.prog W b0 (fun _ => true) held m 24 ((cs.drop 1).take (Tryd.prog.cellsOf 24)) = some x1 := hel 1 _ rfl
    have e2 : DataW.trod enc Tryd.prog W b0 (fun _ => true) held m 22 ((cs.drop 2).take (Tryd.prog.cellsOf 22)) = some x2 := hel 2 _ rfl
    have e3 : DataW.trod enc Tryd.prog W b0 (fun _ => true) held m 3 ((cs.drop 3).take (Tryd.prog.cellsOf 3)) = some x3 := hel 3 _ rfl
    have e4 : DataW.trod enc Tryd.prog W b0 (fun _ => true) held m 24 ((cs.drop 4).take (Tryd.prog.cellsOf 24)) = some x4 := hel 4 _ rfl
    rw [celI] at e0 e3
    rw [cells24] at e1 e4
    rw [cel22] at e2
    obtain ⟨k, g0, _, _⟩ := DataW.trod_int Tryd.underlying3 (show _ = some x0 from e0)
    obtain ⟨a, g1, _, ka⟩ := DataW.trod_int Tryd.underlying24 (show _ = some x1 from e1)
    obtain ⟨ao, n, cap, ld, g2, hnc, hcm, hln, hw, hat⟩ := open_words e2
    obtain ⟨lg, g3, _, _⟩ := DataW.trod_int Tryd.underlying3 (show _ = some x3 from e3)
    obtain ⟨fl, g4, _, kf⟩ := DataW.trod_int Tryd.underlying24 (show _ = some x4 from e4)
    refine ⟨⟨k, a, ld, ao, cap, lg, fl⟩, ?_, ⟨(lit_u32 ka).1, (lit_u32 ka).2, hw, (lit_u32 kf).1, (lit_u32 kf).2⟩, hat, by show ld.length ≤ _; omega⟩
    apply List.ext_getElem?
    intro j
    by_cases h5 : j < 5
    · rcases (show j = 0 ∨ j = 1 ∨ j = 2 ∨ j = 3 ∨ j = 4 by omega) with rfl | rfl | rfl | rfl | rfl
      · exact take_one g0
      · exact take_one g1
      · rw [take_one g2, ← hln]; rfl
      · exact take_one g3
      · exact take_one g4
    · rw [List.getElem?_eq_none (by omega), List.getElem?_eq_none (by simp [Lv.cs]; omega)]
theorem open_slice {H : Type} {enc : TypeId × Value → H} {W : World} {fuel : Nat} {held : Bool} {cs0 : List Value} {y0 : DataW H × List MemPlace} {t e : TypeId} {st : Nat} (ht : Tryd.prog.underlying t = some (.slice e)) (hce : Tryd.prog.cellsOf e = st) (hst : 0 < st)
    (hf : DataW.trod enc Tryd.prog W 0 (fun _ => true) held fuel t cs0 = some y0) :
    ∃ (ao : Option Addr) (n cap b off : Nat), cs0 = [.slice ao n cap] ∧ n ≤ cap ∧ (0 < n → ao = some ⟨b, off, none⟩ ∧ b < W.heap.size) ∧
      (∀ k, k < n → ∃ cs m y, W.rangeAt b (off + k * st) cs ∧ DataW.trod enc Tryd.prog W 0 (fun _ => true) held m e cs = some y) ∧ (n = 0 ∨ ∃ elems spare, y0.1 = .slice elems spare ∧ elems.length = n) := by
  rcases DataW.trod_slice ht hf with ⟨hcs, hx⟩ | ⟨a, len, cap', elems, rest, m, rfl, hcs, hx, hb0, hl, hm, hlen, hel, hsp, hns⟩
  · exact ⟨none, 0, 0, 0, 0, hcs, Nat.le_refl _, fun h => absurd h (by decide), fun k hk => absurd hk (by omega), .inl rfl⟩
  · rw [hce] at hel
    have hd : len = 0 ∨ ∃ es sp, y0.1 = .slice es sp ∧ es.length = len := .inr ⟨_, _, by rw [hx], by rw [List.length_map]; exact hlen⟩
    rcases Nat.eq_zero_or_pos len with h0 | hn
    · subst h0
      exact ⟨_, 0, _, 0, 0, hcs, hl, fun h => absurd h (by decide), fun k hk => absurd hk (by omega), .inl rfl⟩
    · have each : ∀ k (hk : k < len), ∃ cs y, W.cells? 0 (a.add (k * st)) st = some cs ∧ DataW.trod enc Tryd.prog W 0 (fun _ => true) held m e cs = some y := fun k hk => by
        have he := hel k hk
        obtain ⟨y, hy⟩ : ∃ y, elems[k]? = some y := ⟨elems[k], List.getElem?_eq_getElem (by omega)⟩
        rw [hy] at he
        obtain ⟨cs, h1, h2⟩ := Option.bind_eq_some_iff.1 he
        exact ⟨cs, y, h1, h2⟩
      obtain ⟨b, off, spot⟩ := a
      have hspot : spot = none := by
        obtain ⟨cs, y, h1, _⟩ := each 0 hn
        have := (World.cells?_some h1).2.2 0 hst
        have hc := (World.cells?_some h1).2.1
        rw [List.getElem?_eq_getElem (by omega)] at this
        simpa [Addr.add] using World.cell?_spot this
      subst hspot
      have hadd : ∀ i j, ((⟨b, off, none⟩ : Addr).add i).add j = ⟨b, off + i + j, none⟩ := fun i j => by rw [Addr.add_mid, Addr.add_mid]
      have hblk : b < W.heap.size := by
        obtain ⟨cs, y, h1, _⟩ := each 0 hn
        have := World.cells?_block h1 hst
        simpa [Addr.add] using this
      refine ⟨_, len, cap', b, off, hcs, hl, fun _ => ⟨rfl, hblk⟩, fun k hk => ?_, hd⟩
      obtain ⟨cs, y, h1, h2⟩ := each k hk
      refine ⟨cs, m, y, fun j v hv => ?_, h2⟩
      have hj : j < st := by have := (List.getElem?_eq_some_iff.1 hv).1; have := (World.cells?_some h1).2.1; omega
      have := (World.cells?_some h1).2.2 j hj
      rw [hadd] at this
      rw [this, hv]
theorem flat_at {W : World} {b off : Nat} : ∀ (l : List Lv), (∀ k x, l[k]? = some x → W.rangeAt b (off + k * 5) x.cs) → ∀ j u, (l.flatMap Lv.cs)[j]? = some u → W.cell? ⟨b, off + j, none⟩ = some u := fun l h j u hu => by
  have hj : j < l.length * 5 := by
    rw [← lcs_len]
    exact (List.getElem?_eq_some_iff.1 hu).1
  obtain ⟨x, hx⟩ : ∃ x, l[j / 5]? = some x := ⟨l[j / 5]'(by omega), List.getElem?_eq_getElem _⟩
  have e := lcs_get l (j / 5) (j % 5) x hx (by omega)
  rw [show j / 5 * 5 + j % 5 = j by omega, hu] at e
  have := h (j / 5) x hx (j % 5) u e.symm
  rwa [show off + j / 5 * 5 + j % 5 = off + j by omega] at this
theorem pickl {Q : Nat → Lv → Prop} (n : Nat) (h : ∀ k, k < n → ∃ x, Q k x) : ∃ l : List Lv, l.length = n ∧ ∀ k x, l[k]? = some x → Q k x := by
  refine ⟨(List.range n).map (fun k => if hk : k < n then (h k hk).choose else ⟨0, 0, [], none, 0, 0, 0⟩), by simp, fun k x hx => ?_⟩
  rw [List.getElem?_map] at hx
  obtain ⟨i, hi, rfl⟩ := Option.map_eq_some_iff.1 hx
  have hk : k < n := by simpa using (List.getElem?_eq_some_iff.1 hi).1
  rw [List.getElem?_range hk] at hi
  cases hi
  simp only [hk, dif_pos]
  exact (h k hk).choose_spec
theorem open_ops {H : Type} {enc : TypeId × Value → H} {W : World} {base : Nat} {held : Bool} {v : Value} {d : DataW H} {p : List MemPlace}
    (hv : Value.okWide Tryd.prog W .any base 23 v) (h : DataW.Trod enc Tryd.prog W 0 (fun _ => true) held 23 v d p) :
    ∃ (ao : Option Addr) (n cap : Nat) (l : List Lv), v = .slice ao n cap ∧ l.length = n ∧ LL W ao l ∧ (∀ x ∈ l, LvW x) ∧ (n = 0 ∨ ∃ elems spare, d = .slice elems spare ∧ elems.length = n) := by
  obtain ⟨ao, n, cap, rfl⟩ := okWide_slice Tryd.underlying23 hv
  obtain ⟨fuel, hf⟩ := h
  obtain ⟨ao', n', cap', b, off, hcs, _, hao, hk, hd⟩ := open_slice Tryd.underlying23 cel94 (by decide) hf
  simp only [Value.cells, List.cons.injEq, Value.slice.injEq, and_true] at hcs
  obtain ⟨rfl, rfl, rfl⟩ := hcs
  obtain ⟨l, hl, hQ⟩ := pickl (Q := fun k x => W.rangeAt b (off + k * 5) x.cs ∧ LvW x ∧ At W .u32 x.p x.ld ∧ x.ld.length ≤ 9223372036854775807) n fun k hkn => by
    obtain ⟨cs, m, y, h1, h2⟩ := hk k hkn
    obtain ⟨x, rfl, hx⟩ := open_op h2
    exact ⟨x, h1, hx⟩
  refine ⟨ao, n, cap, l, rfl, hl, ⟨?_, fun x hx => ?_⟩, fun x hx => ?_, hd⟩
  · rcases Nat.eq_zero_or_pos n with h0 | h0
    · exact .inl (List.eq_nil_of_length_eq_zero (by omega))
    · obtain ⟨e1, e2⟩ := hao h0
      exact .inr ⟨b, off, e1, e2, flat_at l (fun k x hx => (hQ k x hx).1)⟩
  · obtain ⟨k, hk⟩ := List.mem_iff_getElem?.1 hx
    exact (hQ k x hk).2.2
  · obtain ⟨k, hk⟩ := List.mem_iff_getElem?.1 hx
    exact (hQ k x hk).2.1
end Go.Proofs.YtmomidkodjihjaaDoor
