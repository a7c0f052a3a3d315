/- A script of steps that came in, opened. -/
import Derived.Test.YtjkkelkblccolaaDoorBStep
import Derived.Test.YtjkkelkblccolaaDoorArgs2
namespace Go.Proofs.YtjkkelkblccolaaDoor
open Go.ChangeShapes Go.WideShapes Go.ChangeAt Go.RowKit

/-- A slice of integers in a cell that was read. -/
theorem open_cells {H : Type} {enc : TypeId × Value → H} {W : World} {b0 fuel : Nat} {held : Bool} {cs : List Value} {x : DataW H × List MemPlace} {t e : TypeId} {k : IntKind}
    (ht : Tryd.prog.underlying t = some (.slice e)) (he : Tryd.prog.underlying e = some (.int k)) (hc : Tryd.prog.cellsOf e = 1)
    (hf : DataW.trod enc Tryd.prog W b0 (fun _ => true) held fuel t cs = some x) :
    ∃ ao n cap xs, cs = [.slice ao n cap] ∧ xs.length = n ∧ (∀ y ∈ xs, (Lit.int k y).wf = true) ∧ At W k ao xs ∧ (n = 0 ∨ ∃ elems spare, x.1 = .slice elems spare ∧ elems.length = n) := by
  rcases open_ints ht he hc hf with ⟨hcs, hx⟩ | ⟨a, n, cap, zs, hcs, hb, hl, hm, hz, hx, hcell, hwz⟩
  · exact ⟨none, 0, 0, [], hcs, rfl, fun x hx => by simp at hx, .inl rfl, .inl rfl⟩
  · simp only [if_true] at hz
    have hlen : (zs.take n).length = n := by simp; omega
    refine ⟨some a, n, cap, zs.take n, hcs, hlen, fun y hy => hwz y (List.mem_of_mem_take hy), ?_, ?_⟩
    · rcases Nat.eq_zero_or_pos n with rfl | hn
      · exact .inl (by simp)
      · obtain ⟨b, off, spot⟩ := a
        have h0 := hcell 0 (by omega)
        have hspot : spot = none := by simpa [Addr.add] using World.cell?_spot h0
        subst hspot
        refine .inr ⟨b, off, rfl, ?_, ?_⟩
        · rcases Nat.lt_or_ge b W.heap.size with h | h
          · exact h
          · simp [Addr.add, World.cell?, Array.getElem?_eq_none h] at h0
        · intro i hi
          have := hcell i (by omega)
          have e1 : (⟨b, off, none⟩ : Addr).add i = ⟨b, off + i, none⟩ := by unfold Addr.add; split <;> simp_all
          rw [e1] at this
          rw [this]
          congr 2
          simp only [List.getD_eq_getElem?_getD, List.getElem?_take]
          rw [if_pos (by omega)]
    · right
      rw [hx]
      exact ⟨_, _, rfl, by simp [lits]; omega⟩
theorem cells3 : Tryd.prog.cellsOf 3 = 1 := by kernel_rfl
theorem cells23 : Tryd.prog.cellsOf 23 = 1 := by kernel_rfl
theorem cells65 : Tryd.prog.cellsOf 65 = 4 := by kernel_rfl
theorem weights_all_mem {H : Type} {P : Program} {e : TypeId} {d : DataW H} {z : Nat} : ∀ {l : List (DataW H)}, d ∈ l → z ∈ d.weights P e → z ∈ DataW.weightsAll P e l
  | [], h, _ => by cases h
  | x :: l, h, hz => by
    simp only [DataW.weightsAll, List.mem_append]
    rcases List.mem_cons.1 h with rfl | h
    · exact .inl hz
    · exact .inr (weights_all_mem h hz)
/-- One step of a script that came in. -/
theorem open_op {H : Type} {enc : TypeId × Value → H} {W : World} {b0 fuel : Nat} {held : Bool} {cs : List Value} {y : DataW H × List MemPlace}
    (h : DataW.trod enc Tryd.prog W b0 (fun _ => true) held fuel 65 cs = some y) (hb : ∀ z ∈ y.1.weights Tryd.prog 65, z ≤ reachBytes) : ∃ (kd d nn : Int) (aw : Option Addr) (m cw : Nat) (xs : List Int), cs = [Value.int .i64 kd, .int .i64 d, .int .i64 nn, .slice aw m cw] ∧ xs.length = m ∧ Wds xs ∧ At W .u32 aw xs ∧ 4 * m ≤ 140737488351232 := by
  obtain ⟨xs, m, rfl, hy, hlen, hn, hel⟩ := DataW.trod_struct Tryd.underlying65 h
  rw [cells65] at hlen
  have hsz : xs.length = 4 := hn
  match cs, hlen with
  | [v0, v1, v2, v3], _ =>
    match xs, hsz with
    | [x0, x1, x2, x3], _ =>
      have e0 : DataW.trod enc Tryd.prog W b0 (fun _ => true) held m 3 (([v0, v1, v2, v3].drop 0).take (Tryd.prog.cellsOf 3)) = some x0 := hel 0 _ rfl
      have e1 : DataW.trod enc Tryd.prog W b0 (fun _ => true) held m 3 (([v0, v1, v2, v3].drop 1).take (Tryd.prog.cellsOf 3)) = some x1 := hel 1 _ rfl
      have e2 : DataW.trod enc Tryd.prog W b0 (fun _ => true) held m 3 (([v0, v1, v2, v3].drop 2).take (Tryd.prog.cellsOf 3)) = some x2 := hel 2 _ rfl
      have e3 : DataW.trod enc Tryd.prog W b0 (fun _ => true) held m 23 (([v0, v1, v2, v3].drop 3).take (Tryd.prog.cellsOf 23)) = some x3 := hel 3 _ rfl
      rw [cells3] at e0 e1 e2
      rw [cells23] at e3
      obtain ⟨kd, g0, _, _⟩ := DataW.trod_int Tryd.underlying3 (show _ = some x0 from e0)
      obtain ⟨d, g1, _, _⟩ := DataW.trod_int Tryd.underlying3 (show _ = some x1 from e1)
      obtain ⟨nn, g2, _, _⟩ := DataW.trod_int Tryd.underlying3 (show _ = some x2 from e2)
      obtain ⟨aw, ln, cw, lx, g3, ll, lw, la, lb⟩ := open_cells Tryd.underlying23 Tryd.underlying26 cells26 (show _ = some x3 from e3)
      simp at g0 g1 g2 g3
      subst g0 g1 g2 g3
      refine ⟨kd, d, nn, aw, ln, cw, lx, rfl, ll, wds_of lw, la, ?_⟩
      rcases lb with rfl | ⟨elems, spare, he, hl⟩
      · decide
      · have hz := hb ((elems.length + spare.length) * Tryd.prog.bytesOf 26) (by
          rw [hy]
          simp only [DataW.weights, Tryd.underlying65, List.map_cons, List.map_nil, DataW.weightsEach, he, Tryd.underlying23]
          simp)
        rw [bytes26] at hz
        simp only [reachBytes] at hz
        omega
/-- A script that came in. -/
theorem open_script {H : Type} {enc : TypeId × Value → H} {W : World} {base : Nat} {v : Value} {d : DataW H} {p : List MemPlace}
    (hv : Value.okWide Tryd.prog W .any base 55 v) (h : DataW.Trod enc Tryd.prog W 0 (fun _ => true) true 55 v d p) (hb : ∀ z ∈ d.weights Tryd.prog 55, z ≤ reachBytes) :
    ∃ ao n cap, v = .slice ao n cap ∧ (n = 0 ∨ ∃ b off, ao = some ⟨b, off, none⟩ ∧ b < W.heap.size ∧ ∀ k, k < n → OpAt W b off k) ∧ n ≤ 140737488351232 := by
  obtain ⟨ao, n, cap, rfl⟩ := okWide_slice Tryd.underlying55 hv
  obtain ⟨fuel, hf⟩ := h
  rcases DataW.trod_slice Tryd.underlying55 hf with ⟨hcs, hx⟩ | ⟨a, len, cap', elems, rest, m, rfl, hcs, hx, hb0, hl, hm, hlen, hel, hsp, hns⟩
  · simp [Value.cells] at hcs
    obtain ⟨rfl, rfl, rfl⟩ := hcs
    exact ⟨none, 0, 0, rfl, .inl rfl, by decide⟩
  · simp [Value.cells] at hcs
    obtain ⟨rfl, rfl, rfl⟩ := hcs
    rw [cells65] at hel
    simp only [Prod.mk.injEq] at hx
    have hbe : ∀ y ∈ elems, ∀ z ∈ y.1.weights Tryd.prog 65, z ≤ reachBytes := fun y hy z hz => by
      apply hb
      rw [hx.1]
      simp only [DataW.weights, Tryd.underlying55, List.mem_cons, List.mem_append]
      exact .inr (.inl (weights_all_mem (List.mem_map_of_mem hy) hz))
    have hbn : n * Tryd.prog.bytesOf 65 ≤ reachBytes := by
      have := hb _ (by rw [hx.1]; simp only [DataW.weights, Tryd.underlying55]; exact List.mem_cons_self)
      rw [List.length_map, hlen] at this
      exact Nat.le_trans (Nat.mul_le_mul_right _ (Nat.le_add_right _ _)) this
    rw [show Tryd.prog.bytesOf 65 = 48 by kernel_rfl] at hbn
    simp only [reachBytes] at hbn
    refine ⟨some a, n, cap, rfl, ?_, by omega⟩
    rcases Nat.eq_zero_or_pos n with h0 | hn
    · exact .inl h0
    · right
      have each : ∀ k, k < n → ∃ cs y, W.cells? 0 (a.add (k * 4)) 4 = some cs ∧ DataW.trod enc Tryd.prog W 0 (fun _ => true) true m 65 cs = some y ∧ ∀ z ∈ y.1.weights Tryd.prog 65, z ≤ reachBytes := fun k hk => by
        have he := hel k hk
        obtain ⟨y, hy⟩ : ∃ y, elems[k]? = some y := ⟨elems[k], List.getElem?_eq_getElem (by omega)⟩
        rw [hy] at he
        obtain ⟨cs, h1, h2⟩ := Option.bind_eq_some_iff.1 he
        exact ⟨cs, y, h1, h2, hbe y (List.mem_of_getElem? hy)⟩
      obtain ⟨b, off, spot⟩ := a
      have hspot : spot = none := by
        obtain ⟨cs, y, h1, _, _⟩ := each 0 hn
        have := (World.cells?_some h1).2.2 0 (by decide)
        have hc := (World.cells?_some h1).2.1
        rw [List.getElem?_eq_getElem (by omega)] at this
        simpa [Addr.add] using World.cell?_spot this
      subst hspot
      have hadd : ∀ i j, ((⟨b, off, none⟩ : Addr).add i).add j = ⟨b, off + i + j, none⟩ := fun i j => by
        have e1 : ∀ o i, (⟨b, o, none⟩ : Addr).add i = ⟨b, o + i, none⟩ := fun o i => by unfold Addr.add; split <;> simp_all
        rw [e1, e1]
      refine ⟨b, off, rfl, ?_, ?_⟩
      · obtain ⟨cs, y, h1, _, _⟩ := each 0 hn
        have := World.cells?_block h1 (by decide)
        simpa [Addr.add] using this
      · intro k hk
        obtain ⟨cs, y, h1, h2, h3⟩ := each k hk
        obtain ⟨kd, d, nn, aw, ln, cw, lx, rfl, ok⟩ := open_op h2 h3
        refine ⟨kd, d, nn, aw, ln, cw, lx, fun j hj => ?_, ok⟩
        have := (World.cells?_some h1).2.2 j hj
        rw [hadd] at this
        rw [this]
end Go.Proofs.YtjkkelkblccolaaDoor
