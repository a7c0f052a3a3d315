/- MemAll's script, opened. -/
import Derived.Test.YtnmdhnbgikbpoaaLw
import Derived.Test.YtnmdhnbgikbpoaaQ14
namespace Go.Proofs.Ytnmdhnbgikbpoaa
open Go.ChangeShapes Go.WideShapes Go.ChangeAt Go.RowKit
theorem under61 : Try.prog.underlying 61 = some (.slice 72) := by kernel_rfl
theorem cells72 : Try.prog.cellsOf 72 = 10 := by kernel_rfl
theorem bytes72 : Try.prog.bytesOf 72 = 96 := by kernel_rfl
theorem cells24 : Try.prog.cellsOf 24 = 1 := by kernel_rfl
theorem bytes32' : Try.prog.bytesOf 32 = 4 := by kernel_rfl
theorem take_one {cs : List Value} {k : Nat} {v : Value} (h : (cs.drop k).take 1 = [v]) : cs[k]? = some v := by
  have := congrArg (fun l => l[0]?) h
  simpa using this
set_option maxRecDepth 100000 in
theorem open_slice {H : Type} {enc : TypeId × Value → H} {W : World} {fuel : Nat} {held : Bool} {cs0 : List Value} {y0 : DataW H × List MemPlace} {t e : TypeId} {st : Nat} (ht : Try.prog.underlying t = some (.slice e)) (hce : Try.prog.cellsOf e = st) (hst : 0 < st)
    (hf : DataW.trod enc Try.prog W 0 (fun _ => true) held fuel t cs0 = some y0) :
    ∃ (ao : Option Addr) (n cap b off : Nat), cs0 = [.slice ao n cap] ∧ n ≤ cap ∧ (0 < n → ao = some ⟨b, off, none⟩ ∧ b < W.heap.size) ∧
      (∀ k, k < n → ∃ cs m y, W.rangeAt b (off + k * st) cs ∧ DataW.trod enc Try.prog W 0 (fun _ => true) held m e cs = some y) ∧ (n = 0 ∨ ∃ elems spare, y0.1 = .slice elems spare ∧ elems.length = n) := by
  rcases DataW.trod_slice ht hf with ⟨hcs, hx⟩ | ⟨a, len, cap', elems, rest, m, rfl, hcs, hx, hb0, hl, hm, hlen, hel, hsp, hns⟩
  · exact ⟨none, 0, 0, 0, 0, hcs, Nat.le_refl _, fun h => absurd h (by decide), fun k hk => absurd hk (by omega), .inl rfl⟩
  · rw [hce] at hel
    have hd : len = 0 ∨ ∃ es sp, y0.1 = .slice es sp ∧ es.length = len := .inr ⟨_, _, by rw [hx], by rw [List.length_map]; exact hlen⟩
    rcases Nat.eq_zero_or_pos len with h0 | hn
    · subst h0
      exact ⟨_, 0, _, 0, 0, hcs, hl, fun h => absurd h (by decide), fun k hk => absurd hk (by omega), .inl rfl⟩
    · have each : ∀ k (hk : k < len), ∃ cs y, W.cells? 0 (a.add (k * st)) st = some cs ∧ DataW.trod enc Try.prog W 0 (fun _ => true) held m e cs = some y := fun k hk => by
        have he := hel k hk
        obtain ⟨y, hy⟩ : ∃ y, elems[k]? = some y := ⟨elems[k], List.getElem?_eq_getElem (by omega)⟩
        rw [hy] at he
        obtain ⟨cs, h1, h2⟩ := Option.bind_eq_some_iff.1 he
        exact ⟨cs, y, h1, h2⟩
      obtain ⟨b, off, spot⟩ := a
      have hspot : spot = none := by
        obtain ⟨cs, y, h1, _⟩ := each 0 hn
        have := (World.cells?_some h1).2.2 0 hst
        have hc := (World.cells?_some h1).2.1
        rw [List.getElem?_eq_getElem (by omega)] at this
        simpa [Addr.add] using World.cell?_spot this
      subst hspot
      have hadd : ∀ i j, ((⟨b, off, none⟩ : Addr).add i).add j = ⟨b, off + i + j, none⟩ := fun i j => by rw [Addr.add_mid, Addr.add_mid]
      have hblk : b < W.heap.size := by
        obtain ⟨cs, y, h1, _⟩ := each 0 hn
        have := World.cells?_block h1 hst
        simpa [Addr.add] using this
      refine ⟨_, len, cap', b, off, hcs, hl, fun _ => ⟨rfl, hblk⟩, fun k hk => ?_, hd⟩
      obtain ⟨cs, y, h1, h2⟩ := each k hk
      refine ⟨cs, m, y, fun j v hv => ?_, h2⟩
      have hj : j < st := by have := (List.getElem?_eq_some_iff.1 hv).1; have := (World.cells?_some h1).2.1; omega
      have := (World.cells?_some h1).2.2 j hj
      rw [hadd] at this
      rw [this, hv]
theorem pick {Q : Nat → Int → Prop} (n : Nat) (h : ∀ k, k < n → ∃ x, Q k x) : ∃ f : Nat → Int, ∀ k, k < n → Q k (f k) :=
  ⟨fun k => if hk : k < n then (h k hk).choose else 0, fun k hk => by simp only [hk, dif_pos]; exact (h k hk).choose_spec⟩
theorem open_wds {H : Type} {enc : TypeId × Value → H} {W : World} {fuel : Nat} {held : Bool} {cs0 : List Value} {y0 : DataW H × List MemPlace}
    (hf : DataW.trod enc Try.prog W 0 (fun _ => true) held fuel 24 cs0 = some y0) :
    ∃ (wo : Option Addr) (L : List Int) (wc : Nat), cs0 = [.slice wo L.length wc] ∧ SrcL W wo L ∧ (wo = none → wc = 0) ∧ (L.length = 0 ∨ ∃ elems spare, y0.1 = .slice elems spare ∧ elems.length = L.length) := by
  have hnil : ∀ ao n cap, cs0 = [.slice ao n cap] → ao = none → cap = 0 := fun ao n cap he h => by
    subst h he
    rcases DataW.trod_slice under24 hf with ⟨hcs, hx⟩ | ⟨a, len, cap', elems, rest, m, rfl, hcs, hx, hb0, hl, hm, hlen, hel, hsp, hns⟩
    · simp only [List.cons.injEq, Value.slice.injEq, true_and, and_true] at hcs
      exact hcs.2
    · simp only [List.cons.injEq, Value.slice.injEq, reduceCtorEq, false_and] at hcs
  obtain ⟨ao, n, cap, b, off, hcs, _, hao, hk, hd⟩ := open_slice under24 cells32 (by decide) hf
  obtain ⟨X, hX⟩ := pick (Q := fun k x => W.cell? ⟨b, off + k, none⟩ = some (.int .u32 x)) n fun k hkn => by
    obtain ⟨cs, m, y, h1, h2⟩ := hk k hkn
    obtain ⟨q, g, _, kk⟩ := DataW.trod_int under32 h2
    subst g
    refine ⟨q, ?_⟩
    have := h1 0 _ rfl
    simpa using this
  refine ⟨ao, (List.range n).map X, cap, by simpa using hcs, ?_, hnil ao n cap hcs, by simpa using hd⟩
  rcases Nat.eq_zero_or_pos n with h0 | hn
  · exact .inl (by rw [h0]; rfl)
  · refine .inr ⟨b, off, (hao hn).1, (hao hn).2, fun j u hu => ?_⟩
    have hj : j < n := by have := (List.getElem?_eq_some_iff.1 hu).1; simpa [u32s] using this
    rw [hX j hj]
    simpa [u32s, hj] using hu
theorem weights_all_mem {H : Type} {P : Program} {e : TypeId} {d : DataW H} {z : Nat} : ∀ {l : List (DataW H)}, d ∈ l → z ∈ d.weights P e → z ∈ DataW.weightsAll P e l
  | [], h, _ => by cases h
  | x :: l, h, hz => by
    simp only [DataW.weightsAll, List.mem_append]
    rcases List.mem_cons.1 h with rfl | h
    · exact .inl hz
    · exact .inr (weights_all_mem h hz)
set_option maxRecDepth 100000 in
theorem open_fr2 {H : Type} {enc : TypeId × Value → H} {W : World} {b0 fuel : Nat} {held : Bool} {cs : List Value} {y : DataW H × List MemPlace}
    (h : DataW.trod enc Try.prog W b0 (fun _ => true) held fuel 23 cs = some y) : ∃ s q, cs[0]? = some (.bool s) ∧ cs[1]? = some (.int .i64 q) := by
  obtain ⟨xs, m, rfl, hy, hlen, hn, hel⟩ := DataW.trod_struct under23 h
  have hs2 : xs.length = 2 := hn
  match xs, hs2 with
  | [x0, x1], _ =>
    have e0 : DataW.trod enc Try.prog W b0 (fun _ => true) held m 4 ((cs.drop 0).take (Try.prog.cellsOf 4)) = some x0 := hel 0 _ rfl
    have e1 : DataW.trod enc Try.prog W b0 (fun _ => true) held m 3 ((cs.drop 1).take (Try.prog.cellsOf 3)) = some x1 := hel 1 _ rfl
    rw [cells4] at e0
    rw [cells3] at e1
    obtain ⟨q0, g0, _⟩ := DataW.trod_bool under4 (show _ = some x0 from e0)
    obtain ⟨q1, g1, _, _⟩ := DataW.trod_int under3 (show _ = some x1 from e1)
    exact ⟨q0, q1, take_one g0, take_one g1⟩
set_option maxRecDepth 100000 in
theorem open_op {H : Type} {enc : TypeId × Value → H} {W : World} {fuel : Nat} {held : Bool} {cs : List Value} {y : DataW H × List MemPlace}
    (h : DataW.trod enc Try.prog W 0 (fun _ => true) held fuel 72 cs = some y) (hb : ∀ z ∈ y.1.weights Try.prog 72, z ≤ reachBytes) : ∃ q : Oq, cs = q.cs ∧ OqOk W q := by
  obtain ⟨xs, m, rfl, hy, hlen, hn, hel⟩ := DataW.trod_struct under72' h
  rw [cells72] at hlen
  have hsz : xs.length = 8 := hn
  match xs, hsz with
  | [x0, x1, x2, x3, x4, x5, x6, x7], _ =>
    have e0 : DataW.trod enc Try.prog W 0 (fun _ => true) held m 3 ((cs.drop 0).take (Try.prog.cellsOf 3)) = some x0 := hel 0 _ rfl
    have e1 : DataW.trod enc Try.prog W 0 (fun _ => true) held m 3 ((cs.drop 1).take (Try.prog.cellsOf 3)) = some x1 := hel 1 _ rfl
    have e2 : DataW.trod enc Try.prog W 0 (fun _ => true) held m 3 ((cs.drop 2).take (Try.prog.cellsOf 3)) = some x2 := hel 2 _ rfl
    have e3 : DataW.trod enc Try.prog W 0 (fun _ => true) held m 23 ((cs.drop 3).take (Try.prog.cellsOf 23)) = some x3 := hel 3 _ rfl
    have e4 : DataW.trod enc Try.prog W 0 (fun _ => true) held m 23 ((cs.drop 5).take (Try.prog.cellsOf 23)) = some x4 := hel 4 _ rfl
    have e5 : DataW.trod enc Try.prog W 0 (fun _ => true) held m 3 ((cs.drop 7).take (Try.prog.cellsOf 3)) = some x5 := hel 5 _ rfl
    have e6 : DataW.trod enc Try.prog W 0 (fun _ => true) held m 32 ((cs.drop 8).take (Try.prog.cellsOf 32)) = some x6 := hel 6 _ rfl
    have e7 : DataW.trod enc Try.prog W 0 (fun _ => true) held m 24 ((cs.drop 9).take (Try.prog.cellsOf 24)) = some x7 := hel 7 _ rfl
    rw [cells3] at e0 e1 e2 e5
    rw [cells23] at e3 e4
    rw [cells32] at e6
    rw [cells24] at e7
    obtain ⟨k, g0, _, _⟩ := DataW.trod_int under3 (show _ = some x0 from e0)
    obtain ⟨mm, g1, _, _⟩ := DataW.trod_int under3 (show _ = some x1 from e1)
    obtain ⟨nn, g2, _, _⟩ := DataW.trod_int under3 (show _ = some x2 from e2)
    obtain ⟨s, p, g3, g3'⟩ := open_fr2 e3
    obtain ⟨t, u, g4, g4'⟩ := open_fr2 e4
    obtain ⟨off, g5, _, _⟩ := DataW.trod_int under3 (show _ = some x5 from e5)
    obtain ⟨v, g6, _, _⟩ := DataW.trod_int under32 (show _ = some x6 from e6)
    obtain ⟨wo, L, wc, g7, hs, hc, hd⟩ := open_wds e7
    refine ⟨⟨k, mm, nn, s, p, t, u, off, v, wo, L, wc⟩, ?_, hs, ?_, hc⟩
    · apply List.ext_getElem?
      intro j
      rcases (show j = 0 ∨ j = 1 ∨ j = 2 ∨ j = 3 ∨ j = 4 ∨ j = 5 ∨ j = 6 ∨ j = 7 ∨ j = 8 ∨ j = 9 ∨ 10 ≤ j by omega) with rfl | rfl | rfl | rfl | rfl | rfl | rfl | rfl | rfl | rfl | h10
      · exact take_one g0
      · exact take_one g1
      · exact take_one g2
      · have hh : cs[3]? = some (Value.bool s) := by simpa using g3
        exact hh
      · have hh : cs[4]? = some (Value.int .i64 p) := by simpa using g3'
        exact hh
      · have hh : cs[5]? = some (Value.bool t) := by simpa using g4
        exact hh
      · have hh : cs[6]? = some (Value.int .i64 u) := by simpa using g4'
        exact hh
      · exact take_one g5
      · exact take_one g6
      · exact take_one g7
      · rw [List.getElem?_eq_none (by omega), List.getElem?_eq_none (by simpa [Oq.cs] using h10)]
    · rcases hd with h0 | ⟨elems, spare, he, hl⟩
      · show L.length * 4 ≤ _
        omega
      · have hz := hb ((elems.length + spare.length) * Try.prog.bytesOf 32) (by
          rw [hy]
          simp only [DataW.weights, under72', List.map_cons, List.map_nil]
          rw [show (Try.prog.fieldsOf 72).toList.map (·.type) = [3, 3, 3, 23, 23, 3, 32, 24] by kernel_rfl]
          simp only [DataW.weightsEach, he, DataW.weights, under24]
          simp)
        rw [bytes32'] at hz
        simp only [reachBytes] at hz
        show L.length * 4 ≤ _
        omega
theorem pickq {Q : Nat → Oq → Prop} (n : Nat) (q0 : Oq) (h : ∀ k, k < n → ∃ x, Q k x) : ∃ f : Nat → Oq, ∀ k, k < n → Q k (f k) :=
  ⟨fun k => if hk : k < n then (h k hk).choose else q0, fun k hk => by simp only [hk, dif_pos]; exact (h k hk).choose_spec⟩
set_option maxRecDepth 100000 in
theorem open_script {H : Type} {enc : TypeId × Value → H} {W : World} {base : Nat} {v : Value} {d : DataW H} {p : List MemPlace}
    (hv : Value.okWide Try.prog W .any base 61 v) (h : DataW.Trod enc Try.prog W 0 (fun _ => true) true 61 v d p) (hb : ∀ z ∈ d.weights Try.prog 61, z ≤ reachBytes) :
    ∃ (ao : Option Addr) (n cap b off : Nat) (Q : Nat → Oq), v = .slice ao n cap ∧ (0 < n → ao = some ⟨b, off, none⟩ ∧ b < W.heap.size) ∧ (∀ k, k < n → OqOk W (Q k) ∧ W.rangeAt b (off + k * 10) (Q k).cs) ∧ (n : Int) * 96 ≤ 140737488351232 := by
  obtain ⟨ao, n, cap, rfl⟩ := okWide_slice under61 hv
  obtain ⟨fuel, hf⟩ := h
  rcases DataW.trod_slice under61 hf with ⟨hcs, hx⟩ | ⟨a, len, cap', elems, rest, m, rfl, hcs, hx, hb0, hl, hm, hlen, hel, hsp, hns⟩
  · simp [Value.cells] at hcs
    obtain ⟨rfl, rfl, rfl⟩ := hcs
    exact ⟨none, 0, 0, 0, 0, fun _ => ⟨0, 0, 0, false, 0, false, 0, 0, 0, none, [], 0⟩, rfl, fun h => absurd h (by decide), fun k hk => absurd hk (by omega), by decide⟩
  · simp [Value.cells] at hcs
    obtain ⟨rfl, rfl, rfl⟩ := hcs
    rw [cells72] at hel
    simp only [Prod.mk.injEq] at hx
    have hbe : ∀ y ∈ elems, ∀ z ∈ y.1.weights Try.prog 72, z ≤ reachBytes := fun y hy z hz => by
      apply hb
      rw [hx.1]
      simp only [DataW.weights, under61, List.mem_cons, List.mem_append]
      exact .inr (.inl (weights_all_mem (List.mem_map_of_mem hy) hz))
    have hbn : n * Try.prog.bytesOf 72 ≤ reachBytes := by
      have := hb _ (by rw [hx.1]; simp only [DataW.weights, under61]; exact List.mem_cons_self)
      rw [List.length_map, hlen] at this
      exact Nat.le_trans (Nat.mul_le_mul_right _ (Nat.le_add_right _ _)) this
    rw [bytes72] at hbn
    simp only [reachBytes] at hbn
    rcases Nat.eq_zero_or_pos n with h0 | hn
    · subst h0
      exact ⟨_, 0, _, 0, 0, fun _ => ⟨0, 0, 0, false, 0, false, 0, 0, 0, none, [], 0⟩, rfl, fun h => absurd h (by decide), fun k hk => absurd hk (by omega), by decide⟩
    · have each : ∀ k, k < n → ∃ cs y, W.cells? 0 (a.add (k * 10)) 10 = some cs ∧ DataW.trod enc Try.prog W 0 (fun _ => true) true m 72 cs = some y ∧ ∀ z ∈ y.1.weights Try.prog 72, z ≤ reachBytes := fun k hk => by
        have he := hel k hk
        obtain ⟨y, hy⟩ : ∃ y, elems[k]? = some y := ⟨elems[k], List.getElem?_eq_getElem (by omega)⟩
        rw [hy] at he
        obtain ⟨cs, h1, h2⟩ := Option.bind_eq_some_iff.1 he
        exact ⟨cs, y, h1, h2, hbe y (List.mem_of_getElem? hy)⟩
      obtain ⟨b, off, spot⟩ := a
      have hspot : spot = none := by
        obtain ⟨cs, y, h1, _, _⟩ := each 0 hn
        have := (World.cells?_some h1).2.2 0 (by decide)
        have hc := (World.cells?_some h1).2.1
        rw [List.getElem?_eq_getElem (by omega)] at this
        simpa [Addr.add] using World.cell?_spot this
      subst hspot
      have hadd : ∀ i j, ((⟨b, off, none⟩ : Addr).add i).add j = ⟨b, off + i + j, none⟩ := fun i j => by rw [Addr.add_mid, Addr.add_mid]
      have hblk : b < W.heap.size := by
        obtain ⟨cs, y, h1, _, _⟩ := each 0 hn
        have := World.cells?_block h1 (by decide)
        simpa [Addr.add] using this
      obtain ⟨Q, hQ⟩ := pickq (Q := fun k q => OqOk W q ∧ W.rangeAt b (off + k * 10) q.cs) n ⟨0, 0, 0, false, 0, false, 0, 0, 0, none, [], 0⟩ fun k hk => by
        obtain ⟨cs, y, h1, h2, h3⟩ := each k hk
        obtain ⟨q, rfl, hq⟩ := open_op h2 h3
        refine ⟨q, hq, fun j v hv => ?_⟩
        have hj : j < 10 := by have := (List.getElem?_eq_some_iff.1 hv).1; simpa [Oq.cs] using this
        have := (World.cells?_some h1).2.2 j hj
        rw [hadd] at this
        rw [this, hv]
      exact ⟨_, n, cap, b, off, Q, rfl, fun _ => ⟨rfl, hblk⟩, hQ, by omega⟩
end Go.Proofs.Ytnmdhnbgikbpoaa
