/- Lists that came in, opened. -/
import Derived.Test.YthpkodkilbcepaaLw
namespace Go.Proofs.Ythpkodkilbcepaa
open Go.ChangeShapes Go.WideShapes Go.ChangeAt Go.RowKit
theorem under3 : Try.prog.underlying 3 = some (.int .i64) := by kernel_rfl
theorem cells3 : Try.prog.cellsOf 3 = 1 := by kernel_rfl
theorem under35 : Try.prog.underlying 35 = some (.slice 38) := by kernel_rfl
theorem under38 : Try.prog.underlying 38 = some (.struct (Try.prog.fieldsOf 38)) := by kernel_rfl
theorem cells38 : Try.prog.cellsOf 38 = 2 := by kernel_rfl
theorem bytes38 : Try.prog.bytesOf 38 = 16 := by kernel_rfl
theorem under34 : Try.prog.underlying 34 = some (.array 4 22) := by kernel_rfl
theorem cells34 : Try.prog.cellsOf 34 = 4 := by kernel_rfl
theorem under45' : Try.prog.underlying 45 = some (.slice 22) := by kernel_rfl
set_option maxRecDepth 100000 in
theorem open_slice {H : Type} {enc : TypeId × Value → H} {W : World} {fuel : Nat} {held : Bool} {cs0 : List Value} {y0 : DataW H × List MemPlace} {t e : TypeId} {st : Nat} (ht : Try.prog.underlying t = some (.slice e)) (hce : Try.prog.cellsOf e = st) (hst : 0 < st)
    (hf : DataW.trod enc Try.prog W 0 (fun _ => true) held fuel t cs0 = some y0) :
    ∃ (ao : Option Addr) (n cap b off : Nat), cs0 = [.slice ao n cap] ∧ n ≤ cap ∧ (0 < n → ao = some ⟨b, off, none⟩ ∧ b < W.heap.size) ∧
      (∀ k, k < n → ∃ cs m y, W.rangeAt b (off + k * st) cs ∧ DataW.trod enc Try.prog W 0 (fun _ => true) held m e cs = some y) ∧ (n = 0 ∨ ∃ elems spare, y0.1 = .slice elems spare ∧ elems.length = n) := by
  rcases DataW.trod_slice ht hf with ⟨hcs, hx⟩ | ⟨a, len, cap', elems, rest, m, rfl, hcs, hx, hb0, hl, hm, hlen, hel, hsp, hns⟩
  · exact ⟨none, 0, 0, 0, 0, hcs, Nat.le_refl _, fun h => absurd h (by decide), fun k hk => absurd hk (by omega), .inl rfl⟩
  · rw [hce] at hel
    have hd : len = 0 ∨ ∃ es sp, y0.1 = .slice es sp ∧ es.length = len := .inr ⟨_, _, by rw [hx], by rw [List.length_map]; exact hlen⟩
    rcases Nat.eq_zero_or_pos len with h0 | hn
    · subst h0
      exact ⟨_, 0, _, 0, 0, hcs, hl, fun h => absurd h (by decide), fun k hk => absurd hk (by omega), .inl rfl⟩
    · have each : ∀ k (hk : k < len), ∃ cs y, W.cells? 0 (a.add (k * st)) st = some cs ∧ DataW.trod enc Try.prog W 0 (fun _ => true) held m e cs = some y := fun k hk => by
        have he := hel k hk
        obtain ⟨y, hy⟩ : ∃ y, elems[k]? = some y := ⟨elems[k], List.getElem?_eq_getElem (by omega)⟩
        rw [hy] at he
        obtain ⟨cs, h1, h2⟩ := Option.bind_eq_some_iff.1 he
        exact ⟨cs, y, h1, h2⟩
      obtain ⟨b, off, spot⟩ := a
      have hspot : spot = none := by
        obtain ⟨cs, y, h1, _⟩ := each 0 hn
        have := (World.cells?_some h1).2.2 0 hst
        have hc := (World.cells?_some h1).2.1
        rw [List.getElem?_eq_getElem (by omega)] at this
        simpa [Addr.add] using World.cell?_spot this
      subst hspot
      have hadd : ∀ i j, ((⟨b, off, none⟩ : Addr).add i).add j = ⟨b, off + i + j, none⟩ := fun i j => by rw [Addr.add_mid, Addr.add_mid]
      have hblk : b < W.heap.size := by
        obtain ⟨cs, y, h1, _⟩ := each 0 hn
        have := World.cells?_block h1 hst
        simpa [Addr.add] using this
      refine ⟨_, len, cap', b, off, hcs, hl, fun _ => ⟨rfl, hblk⟩, fun k hk => ?_, hd⟩
      obtain ⟨cs, y, h1, h2⟩ := each k hk
      refine ⟨cs, m, y, fun j v hv => ?_, h2⟩
      have hj : j < st := by have := (List.getElem?_eq_some_iff.1 hv).1; have := (World.cells?_some h1).2.1; omega
      have := (World.cells?_some h1).2.2 j hj
      rw [hadd] at this
      rw [this, hv]
theorem pick {Q : Nat → Int → Prop} (n : Nat) (h : ∀ k, k < n → ∃ x, Q k x) : ∃ f : Nat → Int, ∀ k, k < n → Q k (f k) :=
  ⟨fun k => if hk : k < n then (h k hk).choose else 0, fun k hk => by simp only [hk, dif_pos]; exact (h k hk).choose_spec⟩
theorem open_laid {H : Type} {enc : TypeId × Value → H} {W : World} {b0 fuel : Nat} {held : Bool} {cs : List Value} {y : DataW H × List MemPlace}
    (h : DataW.trod enc Try.prog W b0 (fun _ => true) held fuel 38 cs = some y) : ∃ r v : Int, cs[0]? = some (.int .i64 r) ∧ cs[1]? = some (.int .u32 v) := by
  obtain ⟨xs, m, rfl, hy, hlen, hn, hel⟩ := DataW.trod_struct under38 h
  have hsz : xs.length = 2 := hn
  match xs, hsz with
  | [x0, x1], _ =>
    have e0 : DataW.trod enc Try.prog W b0 (fun _ => true) held m 3 ((cs.drop 0).take (Try.prog.cellsOf 3)) = some x0 := hel 0 _ rfl
    have e1 : DataW.trod enc Try.prog W b0 (fun _ => true) held m 22 ((cs.drop 1).take (Try.prog.cellsOf 22)) = some x1 := hel 1 _ rfl
    rw [cells3] at e0
    rw [cells22] at e1
    obtain ⟨q0, g0, _, _⟩ := DataW.trod_int under3 (show _ = some x0 from e0)
    obtain ⟨q1, g1, _, _⟩ := DataW.trod_int under22 (show _ = some x1 from e1)
    exact ⟨q0, q1, take_one g0, take_one g1⟩
theorem open_scr {H : Type} {enc : TypeId × Value → H} {W : World} {base : Nat} {held : Bool} {v : Value} {d : DataW H} {p : List MemPlace}
    (hv : Value.okWide Try.prog W .any base 35 v) (h : DataW.Trod enc Try.prog W 0 (fun _ => true) held 35 v d p) :
    ∃ (ao : Option Addr) (n cap b off : Nat) (R V : Nat → Int), v = .slice ao n cap ∧ (0 < n → ao = some ⟨b, off, none⟩ ∧ b < W.heap.size) ∧
      (∀ k, k < n → W.cell? ⟨b, off + k * 2, none⟩ = some (.int .i64 (R k))) ∧ (∀ k, k < n → W.cell? ⟨b, off + k * 2 + 1, none⟩ = some (.int .u32 (V k))) ∧ (n = 0 ∨ ∃ elems spare, d = .slice elems spare ∧ elems.length = n) := by
  obtain ⟨ao, n, cap, rfl⟩ := okWide_slice under35 hv
  obtain ⟨fuel, hf⟩ := h
  obtain ⟨ao', n', cap', b, off, hcs, _, hao, hk, hd⟩ := open_slice under35 cells38 (by decide) hf
  simp only [Value.cells, List.cons.injEq, Value.slice.injEq, and_true] at hcs
  obtain ⟨rfl, rfl, rfl⟩ := hcs
  obtain ⟨R, hR⟩ := pick (Q := fun k x => W.cell? ⟨b, off + k * 2, none⟩ = some (.int .i64 x)) n fun k hkn => by
    obtain ⟨cs, m, y, h1, h2⟩ := hk k hkn
    obtain ⟨r, v, e0, _⟩ := open_laid h2
    exact ⟨r, h1 0 _ e0⟩
  obtain ⟨V, hV⟩ := pick (Q := fun k x => W.cell? ⟨b, off + k * 2 + 1, none⟩ = some (.int .u32 x)) n fun k hkn => by
    obtain ⟨cs, m, y, h1, h2⟩ := hk k hkn
    obtain ⟨r, v, _, e1⟩ := open_laid h2
    exact ⟨v, h1 1 _ e1⟩
  exact ⟨ao, n, cap, b, off, R, V, rfl, hao, hR, hV, hd⟩
theorem open_words {H : Type} {enc : TypeId × Value → H} {W : World} {fuel : Nat} {held : Bool} {cs0 : List Value} {y0 : DataW H × List MemPlace}
    (hf : DataW.trod enc Try.prog W 0 (fun _ => true) held fuel 45 cs0 = some y0) :
    ∃ (ao : Option Addr) (n cap b off : Nat) (X : Nat → Int), cs0 = [.slice ao n cap] ∧ n ≤ cap ∧ (0 < n → ao = some ⟨b, off, none⟩ ∧ b < W.heap.size) ∧
      (∀ k, k < n → W.cell? ⟨b, off + k, none⟩ = some (.int .u32 (X k)) ∧ 0 ≤ X k ∧ X k < 4294967296) ∧ (n = 0 ∨ ∃ elems spare, y0.1 = .slice elems spare ∧ elems.length = n) := by
  obtain ⟨ao, n, cap, b, off, hcs, hnc, hao, hk, hd⟩ := open_slice under45' cells22 (by decide) hf
  obtain ⟨X, hX⟩ := pick (Q := fun k x => W.cell? ⟨b, off + k, none⟩ = some (.int .u32 x) ∧ 0 ≤ x ∧ x < 4294967296) n fun k hkn => by
    obtain ⟨cs, m, y, h1, h2⟩ := hk k hkn
    obtain ⟨q, g, _, kk⟩ := DataW.trod_int under22 h2
    subst g
    refine ⟨q, ?_, lit_u32 kk⟩
    have := h1 0 _ rfl
    simpa using this
  exact ⟨ao, n, cap, b, off, X, hcs, hnc, hao, hX, hd⟩
theorem open_four {H : Type} {enc : TypeId × Value → H} {W : World} {base b0 : Nat} {held : Bool} {v : Value} {d : DataW H} {p : List MemPlace}
    (hv : Value.okWide Try.prog W .any base 34 v) (h : DataW.Trod enc Try.prog W b0 (fun _ => true) held 34 v d p) : ∃ a b c d : Int, v = .agg #[.int .u32 a, .int .u32 b, .int .u32 c, .int .u32 d] := by
  obtain ⟨cs, rfl, hsz, _⟩ : ∃ cs, v = .agg cs ∧ cs.size = Try.prog.cellsOf 34 ∧ Row.okWide Try.prog W .any base 34 cs := by
    simpa [Value.okWide, under34] using hv
  obtain ⟨fuel, hf⟩ := h
  obtain ⟨xs, m, rfl, hy, hlen, hn, hel⟩ := DataW.trod_array under34 hf
  rw [cells22] at hel
  obtain ⟨cl⟩ := cs
  have hl : cl.length = 4 := by rw [cells34] at hsz; simpa using hsz
  have e : ∀ k, k < 4 → ∃ q, cl[k]? = some (.int .u32 q) := fun k hk => by
    have he := hel k hk
    rw [List.getElem?_eq_getElem (by omega)] at he
    obtain ⟨q, g, _, _⟩ := DataW.trod_int under22 he
    refine ⟨q, ?_⟩
    have := take_one g
    simpa [Value.cells] using this
  obtain ⟨q0, e0⟩ := e 0 (by decide)
  obtain ⟨q1, e1⟩ := e 1 (by decide)
  obtain ⟨q2, e2⟩ := e 2 (by decide)
  obtain ⟨q3, e3⟩ := e 3 (by decide)
  have hcl : cl = [.int .u32 q0, .int .u32 q1, .int .u32 q2, .int .u32 q3] := by
    apply List.ext_getElem?
    intro k
    rcases (show k = 0 ∨ k = 1 ∨ k = 2 ∨ k = 3 ∨ 4 ≤ k by omega) with rfl | rfl | rfl | rfl | h4
    · exact e0
    · exact e1
    · exact e2
    · exact e3
    · rw [List.getElem?_eq_none (by omega), List.getElem?_eq_none (by simpa using h4)]
  exact ⟨q0, q1, q2, q3, by rw [hcl]⟩
end Go.Proofs.Ythpkodkilbcepaa
