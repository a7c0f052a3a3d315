import Derived.Test.YtncnogndopgknaaGreatDoorP34
import Derived.Test.YtncnogndopgknaaGreatDoorP37
namespace Go.Proofs.YtncnogndopgknaaGreatDoor
open Go.ChangeShapes Go.WideShapes Go.ChangeAt Go.RowKit
namespace Ar
theorem lit_u32 {n : Int} (h : (Lit.int .u32 n).wf = true) : 0 ≤ n ∧ n < 4294967296 := by
  simp only [Lit.wf, IntKind.min, IntKind.max, IntKind.signed, IntKind.bits, Bool.and_eq_true] at h
  obtain ⟨h1, h2⟩ := h
  simp at h1 h2
  omega
set_option maxRecDepth 100000 in
theorem open_slice {H : Type} {enc : TypeId × Value → H} {W : World} {fuel : Nat} {held : Bool} {cs0 : List Value} {y0 : DataW H × List MemPlace} {t e : TypeId} {st : Nat} (ht : Tryz.prog.underlying t = some (.slice e)) (hce : Tryz.prog.cellsOf e = st) (hst : 0 < st)
    (hf : DataW.trod enc Tryz.prog W 0 (fun _ => true) held fuel t cs0 = some y0) :
    ∃ (ao : Option Addr) (n cap b off : Nat), cs0 = [.slice ao n cap] ∧ n ≤ cap ∧ (0 < n → ao = some ⟨b, off, none⟩ ∧ b < W.heap.size) ∧
      (∀ k, k < n → ∃ cs m y, W.rangeAt b (off + k * st) cs ∧ DataW.trod enc Tryz.prog W 0 (fun _ => true) held m e cs = some y) ∧ (n = 0 ∨ ∃ elems spare, y0.1 = .slice elems spare ∧ elems.length = n) := by
  rcases DataW.trod_slice ht hf with ⟨hcs, hx⟩ | ⟨a, len, cap', elems, rest, m, rfl, hcs, hx, hb0, hl, hm, hlen, hel, hsp, hns⟩
  · exact ⟨none, 0, 0, 0, 0, hcs, Nat.le_refl _, fun h => absurd h (by decide), fun k hk => absurd hk (by omega), .inl rfl⟩
  · rw [hce] at hel
    have hd : len = 0 ∨ ∃ es sp, y0.1 = .slice es sp ∧ es.length = len := .inr ⟨_, _, by rw [hx], by rw [List.length_map]; exact hlen⟩
    rcases Nat.eq_zero_or_pos len with h0 | hn
    · subst h0
      exact ⟨_, 0, _, 0, 0, hcs, hl, fun h => absurd h (by decide), fun k hk => absurd hk (by omega), .inl rfl⟩
    · have each : ∀ k (hk : k < len), ∃ cs y, W.cells? 0 (a.add (k * st)) st = some cs ∧ DataW.trod enc Tryz.prog W 0 (fun _ => true) held m e cs = some y := fun k hk => by
        have he := hel k hk
        obtain ⟨y, hy⟩ : ∃ y, elems[k]? = some y := ⟨elems[k], List.getElem?_eq_getElem (by omega)⟩
        rw [hy] at he
        obtain ⟨cs, h1, h2⟩ := Option.bind_eq_some_iff.1 he
        exact ⟨cs, y, h1, h2⟩
      obtain ⟨b, off, spot⟩ := a
      have hspot : spot = none := by
        obtain ⟨cs, y, h1, _⟩ := each 0 hn
        have := (World.cells?_some h1).2.2 0 hst
        have hc := (World.cells?_some h1).2.1
        rw [List.getElem?_eq_getElem (by omega)] at this
        simpa [Addr.add] using World.cell?_spot this
      subst hspot
      have hadd : ∀ i j, ((⟨b, off, none⟩ : Addr).add i).add j = ⟨b, off + i + j, none⟩ := fun i j => by rw [Addr.add_mid, Addr.add_mid]
      have hblk : b < W.heap.size := by
        obtain ⟨cs, y, h1, _⟩ := each 0 hn
        have := World.cells?_block h1 hst
        simpa [Addr.add] using this
      refine ⟨_, len, cap', b, off, hcs, hl, fun _ => ⟨rfl, hblk⟩, fun k hk => ?_, hd⟩
      obtain ⟨cs, y, h1, h2⟩ := each k hk
      refine ⟨cs, m, y, fun j v hv => ?_, h2⟩
      have hj : j < st := by have := (List.getElem?_eq_some_iff.1 hv).1; have := (World.cells?_some h1).2.1; omega
      have := (World.cells?_some h1).2.2 j hj
      rw [hadd] at this
      rw [this, hv]
theorem pickA {α : Type} [Inhabited α] {Q : Nat → α → Prop} (n : Nat) (h : ∀ k, k < n → ∃ x, Q k x) : ∃ f : Nat → α, ∀ k, k < n → Q k (f k) :=
  ⟨fun k => if hk : k < n then (h k hk).choose else default, fun k hk => by simp only [hk, dif_pos]; exact (h k hk).choose_spec⟩
theorem u3 : Tryz.prog.underlying 3 = some (.int .i64) := by kernel_rfl
theorem u32' : Tryz.prog.underlying 32 = some (.slice 37) := by kernel_rfl
theorem cel3 : Tryz.prog.cellsOf 3 = 1 := by kernel_rfl
theorem cel22 : Tryz.prog.cellsOf 22 = 1 := by kernel_rfl
theorem cel37 : Tryz.prog.cellsOf 37 = 5 := by kernel_rfl
theorem u37 : Tryz.prog.underlying 37 = some (.struct (Tryz.prog.fieldsOf 37)) := by kernel_rfl
set_option maxRecDepth 100000 in
theorem open_pie {H : Type} {enc : TypeId × Value → H} {W : World} {b0 fuel : Nat} {sp : Nat → Bool} {held : Bool} {cs : List Value} {y : DataW H × List MemPlace}
    (h : DataW.trod enc Tryz.prog W b0 sp held fuel 37 cs = some y) : ∃ x : Pie, cs = pieC x ∧ x.v < 4294967296 := by
  obtain ⟨xs, m, rfl, hy, hlen, hn, hel⟩ := DataW.trod_struct u37 h
  rw [cel37] at hlen
  have hsz : xs.length = 5 := hn
  match xs, hsz with
  | [x0, x1, x2, x3, x4], _ =>
    have e0 : DataW.trod enc Tryz.prog W b0 sp held m 3 ((cs.drop 0).take (Tryz.prog.cellsOf 3)) = some x0 := hel 0 _ rfl
    have e1 : DataW.trod enc Tryz.prog W b0 sp held m 3 ((cs.drop 1).take (Tryz.prog.cellsOf 3)) = some x1 := hel 1 _ rfl
    have e2 : DataW.trod enc Tryz.prog W b0 sp held m 3 ((cs.drop 2).take (Tryz.prog.cellsOf 3)) = some x2 := hel 2 _ rfl
    have e3 : DataW.trod enc Tryz.prog W b0 sp held m 3 ((cs.drop 3).take (Tryz.prog.cellsOf 3)) = some x3 := hel 3 _ rfl
    have e4 : DataW.trod enc Tryz.prog W b0 sp held m 22 ((cs.drop 4).take (Tryz.prog.cellsOf 22)) = some x4 := hel 4 _ rfl
    rw [cel3] at e0 e1 e2 e3
    rw [cel22] at e4
    obtain ⟨q0, g0, _, _⟩ := DataW.trod_int u3 (show _ = some x0 from e0)
    obtain ⟨q1, g1, _, _⟩ := DataW.trod_int u3 (show _ = some x1 from e1)
    obtain ⟨q2, g2, _, _⟩ := DataW.trod_int u3 (show _ = some x2 from e2)
    obtain ⟨q3, g3, _, _⟩ := DataW.trod_int u3 (show _ = some x3 from e3)
    obtain ⟨q4, g4, _, k4⟩ := DataW.trod_int Tryz.underlying22 (show _ = some x4 from e4)
    have hb := lit_u32 k4
    obtain ⟨n4, rfl⟩ := Int.eq_ofNat_of_zero_le hb.1
    refine ⟨⟨q0, q1, q2, q3, n4⟩, ?_, by have := hb.2; show n4 < 4294967296; omega⟩
    match cs, hlen with
    | [c0, c1, c2, c3, c4], _ =>
      simp at g0 g1 g2 g3 g4
      rw [g0, g1, g2, g3, g4]
      rfl
instance : Inhabited Pie := ⟨S.p0⟩
set_option maxRecDepth 100000 in
theorem open_pies {H : Type} {enc : TypeId × Value → H} {W : World} {base : Nat} {held : Bool} {v : Value} {d : DataW H} {p : List MemPlace}
    (hv : Value.okWide Tryz.prog W .any base 32 v) (h : DataW.Trod enc Tryz.prog W 0 (fun _ => true) held 32 v d p) :
    ∃ (ao : Option Addr) (m n cp : Nat) (ps : List Pie), v = .slice ao m cp ∧ m ≤ cp ∧ (m ≤ 300 ∧ n = m ∨ 300 < m ∧ n = 300) ∧ ps.length = n ∧ S.PsOk ps ∧ PcAt W ao ps ∧ (m = 0 ∨ ∃ elems spare, d = .slice elems spare ∧ elems.length = m) := by
  obtain ⟨ao, m, cp, rfl⟩ := okWide_slice u32' hv
  obtain ⟨fuel, hf⟩ := h
  obtain ⟨ao', m', cp', b, off, hcs, hmc, hao, hk, hd⟩ := open_slice u32' cel37 (by decide) hf
  simp only [Value.cells, List.cons.injEq, Value.slice.injEq, and_true] at hcs
  obtain ⟨rfl, rfl, rfl⟩ := hcs
  obtain ⟨F, hF⟩ := pickA (α := Pie) (Q := fun k x => W.rangeAt b (off + k * 5) (pieC x) ∧ x.v < 4294967296) m fun k hkn => by
    obtain ⟨cs, m, y, h1, h2⟩ := hk k hkn
    obtain ⟨x, rfl, hx⟩ := open_pie h2
    exact ⟨x, h1, hx⟩
  obtain ⟨n, hn⟩ : ∃ n, m ≤ 300 ∧ n = m ∨ 300 < m ∧ n = 300 := by
    by_cases h : m ≤ 300
    · exact ⟨m, .inl ⟨h, rfl⟩⟩
    · exact ⟨300, .inr ⟨by omega, rfl⟩⟩
  have hget : ∀ i, i < n → ((List.range n).map F).getD i S.p0 = F i := fun i hi => by
    rw [List.getD_eq_getElem?_getD, List.getElem?_map, List.getElem?_range hi]; rfl
  refine ⟨ao, m, n, cp, (List.range n).map F, rfl, hmc, hn, by simp, ⟨by simp; omega, fun i => ?_⟩, ?_, hd⟩
  · by_cases hi : i < n
    · rw [hget i hi]; exact (hF i (by omega)).2
    · rw [List.getD_eq_getElem?_getD, List.getElem?_eq_none (by simp; omega)]; decide
  · rcases Nat.eq_zero_or_pos n with h0 | h0
    · exact .inl (by rw [h0]; rfl)
    · obtain ⟨h1, h2⟩ := hao (by omega)
      refine .inr ⟨b, off, h1, h2, fun i hi => ?_⟩
      simp only [List.length_map, List.length_range] at hi
      rw [hget i hi]
      exact (hF i (by omega)).1
end Ar
end Go.Proofs.YtncnogndopgknaaGreatDoor
