import Derived.Test.YtlfnpllojinjdaaDoorKeeps8
import Derived.Test.YtlfnpllojinjdaaDoorAllArgs
namespace Go.Proofs.YtlfnpllojinjdaaDoor
open Go.ChangeShapes Go.WideShapes Go.ChangeAt Go.RowKit

theorem open_cells2 {H : Type} {enc : TypeId × Value → H} {W : World} {b0 fuel : Nat} {held : Bool} {cs : List Value} {x : DataW H × List MemPlace} {t e : TypeId} {k : IntKind}
    (ht : Tryd.prog.underlying t = some (.slice e)) (he : Tryd.prog.underlying e = some (.int k)) (hc : Tryd.prog.cellsOf e = 1)
    (hf : DataW.trod enc Tryd.prog W b0 (fun _ => true) held fuel t cs = some x) :
    ∃ ao n cap xs, cs = [.slice ao n cap] ∧ xs.length = n ∧ (∀ y ∈ xs, (Lit.int k y).wf = true) ∧ At W k ao xs ∧ (ao = none → cap = 0 ∧ n = 0) ∧ n ≤ Rows.uptoBulk x.1 := by
  obtain ⟨ao, n, cap, xs, h1, h2, h3, h4, h5⟩ := open_cells ht he hc hf
  refine ⟨ao, n, cap, xs, h1, h2, h3, h4, fun e => ?_, h5⟩
  subst e
  rcases open_ints ht he hc hf with ⟨hcs, _⟩ | ⟨a, n', cap', zs, hcs, _⟩
  · rw [h1] at hcs
    simp at hcs
    exact ⟨hcs.2, hcs.1⟩
  · rw [h1] at hcs
    simp at hcs

/-- Lists that came in. -/
theorem open_lists {H : Type} {enc : TypeId × Value → H} {W : World} {base : Nat} {v : Value} {d : DataW H} {p : List MemPlace}
    (hv : Value.okWide Tryd.prog W .any base 55 v) (h : DataW.Trod enc Tryd.prog W 0 (fun _ => true) true 55 v d p) (hb : Rows.uptoBulk d ≤ 1048576) :
    ∃ (ao : Option Addr) (N cap : Nat) (A : Nat → Option Addr) (n c : Nat → Nat) (X : Nat → List Int), v = .slice ao N cap ∧ (N = 0 ∨ ∃ b off, ao = some ⟨b, off, none⟩ ∧ b < W.heap.size ∧ ∀ k, k < N → W.cell? ⟨b, off + k, none⟩ = some (.slice (A k) (n k) (c k))) ∧
      (∀ k, k < N → Given W (A k) (n k) (c k) (X k)) ∧ N ≤ 1048576 := by
  obtain ⟨ao, N, cap, rfl⟩ := okWide_slice Tryd.underlying55 hv
  obtain ⟨fuel, hf⟩ := h
  rcases DataW.trod_slice Tryd.underlying55 hf with ⟨hcs, hx⟩ | ⟨a, len, cap', elems, rest, m, rfl, hcs, hx, hb0, hl, hm, hlen, hel, hsp, hns⟩
  · simp [Value.cells] at hcs
    obtain ⟨rfl, rfl, rfl⟩ := hcs
    exact ⟨none, 0, 0, fun _ => none, fun _ => 0, fun _ => 0, fun _ => [], rfl, .inl rfl, fun k hk => absurd hk (by omega), by decide⟩
  · simp [Value.cells] at hcs
    obtain ⟨rfl, rfl, rfl⟩ := hcs
    rw [cells32] at hel
    simp only [Prod.mk.injEq] at hx
    rw [hx.1] at hb
    simp only [Rows.uptoBulk] at hb
    have hl1 := bulk_len (elems.map (·.1))
    rw [List.length_map, hlen] at hl1
    have each : ∀ k, ∃ q : Option Addr × Nat × Nat × List Int, k < N → W.cells? 0 (a.add (k * 1)) 1 = some [.slice q.1 q.2.1 q.2.2.1] ∧ Given W q.1 q.2.1 q.2.2.1 q.2.2.2 := fun k => by
      by_cases hk : k < N
      · have he := hel k hk
        obtain ⟨y, hy⟩ : ∃ y, elems[k]? = some y := ⟨elems[k], List.getElem?_eq_getElem (by omega)⟩
        rw [hy] at he
        obtain ⟨cs, h1, h2⟩ := Option.bind_eq_some_iff.1 he
        have hmem : y.1 ∈ elems.map (·.1) := List.mem_map_of_mem (List.mem_of_getElem? hy)
        have := bulk_mem hmem
        obtain ⟨lao, ln, lc, lx, rfl, ll, lw, la, lnil, lb⟩ := open_cells2 Tryd.underlying32 Tryd.underlying22 cells22 h2
        have hln : ln ≤ 1048576 := by omega
        exact ⟨(lao, ln, lc, lx), fun _ => ⟨h1, ll, wds_of lw, la, lnil, hln⟩⟩
      · exact ⟨(none, 0, 0, []), fun h => absurd h hk⟩
    obtain ⟨f, hfx⟩ := Classical.axiomOfChoice each
    refine ⟨some a, N, cap, fun k => (f k).1, fun k => (f k).2.1, fun k => (f k).2.2.1, fun k => (f k).2.2.2, rfl, ?_, fun k hk => (hfx k hk).2, by omega⟩
    rcases Nat.eq_zero_or_pos N with h0 | hn
    · exact .inl h0
    · right
      obtain ⟨b, off, spot⟩ := a
      have hspot : spot = none := by
        have h1 := (hfx 0 hn).1
        have := (World.cells?_some h1).2.2 0 (by decide)
        simp at this
        simpa [Addr.add] using World.cell?_spot this
      subst hspot
      have hadd : ∀ i j, ((⟨b, off, none⟩ : Addr).add i).add j = ⟨b, off + i + j, none⟩ := fun i j => by
        have e1 : ∀ o i, (⟨b, o, none⟩ : Addr).add i = ⟨b, o + i, none⟩ := fun o i => by unfold Addr.add; split <;> simp_all
        rw [e1, e1]
      refine ⟨b, off, rfl, ?_, ?_⟩
      · have h1 := (hfx 0 hn).1
        have := World.cells?_block h1 (by decide)
        simpa [Addr.add] using this
      · intro k hk
        have := (World.cells?_some (hfx k hk).1).2.2 0 (by decide)
        rw [hadd] at this
        simpa using this
end Go.Proofs.YtlfnpllojinjdaaDoor
