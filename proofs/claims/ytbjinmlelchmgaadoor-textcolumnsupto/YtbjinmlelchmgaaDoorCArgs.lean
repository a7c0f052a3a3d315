/- A table of numbers that came in, opened. -/
import Derived.Test.YtbjinmlelchmgaaDoorLaw
import Derived.Test.YtbjinmlelchmgaaDoorWArgs
import Derived.Test.YtbjinmlelchmgaaDoorColH0
namespace Go.Proofs.YtbjinmlelchmgaaDoor
open Go.ChangeShapes Go.WideShapes Go.ChangeAt Go.RowKit

theorem cells40 : Tryd.prog.cellsOf 40 = 1 := by kernel_rfl
theorem cells42 : Tryd.prog.cellsOf 42 = 1 := by kernel_rfl
namespace T
def tot : List (List Nat) → Nat
  | [] => 0
  | l :: r => l.length + 1 + tot r
theorem tot_mem {l : List Nat} : ∀ {tab : List (List Nat)}, l ∈ tab → l.length + 1 ≤ tot tab
  | [], h => by cases h
  | x :: r, h => by
    simp only [tot]
    rcases List.mem_cons.1 h with rfl | h
    · omega
    · have := tot_mem h; omega
theorem table_tot (ws : List Nat) (h10 : ∀ i, ws.getD i 0 ≤ 10) : ∀ (tab : List (List Nat)), (∀ l ∈ tab, Fits ws (l.map Lib.decDigits)) → (table (rowsOf tab) ws).length ≤ 12 * tot tab
  | [], _ => by simp [table, rowsOf]
  | l :: r, h => by
    have h1 := table_tot ws h10 r (fun x hx => h x (by simp [hx]))
    have h2 := line_le (h l (by simp)) h10
    rw [List.length_map] at h2
    have e : table (rowsOf (l :: r)) ws = line ws (l.map Lib.decDigits) ++ [10] ++ table (rowsOf r) ws := by simp [table, rowsOf]
    rw [e]
    simp only [List.length_append, List.length_cons, List.length_nil, tot]
    omega
end T
/-- A list of words in a cell that was read. -/
theorem open_u32s {H : Type} {enc : TypeId × Value → H} {W : World} {b0 fuel : Nat} {cs : List Value} {x : DataW H × List MemPlace}
    (hf : DataW.trod enc Tryd.prog W b0 (fun _ => true) true fuel 40 cs = some x) :
    ∃ ao c, ∃ l : List Nat, cs = [.slice ao l.length c] ∧ U32sAt W ao l ∧ (∀ u ∈ l, u ≤ 4294967295) ∧ l.length + 1 ≤ Rows.uptoBulk x.1 := by
  rcases open_ints Tryd.underlying40 Tryd.underlying42 cells42 hf with ⟨hcs, hx⟩ | ⟨a, n, cap, zs, hcs, hb, hl, hm, hz, hx, hcell, hwz⟩
  · exact ⟨none, 0, [], hcs, .inl rfl, fun _ h => (by cases h), by rw [hx]; simp [Rows.uptoBulk]⟩
  · simp only [if_true] at hz
    have hlen : (zs.take n).length = n := by simp; omega
    refine ⟨some a, cap, (zs.take n).map fun z => z.toNat, by rw [hcs, List.length_map, hlen], ?_, ?_, ?_⟩
    · rcases Nat.eq_zero_or_pos n with h0 | hn
      · exact .inl (by rw [h0]; simp)
      · obtain ⟨b, off, spot⟩ := a
        have h0 := hcell 0 (by omega)
        have hspot : spot = none := by simpa [Addr.add] using World.cell?_spot h0
        subst hspot
        refine .inr ⟨b, off, rfl, ?_, fun i hi => ?_⟩
        · rcases Nat.lt_or_ge b W.heap.size with h | h
          · exact h
          · simp [Addr.add, World.cell?, Array.getElem?_eq_none h] at h0
        · have hi' : i < n := by rw [List.length_map, hlen] at hi; exact hi
          have := hcell i (by omega)
          have e1 : (⟨b, off, none⟩ : Addr).add i = ⟨b, off + i, none⟩ := by unfold Addr.add; split <;> simp_all
          rw [e1] at this
          rw [this]
          have hiz : i < zs.length := by omega
          have hw := bounds_u32 (hwz zs[i] (List.getElem_mem hiz))
          simp only [List.getElem_map, List.getElem_take, List.getD_eq_getElem?_getD, List.getElem?_eq_getElem hiz, Option.getD_some]
          congr 2
          omega
    · intro u hu
      obtain ⟨z, hz1, rfl⟩ := List.mem_map.1 hu
      have hw := bounds_u32 (hwz z (List.mem_of_mem_take hz1))
      omega
    · rw [hx]
      have h1 := bulk_len (lits (H := H) .u32 (zs.take n))
      have h2 : (lits (H := H) .u32 (zs.take n)).length = n := by simp [lits]; omega
      simp only [Rows.uptoBulk, List.length_map, hlen]
      omega
theorem build2 {H : Type} : ∀ (l : List (DataW H)) (Q : Nat → List Nat → Option Addr → Nat → Prop), (∀ k (hk : k < l.length), ∃ x a c, Q k x a c ∧ x.length + 1 ≤ Rows.uptoBulk l[k]) →
    ∃ (xs : List (List Nat)) (A : Nat → Option Addr) (C : Nat → Nat), xs.length = l.length ∧ (∀ k (h : k < xs.length), Q k xs[k] (A k) (C k)) ∧ T.tot xs ≤ Rows.uptoBulkAll l
  | [], Q, _ => ⟨[], fun _ => none, fun _ => 0, rfl, fun k h => by simp at h, by simp [T.tot]⟩
  | x :: l, Q, h => by
    obtain ⟨pc, a, c, hq, hb⟩ := h 0 (by simp)
    obtain ⟨ps, A, C, h1, h2, h3⟩ := build2 l (fun k => Q (k + 1)) (fun k hk => h (k + 1) (by simpa using hk))
    refine ⟨pc :: ps, fun k => match k with | 0 => a | k + 1 => A k, fun k => match k with | 0 => c | k + 1 => C k, by simp [h1], fun k hk => ?_, ?_⟩
    · cases k with
      | zero => exact hq
      | succ k => exact h2 k (by simpa using hk)
    · simp only [List.getElem_cons_zero] at hb
      simp only [T.tot, Rows.uptoBulkAll]
      omega
set_option maxRecDepth 20000 in
theorem open_table {H : Type} {enc : TypeId × Value → H} {W : World} {base : Nat} {v : Value} {d : DataW H} {p : List MemPlace}
    (hv : Value.okWide Tryd.prog W .any base 36 v) (h : DataW.Trod enc Tryd.prog W 0 (fun _ => true) true 36 v d p) (hb : Rows.uptoBulk d ≤ 1048576) :
    ∃ (ao : Option Addr) (n cap : Nat) (tab : List (List Nat)), v = .slice ao n cap ∧ tab.length = n ∧ TabAt W ao tab ∧ (∀ l ∈ tab, ∀ u ∈ l, u ≤ 4294967295) ∧ n ≤ 1048576 ∧ T.tot tab ≤ 1048576 := by
  obtain ⟨ao, n, cap, rfl⟩ := okWide_slice Tryd.underlying36 hv
  obtain ⟨fuel, hf⟩ := h
  rcases DataW.trod_slice Tryd.underlying36 hf with ⟨hcs, hx⟩ | ⟨a, len, cap', elems, rest, m, rfl, hcs, hx, hb0, hl, hm, hlen, hel, hsp, hns⟩
  · simp [Value.cells] at hcs
    obtain ⟨rfl, rfl, rfl⟩ := hcs
    exact ⟨none, 0, 0, [], rfl, rfl, .inl rfl, fun l h => (by cases h), by decide, by decide⟩
  · simp [Value.cells] at hcs
    obtain ⟨rfl, rfl, rfl⟩ := hcs
    rw [cells40] at hel
    simp only [Prod.mk.injEq] at hx
    rw [hx.1] at hb
    simp only [Rows.uptoBulk] at hb
    have hl1 := bulk_len (elems.map (·.1))
    rw [List.length_map, hlen] at hl1
    rcases Nat.eq_zero_or_pos n with h0 | hn
    · subst h0
      exact ⟨_, 0, _, [], rfl, rfl, .inl rfl, fun l h => (by cases h), by decide, by decide⟩
    · have each : ∀ k (hk : k < n), ∃ cs y, W.cells? 0 (a.add (k * 1)) 1 = some cs ∧ DataW.trod enc Tryd.prog W 0 (fun _ => true) true m 40 cs = some y ∧ elems[k]? = some y := fun k hk => by
        have he := hel k hk
        obtain ⟨y, hy⟩ : ∃ y, elems[k]? = some y := ⟨elems[k], List.getElem?_eq_getElem (by omega)⟩
        rw [hy] at he
        obtain ⟨cs, h1, h2⟩ := Option.bind_eq_some_iff.1 he
        exact ⟨cs, y, h1, h2, hy⟩
      obtain ⟨b, off, spot⟩ := a
      have hspot : spot = none := by
        obtain ⟨cs, y, h1, _, _⟩ := each 0 hn
        have := (World.cells?_some h1).2.2 0 (by decide)
        have hc := (World.cells?_some h1).2.1
        rw [List.getElem?_eq_getElem (by omega)] at this
        simpa [Addr.add] using World.cell?_spot this
      subst hspot
      have hadd : ∀ i j, ((⟨b, off, none⟩ : Addr).add i).add j = ⟨b, off + i + j, none⟩ := fun i j => by rw [Addr.add_mid, Addr.add_mid]
      have hblk : b < W.heap.size := by
        obtain ⟨cs, y, h1, _, _⟩ := each 0 hn
        have := World.cells?_block h1 (by decide)
        simpa [Addr.add] using this
      obtain ⟨xs, A, C, k1, k2, k3⟩ := build2 (elems.map (·.1)) (fun i x ao c => W.cell? ⟨b, off + i, none⟩ = some (.slice ao x.length c) ∧ U32sAt W ao x ∧ ∀ u ∈ x, u ≤ 4294967295) (fun k hk => by
        have hk' : k < n := by rw [List.length_map, hlen] at hk; exact hk
        obtain ⟨cs, y, h1, h2, h3⟩ := each k hk'
        obtain ⟨ao, c, l, rfl, hat, hu, hbk⟩ := open_u32s h2
        have c0 := (World.cells?_some h1).2.2 0 (by decide)
        rw [hadd] at c0
        refine ⟨l, ao, c, ⟨by simpa using c0, hat, hu⟩, ?_⟩
        have : (elems.map (·.1))[k] = y.1 := by
          rw [List.getElem_map]
          congr 1
          rw [List.getElem?_eq_getElem (by omega)] at h3
          exact Option.some.inj h3
        rw [this]
        exact hbk)
      rw [List.length_map, hlen] at k1
      refine ⟨_, n, cap, xs, rfl, k1, .inr ⟨b, off, rfl, hblk, fun i hi => ⟨A i, C i, (k2 i hi).1, (k2 i hi).2.1⟩⟩, fun l hl => ?_, by omega, by omega⟩
      obtain ⟨i, hi, rfl⟩ := List.getElem_of_mem hl
      exact (k2 i hi).2.2
end Go.Proofs.YtbjinmlelchmgaaDoor
