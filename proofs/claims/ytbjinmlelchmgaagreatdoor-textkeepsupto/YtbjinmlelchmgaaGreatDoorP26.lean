import Derived.Test.YtbjinmlelchmgaaGreatDoorP12
import Derived.Test.YtbjinmlelchmgaaGreatDoorP16
import Derived.Test.YtbjinmlelchmgaaGreatDoorP04
import Derived.Test.YtbjinmlelchmgaaGreatDoorP01
import Derived.Test.YtbjinmlelchmgaaGreatDoorP07
import Derived.Test.YtbjinmlelchmgaaGreatDoorP17
import Derived.Test.YtbjinmlelchmgaaGreatDoorP18
import Derived.Test.YtbjinmlelchmgaaGreatDoorP23
import Derived.Test.YtbjinmlelchmgaaGreatDoorP25
namespace Go.Proofs.YtbjinmlelchmgaaGreatDoor
open Go.RowKit
end Go.Proofs.YtbjinmlelchmgaaGreatDoor
namespace Go.Proofs.YtbjinmlelchmgaaGreatDoor
open Go.RowKit
end Go.Proofs.YtbjinmlelchmgaaGreatDoor
namespace Go.Proofs.YtbjinmlelchmgaaGreatDoor
open Go.ChangeShapes Go.WideShapes Go.ChangeAt Go.RowKit

theorem cells3 : Tryz.prog.cellsOf 3 = 1 := by kernel_rfl
theorem cells5 : Tryz.prog.cellsOf 5 = 1 := by kernel_rfl
theorem cells9 : Tryz.prog.cellsOf 9 = 1 := by kernel_rfl
theorem cells21 : Tryz.prog.cellsOf 21 = 1 := by kernel_rfl
theorem cells24 : Tryz.prog.cellsOf 24 = 1 := by kernel_rfl
theorem cells26 : Tryz.prog.cellsOf 26 = 1 := by kernel_rfl
theorem cells31 : Tryz.prog.cellsOf 31 = 1 := by kernel_rfl
theorem cells32 : Tryz.prog.cellsOf 32 = 1 := by kernel_rfl
theorem cells34 : Tryz.prog.cellsOf 34 = 7 := by kernel_rfl
theorem open_elems {H : Type} {enc : TypeId × Value → H} {W : World} {fuel : Nat} {t e : TypeId} {k : Nat} {cs : List Value} {x : DataW H × List MemPlace}
    (ht : Tryz.prog.underlying t = some (.slice e)) (hc : Tryz.prog.cellsOf e = k) (hk : 0 < k) (h : DataW.trod enc Tryz.prog W 0 (fun _ => true) true fuel t cs = some x) :
    ∃ (ao : Option Addr) (n cap m : Nat) (l : List (DataW H × List MemPlace)), cs = [.slice ao n cap] ∧ l.length = n ∧
      (n = 0 ∨ ∃ b o, ao = some ⟨b, o, none⟩ ∧ b < W.heap.size ∧ ∀ i (hi : i < l.length), ∃ cs' : List Value, cs'.length = k ∧ (∀ j, j < k → W.cell? ⟨b, o + i * k + j, none⟩ = cs'[j]?) ∧ DataW.trod enc Tryz.prog W 0 (fun _ => true) true m e cs' = some l[i]) ∧
      Rows.uptoBulkAll (l.map (·.1)) + 1 ≤ Rows.uptoBulk x.1 := by
  rcases DataW.trod_slice ht h with ⟨hcs, hx⟩ | ⟨a, n, cap, elems, rest, m, rfl, hcs, hx, hb0, hl, hm, hlen, hel, hsp, hns⟩
  · exact ⟨none, 0, 0, 0, [], hcs, rfl, .inl rfl, by rw [hx]; simp [Rows.uptoBulk, Rows.uptoBulkAll]⟩
  · rw [hc] at hel
    refine ⟨some a, n, cap, m, elems, hcs, hlen, ?_, by rw [hx]; simp only [Rows.uptoBulk]; omega⟩
    rcases Nat.eq_zero_or_pos n with h0 | hn
    · exact .inl h0
    · have each : ∀ i (hi : i < elems.length), ∃ cs' : List Value, W.cells? 0 (a.add (i * k)) k = some cs' ∧ DataW.trod enc Tryz.prog W 0 (fun _ => true) true m e cs' = some elems[i] := fun i hi => by
        have he := hel i (by omega)
        rw [List.getElem?_eq_getElem hi] at he
        obtain ⟨cs', h1, h2⟩ := Option.bind_eq_some_iff.1 he
        exact ⟨cs', h1, h2⟩
      obtain ⟨b, off, spot⟩ := a
      have hspot : spot = none := by
        obtain ⟨cs', h1, _⟩ := each 0 (by omega)
        have := (World.cells?_some h1).2.2 0 hk
        have hc := (World.cells?_some h1).2.1
        rw [List.getElem?_eq_getElem (by omega)] at this
        simpa [Addr.add] using World.cell?_spot this
      subst hspot
      have hblk : b < W.heap.size := by
        obtain ⟨cs', h1, _⟩ := each 0 (by omega)
        have := World.cells?_block h1 hk
        simpa [Addr.add] using this
      refine .inr ⟨b, off, rfl, hblk, fun i hi => ?_⟩
      obtain ⟨cs', h1, h2⟩ := each i hi
      refine ⟨cs', (World.cells?_some h1).2.1, fun j hj => ?_, h2⟩
      have := (World.cells?_some h1).2.2 j hj
      rw [Addr.add_mid, Addr.add_mid] at this
      exact this
theorem gather {H α : Type} (sz : α → Nat) : ∀ (l : List (DataW H)) (Q : Nat → α → Prop), (∀ k (hk : k < l.length), ∃ y, Q k y ∧ sz y ≤ Rows.uptoBulk l[k]) →
    ∃ ys : List α, ys.length = l.length ∧ (∀ k (h : k < ys.length), Q k ys[k]) ∧ (ys.map sz).sum ≤ Rows.uptoBulkAll l
  | [], Q, _ => ⟨[], rfl, fun k h => by simp at h, by simp⟩
  | x :: l, Q, h => by
    obtain ⟨y, hq, hb⟩ := h 0 (by simp)
    obtain ⟨ys, h1, h2, h3⟩ := gather sz l (fun k => Q (k + 1)) (fun k hk => h (k + 1) (by simpa using hk))
    refine ⟨y :: ys, by simp [h1], fun k hk => ?_, ?_⟩
    · cases k with
      | zero => exact hq
      | succ k => exact h2 k (by simpa using hk)
    · simp only [List.getElem_cons_zero] at hb
      simp only [List.map_cons, List.sum_cons, Rows.uptoBulkAll]
      omega
theorem open_strs {H : Type} {enc : TypeId × Value → H} {W : World} {fuel : Nat} {cs : List Value} {x : DataW H × List MemPlace}
    (h : DataW.trod enc Tryz.prog W 0 (fun _ => true) true fuel 24 cs = some x) :
    ∃ ao c, ∃ l : List (List UInt8), cs = [.slice ao l.length c] ∧ StrsAt W ao l ∧ T.Z.wr l ≤ Rows.uptoBulk x.1 := by
  obtain ⟨ao, n, cap, m, l, hcs, hl, hel, hbk⟩ := open_elems Tryz.underlying24 cells9 (by decide) h
  rcases hel with h0 | ⟨b, o, rfl, hb, hel⟩
  · subst h0
    exact ⟨ao, cap, [], hcs, .inl rfl, by simp [T.Z.wr]; omega⟩
  · obtain ⟨ys, k1, k2, k3⟩ := gather (fun c : List UInt8 => c.length + 1) (l.map (·.1)) (fun i y => W.cell? ⟨b, o + i, none⟩ = some (.string ⟨y.toArray⟩)) (fun i hi => by
      have hi' : i < l.length := by simpa using hi
      obtain ⟨cs', g1, g2, g3⟩ := hel i hi'
      obtain ⟨s, rfl, hx, _⟩ := DataW.trod_string Tryz.underlying9 g3
      refine ⟨s.data.toList, ?_, ?_⟩
      · have := g2 0 (by decide)
        simpa using this
      · rw [List.getElem_map, hx]
        simp [Rows.uptoBulk])
    rw [List.length_map] at k1
    refine ⟨_, cap, ys, by rw [hcs, k1, hl], .inr ⟨b, o, rfl, hb, k2⟩, ?_⟩
    unfold T.Z.wr
    omega
theorem open_rows {H : Type} {enc : TypeId × Value → H} {W : World} {fuel : Nat} {cs : List Value} {x : DataW H × List MemPlace}
    (h : DataW.trod enc Tryz.prog W 0 (fun _ => true) true fuel 32 cs = some x) :
    ∃ ao c, ∃ l : List (List (List UInt8)), cs = [.slice ao l.length c] ∧ RowsAt W ao l ∧ T.Z.wt l ≤ Rows.uptoBulk x.1 := by
  obtain ⟨ao, n, cap, m, l, hcs, hl, hel, hbk⟩ := open_elems Tryz.underlying32 cells24 (by decide) h
  rcases hel with h0 | ⟨b, o, rfl, hb, hel⟩
  · subst h0
    exact ⟨ao, cap, [], hcs, .inl rfl, by simp [T.Z.wt]⟩
  · obtain ⟨ys, k1, k2, k3⟩ := gather T.Z.wr (l.map (·.1)) (fun i y => ∃ ai ci, W.cell? ⟨b, o + i, none⟩ = some (.slice ai y.length ci) ∧ StrsAt W ai y) (fun i hi => by
      have hi' : i < l.length := by simpa using hi
      obtain ⟨cs', g1, g2, g3⟩ := hel i hi'
      obtain ⟨ai, ci, y, rfl, hs, hw⟩ := open_strs g3
      refine ⟨y, ⟨ai, ci, ?_, hs⟩, ?_⟩
      · have := g2 0 (by decide)
        simpa using this
      · rw [List.getElem_map]
        exact hw)
    rw [List.length_map] at k1
    refine ⟨_, cap, ys, by rw [hcs, k1, hl], .inr ⟨b, o, rfl, hb, k2⟩, ?_⟩
    unfold T.Z.wt
    omega
theorem open_bytes {H : Type} {enc : TypeId × Value → H} {W : World} {b0 fuel : Nat} {cs : List Value} {x : DataW H × List MemPlace}
    (hf : DataW.trod enc Tryz.prog W b0 (fun _ => true) true fuel 26 cs = some x) :
    ∃ ao c, ∃ l : List UInt8, cs = [.slice ao l.length c] ∧ AtB W ao l ∧ l.length + 1 ≤ Rows.uptoBulk x.1 := by
  rcases open_ints Tryz.underlying26 Tryz.underlying5 cells5 hf with ⟨hcs, hx⟩ | ⟨a, n, cap, zs, hcs, hb, hl, hm, hz, hx, hcell, hwz⟩
  · exact ⟨none, 0, [], hcs, .inl rfl, by rw [hx]; simp [Rows.uptoBulk]⟩
  · simp only [if_true] at hz
    have hlen : (zs.take n).length = n := by simp; omega
    refine ⟨some a, cap, (zs.take n).map fun z => UInt8.ofNat z.toNat, by rw [hcs, List.length_map, hlen], ?_, ?_⟩
    · rcases Nat.eq_zero_or_pos n with h0 | hn
      · exact .inl (by rw [h0]; simp)
      · obtain ⟨b, off, spot⟩ := a
        have h0 := hcell 0 (by omega)
        have hspot : spot = none := by simpa [Addr.add] using World.cell?_spot h0
        subst hspot
        refine .inr ⟨b, off, rfl, ?_, fun i hi => ?_⟩
        · rcases Nat.lt_or_ge b W.heap.size with h | h
          · exact h
          · simp [Addr.add, World.cell?, Array.getElem?_eq_none h] at h0
        · have hi' : i < n := by rw [List.length_map, hlen] at hi; exact hi
          have := hcell i (by omega)
          have e1 : (⟨b, off, none⟩ : Addr).add i = ⟨b, off + i, none⟩ := by unfold Addr.add; split <;> simp_all
          rw [e1] at this
          rw [this]
          have hiz : i < zs.length := by omega
          have hw := bounds_u8 (hwz zs[i] (List.getElem_mem hiz))
          simp only [List.getElem_map, List.getElem_take, List.getD_eq_getElem?_getD, List.getElem?_eq_getElem hiz, Option.getD_some]
          rw [UInt8.toNat_ofNat']
          congr 2
          omega
    · rw [hx]
      have h1 := bulk_len (lits (H := H) .u8 (zs.take n))
      have h2 : (lits (H := H) .u8 (zs.take n)).length = n := by simp [lits]; omega
      simp only [Rows.uptoBulk, List.length_map, hlen]
      omega
end Go.Proofs.YtbjinmlelchmgaaGreatDoor
