/- TextAll's pieces, opened. -/
import Derived.Test.YtbjinmlelchmgaaGreatDoorZLaw
import Derived.Test.YtbjinmlelchmgaaGreatDoorCol0ZBnd
import Derived.Test.YtbjinmlelchmgaaGreatDoorAll4
import Derived.Test.YtbjinmlelchmgaaGreatDoorPy0
import Derived.Test.YtbjinmlelchmgaaGreatDoorPy1
import Derived.Test.YtbjinmlelchmgaaGreatDoorPy2
import Derived.Test.YtbjinmlelchmgaaGreatDoorPy3
import Derived.Test.YtbjinmlelchmgaaGreatDoorPy4
import Derived.Test.YtbjinmlelchmgaaGreatDoorPy6
namespace Go.Proofs.YtbjinmlelchmgaaGreatDoor
open Go.ChangeShapes Go.WideShapes Go.ChangeAt Go.RowKit

theorem cells3 : Tryz.prog.cellsOf 3 = 1 := by kernel_rfl
theorem cells5 : Tryz.prog.cellsOf 5 = 1 := by kernel_rfl
theorem cells9 : Tryz.prog.cellsOf 9 = 1 := by kernel_rfl
theorem cells21 : Tryz.prog.cellsOf 21 = 1 := by kernel_rfl
theorem cells24 : Tryz.prog.cellsOf 24 = 1 := by kernel_rfl
theorem cells26 : Tryz.prog.cellsOf 26 = 1 := by kernel_rfl
theorem cells31 : Tryz.prog.cellsOf 31 = 1 := by kernel_rfl
theorem cells32 : Tryz.prog.cellsOf 32 = 1 := by kernel_rfl
theorem cells34 : Tryz.prog.cellsOf 34 = 7 := by kernel_rfl
/-- A slice that was read, its elements one by one. -/
theorem open_elems {H : Type} {enc : TypeId × Value → H} {W : World} {fuel : Nat} {t e : TypeId} {k : Nat} {cs : List Value} {x : DataW H × List MemPlace}
    (ht : Tryz.prog.underlying t = some (.slice e)) (hc : Tryz.prog.cellsOf e = k) (hk : 0 < k) (h : DataW.trod enc Tryz.prog W 0 (fun _ => true) true fuel t cs = some x) :
    ∃ (ao : Option Addr) (n cap m : Nat) (l : List (DataW H × List MemPlace)), cs = [.slice ao n cap] ∧ l.length = n ∧
      (n = 0 ∨ ∃ b o, ao = some ⟨b, o, none⟩ ∧ b < W.heap.size ∧ ∀ i (hi : i < l.length), ∃ cs' : List Value, cs'.length = k ∧ (∀ j, j < k → W.cell? ⟨b, o + i * k + j, none⟩ = cs'[j]?) ∧ DataW.trod enc Tryz.prog W 0 (fun _ => true) true m e cs' = some l[i]) ∧
      Rows.uptoBulkAll (l.map (·.1)) + 1 ≤ Rows.uptoBulk x.1 := by
  rcases DataW.trod_slice ht h with ⟨hcs, hx⟩ | ⟨a, n, cap, elems, rest, m, rfl, hcs, hx, hb0, hl, hm, hlen, hel, hsp, hns⟩
  · exact ⟨none, 0, 0, 0, [], hcs, rfl, .inl rfl, by rw [hx]; simp [Rows.uptoBulk, Rows.uptoBulkAll]⟩
  · rw [hc] at hel
    refine ⟨some a, n, cap, m, elems, hcs, hlen, ?_, by rw [hx]; simp only [Rows.uptoBulk]; omega⟩
    rcases Nat.eq_zero_or_pos n with h0 | hn
    · exact .inl h0
    · have each : ∀ i (hi : i < elems.length), ∃ cs' : List Value, W.cells? 0 (a.add (i * k)) k = some cs' ∧ DataW.trod enc Tryz.prog W 0 (fun _ => true) true m e cs' = some elems[i] := fun i hi => by
        have he := hel i (by omega)
        rw [List.getElem?_eq_getElem hi] at he
        obtain ⟨cs', h1, h2⟩ := Option.bind_eq_some_iff.1 he
        exact ⟨cs', h1, h2⟩
      obtain ⟨b, off, spot⟩ := a
      have hspot : spot = none := by
        obtain ⟨cs', h1, _⟩ := each 0 (by omega)
        have := (World.cells?_some h1).2.2 0 hk
        have hc := (World.cells?_some h1).2.1
        rw [List.getElem?_eq_getElem (by omega)] at this
        simpa [Addr.add] using World.cell?_spot this
      subst hspot
      have hblk : b < W.heap.size := by
        obtain ⟨cs', h1, _⟩ := each 0 (by omega)
        have := World.cells?_block h1 hk
        simpa [Addr.add] using this
      refine .inr ⟨b, off, rfl, hblk, fun i hi => ?_⟩
      obtain ⟨cs', h1, h2⟩ := each i hi
      refine ⟨cs', (World.cells?_some h1).2.1, fun j hj => ?_, h2⟩
      have := (World.cells?_some h1).2.2 j hj
      rw [Addr.add_mid, Addr.add_mid] at this
      exact this
theorem gather {H α : Type} (sz : α → Nat) : ∀ (l : List (DataW H)) (Q : Nat → α → Prop), (∀ k (hk : k < l.length), ∃ y, Q k y ∧ sz y ≤ Rows.uptoBulk l[k]) →
    ∃ ys : List α, ys.length = l.length ∧ (∀ k (h : k < ys.length), Q k ys[k]) ∧ (ys.map sz).sum ≤ Rows.uptoBulkAll l
  | [], Q, _ => ⟨[], rfl, fun k h => by simp at h, by simp⟩
  | x :: l, Q, h => by
    obtain ⟨y, hq, hb⟩ := h 0 (by simp)
    obtain ⟨ys, h1, h2, h3⟩ := gather sz l (fun k => Q (k + 1)) (fun k hk => h (k + 1) (by simpa using hk))
    refine ⟨y :: ys, by simp [h1], fun k hk => ?_, ?_⟩
    · cases k with
      | zero => exact hq
      | succ k => exact h2 k (by simpa using hk)
    · simp only [List.getElem_cons_zero] at hb
      simp only [List.map_cons, List.sum_cons, Rows.uptoBulkAll]
      omega
theorem open_strs {H : Type} {enc : TypeId × Value → H} {W : World} {fuel : Nat} {cs : List Value} {x : DataW H × List MemPlace}
    (h : DataW.trod enc Tryz.prog W 0 (fun _ => true) true fuel 24 cs = some x) :
    ∃ ao c, ∃ l : List (List UInt8), cs = [.slice ao l.length c] ∧ StrsAt W ao l ∧ T.Z.wr l ≤ Rows.uptoBulk x.1 := by
  obtain ⟨ao, n, cap, m, l, hcs, hl, hel, hbk⟩ := open_elems Tryz.underlying24 cells9 (by decide) h
  rcases hel with h0 | ⟨b, o, rfl, hb, hel⟩
  · subst h0
    exact ⟨ao, cap, [], hcs, .inl rfl, by simp [T.Z.wr]; omega⟩
  · obtain ⟨ys, k1, k2, k3⟩ := gather (fun c : List UInt8 => c.length + 1) (l.map (·.1)) (fun i y => W.cell? ⟨b, o + i, none⟩ = some (.string ⟨y.toArray⟩)) (fun i hi => by
      have hi' : i < l.length := by simpa using hi
      obtain ⟨cs', g1, g2, g3⟩ := hel i hi'
      obtain ⟨s, rfl, hx, _⟩ := DataW.trod_string Tryz.underlying9 g3
      refine ⟨s.data.toList, ?_, ?_⟩
      · have := g2 0 (by decide)
        simpa using this
      · rw [List.getElem_map, hx]
        simp [Rows.uptoBulk])
    rw [List.length_map] at k1
    refine ⟨_, cap, ys, by rw [hcs, k1, hl], .inr ⟨b, o, rfl, hb, k2⟩, ?_⟩
    unfold T.Z.wr
    omega
theorem open_rows {H : Type} {enc : TypeId × Value → H} {W : World} {fuel : Nat} {cs : List Value} {x : DataW H × List MemPlace}
    (h : DataW.trod enc Tryz.prog W 0 (fun _ => true) true fuel 32 cs = some x) :
    ∃ ao c, ∃ l : List (List (List UInt8)), cs = [.slice ao l.length c] ∧ RowsAt W ao l ∧ T.Z.wt l ≤ Rows.uptoBulk x.1 := by
  obtain ⟨ao, n, cap, m, l, hcs, hl, hel, hbk⟩ := open_elems Tryz.underlying32 cells24 (by decide) h
  rcases hel with h0 | ⟨b, o, rfl, hb, hel⟩
  · subst h0
    exact ⟨ao, cap, [], hcs, .inl rfl, by simp [T.Z.wt]⟩
  · obtain ⟨ys, k1, k2, k3⟩ := gather T.Z.wr (l.map (·.1)) (fun i y => ∃ ai ci, W.cell? ⟨b, o + i, none⟩ = some (.slice ai y.length ci) ∧ StrsAt W ai y) (fun i hi => by
      have hi' : i < l.length := by simpa using hi
      obtain ⟨cs', g1, g2, g3⟩ := hel i hi'
      obtain ⟨ai, ci, y, rfl, hs, hw⟩ := open_strs g3
      refine ⟨y, ⟨ai, ci, ?_, hs⟩, ?_⟩
      · have := g2 0 (by decide)
        simpa using this
      · rw [List.getElem_map]
        exact hw)
    rw [List.length_map] at k1
    refine ⟨_, cap, ys, by rw [hcs, k1, hl], .inr ⟨b, o, rfl, hb, k2⟩, ?_⟩
    unfold T.Z.wt
    omega
/-- A list of bytes in a cell that was read. -/
theorem open_bytes {H : Type} {enc : TypeId × Value → H} {W : World} {b0 fuel : Nat} {cs : List Value} {x : DataW H × List MemPlace}
    (hf : DataW.trod enc Tryz.prog W b0 (fun _ => true) true fuel 26 cs = some x) :
    ∃ ao c, ∃ l : List UInt8, cs = [.slice ao l.length c] ∧ AtB W ao l ∧ l.length + 1 ≤ Rows.uptoBulk x.1 := by
  rcases open_ints Tryz.underlying26 Tryz.underlying5 cells5 hf with ⟨hcs, hx⟩ | ⟨a, n, cap, zs, hcs, hb, hl, hm, hz, hx, hcell, hwz⟩
  · exact ⟨none, 0, [], hcs, .inl rfl, by rw [hx]; simp [Rows.uptoBulk]⟩
  · simp only [if_true] at hz
    have hlen : (zs.take n).length = n := by simp; omega
    refine ⟨some a, cap, (zs.take n).map fun z => UInt8.ofNat z.toNat, by rw [hcs, List.length_map, hlen], ?_, ?_⟩
    · rcases Nat.eq_zero_or_pos n with h0 | hn
      · exact .inl (by rw [h0]; simp)
      · obtain ⟨b, off, spot⟩ := a
        have h0 := hcell 0 (by omega)
        have hspot : spot = none := by simpa [Addr.add] using World.cell?_spot h0
        subst hspot
        refine .inr ⟨b, off, rfl, ?_, fun i hi => ?_⟩
        · rcases Nat.lt_or_ge b W.heap.size with h | h
          · exact h
          · simp [Addr.add, World.cell?, Array.getElem?_eq_none h] at h0
        · have hi' : i < n := by rw [List.length_map, hlen] at hi; exact hi
          have := hcell i (by omega)
          have e1 : (⟨b, off, none⟩ : Addr).add i = ⟨b, off + i, none⟩ := by unfold Addr.add; split <;> simp_all
          rw [e1] at this
          rw [this]
          have hiz : i < zs.length := by omega
          have hw := bounds_u8 (hwz zs[i] (List.getElem_mem hiz))
          simp only [List.getElem_map, List.getElem_take, List.getD_eq_getElem?_getD, List.getElem?_eq_getElem hiz, Option.getD_some]
          rw [UInt8.toNat_ofNat']
          congr 2
          omega
    · rw [hx]
      have h1 := bulk_len (lits (H := H) .u8 (zs.take n))
      have h2 : (lits (H := H) .u8 (zs.take n)).length = n := by simp [lits]; omega
      simp only [Rows.uptoBulk, List.length_map, hlen]
      omega
set_option maxRecDepth 20000 in
/-- One piece: its seven cells, and that it is played to its end. -/
theorem open_pc {H : Type} {enc : TypeId × Value → H} {W : World} {fuel : Nat} {cs : List Value} {y : DataW H × List MemPlace} (htab : PowTab W) (mm : Int) (hm : W.cell? ⟨1, 0, none⟩ = some (.int .i64 mm))
    (h : DataW.trod enc Tryz.prog W 0 (fun _ => true) true fuel 34 cs = some y) (hb : Rows.uptoBulk y.1 ≤ 1048576) :
    ∃ (k p u i : Int) (s : ByteArray) (ab ar : Option Addr) (nb cb nr cr : Nat), cs = [.int .i64 k, .string s, .int .i64 p, .slice ab nb cb, .int .u32 u, .int .i32 i, .slice ar nr cr] ∧
      ∀ x, Below W.heap.size W x → Calls Tryz.prog 11 #[.agg #[.int .i64 k, .string s, .int .i64 p, .slice ab nb cb, .int .u32 u, .int .i32 i, .slice ar nr cr]] x fun e y => e = .returned (.bool true) ∧ Below x.heap.size x y := by
  obtain ⟨xs, m, rfl, hy, hlen, hn, hel⟩ := DataW.trod_struct Tryz.underlying34 h
  rw [cells34] at hlen
  have hsz : xs.length = 7 := hn
  match cs, hlen with
  | [v0, v1, v2, v3, v4, v5, v6], _ =>
    match xs, hsz with
    | [x0, x1, x2, x3, x4, x5, x6], _ =>
      have e0 : DataW.trod enc Tryz.prog W 0 (fun _ => true) true m 3 (([v0, v1, v2, v3, v4, v5, v6].drop 0).take (Tryz.prog.cellsOf 3)) = some x0 := hel 0 _ rfl
      rw [cells3] at e0
      have e1 : DataW.trod enc Tryz.prog W 0 (fun _ => true) true m 9 (([v0, v1, v2, v3, v4, v5, v6].drop 1).take (Tryz.prog.cellsOf 9)) = some x1 := hel 1 _ rfl
      rw [cells9] at e1
      have e2 : DataW.trod enc Tryz.prog W 0 (fun _ => true) true m 3 (([v0, v1, v2, v3, v4, v5, v6].drop 2).take (Tryz.prog.cellsOf 3)) = some x2 := hel 2 _ rfl
      rw [cells3] at e2
      have e3 : DataW.trod enc Tryz.prog W 0 (fun _ => true) true m 26 (([v0, v1, v2, v3, v4, v5, v6].drop 3).take (Tryz.prog.cellsOf 26)) = some x3 := hel 3 _ rfl
      rw [cells26] at e3
      have e4 : DataW.trod enc Tryz.prog W 0 (fun _ => true) true m 31 (([v0, v1, v2, v3, v4, v5, v6].drop 4).take (Tryz.prog.cellsOf 31)) = some x4 := hel 4 _ rfl
      rw [cells31] at e4
      have e5 : DataW.trod enc Tryz.prog W 0 (fun _ => true) true m 21 (([v0, v1, v2, v3, v4, v5, v6].drop 5).take (Tryz.prog.cellsOf 21)) = some x5 := hel 5 _ rfl
      rw [cells21] at e5
      have e6 : DataW.trod enc Tryz.prog W 0 (fun _ => true) true m 32 (([v0, v1, v2, v3, v4, v5, v6].drop 6).take (Tryz.prog.cellsOf 32)) = some x6 := hel 6 _ rfl
      rw [cells32] at e6
      obtain ⟨k, g0, _, _⟩ := DataW.trod_int Tryz.underlying3 (show _ = some x0 from e0)
      obtain ⟨s, g1, hx1, _⟩ := DataW.trod_string Tryz.underlying9 (show _ = some x1 from e1)
      obtain ⟨p, g2, _, _⟩ := DataW.trod_int Tryz.underlying3 (show _ = some x2 from e2)
      obtain ⟨ab, cb, l, g3, hat, hbk⟩ := open_bytes (show _ = some x3 from e3)
      obtain ⟨u, g4, _, hw4⟩ := DataW.trod_int Tryz.underlying31 (show _ = some x4 from e4)
      obtain ⟨i, g5, _, hw5⟩ := DataW.trod_int Tryz.underlying21 (show _ = some x5 from e5)
      obtain ⟨ar, cr, rows, g6, hrow, hbr⟩ := open_rows (show _ = some x6 from e6)
      simp at g0 g1 g2 g3 g4 g5 g6
      subst g0 g1 g2 g3 g4 g5 g6
      rw [hy] at hb
      simp only [List.map_cons, List.map_nil, Rows.uptoBulk, Rows.uptoBulkAll] at hb
      have p0 := bulk_pos x0.1
      rw [hx1] at hb
      simp only [Rows.uptoBulk] at hb
      have hs : s.size ≤ 1048576 := by
        have : s.data.toList.length = s.size := rfl
        omega
      obtain ⟨r1, r2, r3, r4⟩ := T.Z.bounds rows (by omega)
      refine ⟨k, p, u, i, s, ab, ar, l.length, cb, rows.length, cr, rfl, fun x hx => ?_⟩
      have hm' : x.cell? ⟨1, 0, none⟩ = some (.int .i64 mm) := by
        have hlt : 1 < W.heap.size := by
          rcases Nat.lt_or_ge 1 W.heap.size with h | h
          · exact h
          · simp [World.cell?, Array.getElem?_eq_none h] at hm
        rw [hx.cell (p := ⟨1, 0, none⟩) hlt]
        exact hm
      by_cases h1 : k = 1
      · subst h1; exact plays1 x s p u i ab ar _ cb _ cr (by omega) mm hm'
      by_cases h2 : k = 2
      · subst h2; exact plays2 x s p u i ab ar _ cb _ cr (by omega)
      by_cases h3 : k = 3
      · subst h3; exact plays3 x s p u i ab ar _ cb _ cr (by omega)
      by_cases h4 : k = 4
      · subst h4
        have b4 := bounds_u32 hw4
        have b5 := bounds_i32 hw5
        obtain ⟨q, rfl⟩ : ∃ q : Nat, u = (q : Int) := ⟨u.toNat, by omega⟩
        exact plays4 x s p i q ab ar _ cb _ cr (by omega) (by omega) (by omega) (htab.on hx)
      by_cases h5 : k = 5
      · subst h5; exact plays5 x s p u i ab ar _ cb _ cr l rfl (by omega) (hat.on hx)
      by_cases h6 : k = 6
      · subst h6; exact plays6 x s p u i ab ar _ cb _ cr (by omega)
      by_cases h7 : k = 7
      · subst h7; exact plays7 x s p u i ab ar _ cb _ cr rows rfl (by omega) (fun r hr => ⟨by have := (r2 r hr).1; omega, fun z hz => by have := (r2 r hr).2 z hz; omega⟩) (hrow.on hx) r3 r4
      exact plays0 x s k p u i ab ar _ cb _ cr h1 h2 h3 h4 h5 h6 h7
set_option maxRecDepth 20000 in
theorem open_pieces {H : Type} {enc : TypeId × Value → H} {W : World} {base : Nat} {v : Value} {d : DataW H} {p : List MemPlace} (htab : PowTab W) (mm : Int) (hm : W.cell? ⟨1, 0, none⟩ = some (.int .i64 mm))
    (hv : Value.okWide Tryz.prog W .any base 22 v) (h : DataW.Trod enc Tryz.prog W 0 (fun _ => true) true 22 v d p) (hb : Rows.uptoBulk d ≤ 1048576) :
    ∃ (ao : Option Addr) (n c : Nat), v = .slice ao n c ∧ n ≤ 1000000000 ∧ (n = 0 ∨ ∃ b o, ao = some ⟨b, o, none⟩ ∧ b < W.heap.size ∧ ∀ k, k < n → PieceAt W b (o + k * 7)) := by
  obtain ⟨ao0, n0, cap0, rfl⟩ := okWide_slice Tryz.underlying22 hv
  obtain ⟨fuel, hf⟩ := h
  obtain ⟨ao, n, cap, m, l, hcs, hl, hel, hbk⟩ := open_elems Tryz.underlying22 cells34 (by decide) hf
  simp [Value.cells] at hcs
  obtain ⟨rfl, rfl, rfl⟩ := hcs
  have hl1 := bulk_len (l.map (·.1))
  rw [List.length_map, hl] at hl1
  have hbk' : Rows.uptoBulkAll (l.map (·.1)) + 1 ≤ Rows.uptoBulk d := hbk
  refine ⟨_, _, _, rfl, by omega, ?_⟩
  rcases hel with h0 | ⟨b, o, rfl, hlt, hel⟩
  · exact .inl h0
  · refine .inr ⟨b, o, rfl, hlt, fun k hk => ?_⟩
    obtain ⟨cs', g1, g2, g3⟩ := hel k (by omega)
    have hmem : Rows.uptoBulk (l[k]'(by omega)).1 ≤ Rows.uptoBulkAll (l.map (·.1)) := bulk_mem (List.mem_map.2 ⟨l[k]'(by omega), List.getElem_mem _, rfl⟩)
    obtain ⟨kk, p, u, i, s, ab, ar, nb, cb, nr, cr, rfl, hp⟩ := open_pc htab mm hm g3 (by omega)
    exact ⟨kk, p, u, i, s, ab, ar, nb, cb, nr, cr, ⟨g2 0 (by decide), g2 1 (by decide), g2 2 (by decide), g2 3 (by decide), g2 4 (by decide), g2 5 (by decide), g2 6 (by decide)⟩, hp⟩
end Go.Proofs.YtbjinmlelchmgaaGreatDoor
