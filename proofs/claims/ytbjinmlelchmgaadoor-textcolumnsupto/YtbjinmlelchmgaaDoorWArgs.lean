/- Pieces that came in, opened. -/
import Derived.Test.YtbjinmlelchmgaaDoorLaw
import Derived.Test.YtbjinmlelchmgaaDoorStt
namespace Go.Proofs.YtbjinmlelchmgaaDoor
open Go.ChangeShapes Go.WideShapes Go.ChangeAt Go.RowKit

theorem bulk_mem {H : Type} {d : DataW H} : ∀ {l : List (DataW H)}, d ∈ l → Rows.uptoBulk d ≤ Rows.uptoBulkAll l
  | [], h => by cases h
  | x :: l, h => by
    simp only [Rows.uptoBulkAll]
    rcases List.mem_cons.1 h with rfl | e
    · omega
    · have := bulk_mem e; omega
theorem cells3 : Tryd.prog.cellsOf 3 = 1 := by kernel_rfl
theorem cells4 : Tryd.prog.cellsOf 4 = 1 := by kernel_rfl
theorem cells5 : Tryd.prog.cellsOf 5 = 1 := by kernel_rfl
theorem cells24 : Tryd.prog.cellsOf 24 = 1 := by kernel_rfl
theorem cells27 : Tryd.prog.cellsOf 27 = 4 := by kernel_rfl
/-- A list of bytes in a cell that was read. -/
theorem open_bytes {H : Type} {enc : TypeId × Value → H} {W : World} {b0 fuel : Nat} {cs : List Value} {x : DataW H × List MemPlace}
    (hf : DataW.trod enc Tryd.prog W b0 (fun _ => true) true fuel 24 cs = some x) :
    ∃ ao c, ∃ l : List UInt8, cs = [.slice ao l.length c] ∧ AtB W ao l ∧ (ao = none → c = 0) ∧ l.length + 1 ≤ Rows.uptoBulk x.1 := by
  rcases open_ints Tryd.underlying24 Tryd.underlying5 cells5 hf with ⟨hcs, hx⟩ | ⟨a, n, cap, zs, hcs, hb, hl, hm, hz, hx, hcell, hwz⟩
  · exact ⟨none, 0, [], hcs, .inl rfl, fun _ => rfl, by rw [hx]; simp [Rows.uptoBulk]⟩
  · simp only [if_true] at hz
    have hlen : (zs.take n).length = n := by simp; omega
    refine ⟨some a, cap, (zs.take n).map fun z => UInt8.ofNat z.toNat, by rw [hcs, List.length_map, hlen], ?_, fun h => (by cases h), ?_⟩
    · rcases Nat.eq_zero_or_pos n with h0 | hn
      · exact .inl (by rw [h0]; simp)
      · obtain ⟨b, off, spot⟩ := a
        have h0 := hcell 0 (by omega)
        have hspot : spot = none := by simpa [Addr.add] using World.cell?_spot h0
        subst hspot
        refine .inr ⟨b, off, rfl, ?_, fun i hi => ?_⟩
        · rcases Nat.lt_or_ge b W.heap.size with h | h
          · exact h
          · simp [Addr.add, World.cell?, Array.getElem?_eq_none h] at h0
        · have hi' : i < n := by rw [List.length_map, hlen] at hi; exact hi
          have := hcell i (by omega)
          have e1 : (⟨b, off, none⟩ : Addr).add i = ⟨b, off + i, none⟩ := by unfold Addr.add; split <;> simp_all
          rw [e1] at this
          rw [this]
          have hiz : i < zs.length := by omega
          have hw := bounds_u8 (hwz zs[i] (List.getElem_mem hiz))
          simp only [List.getElem_map, List.getElem_take, List.getD_eq_getElem?_getD, List.getElem?_eq_getElem hiz, Option.getD_some]
          rw [UInt8.toNat_ofNat']
          congr 2
          omega
    · rw [hx]
      have h1 := bulk_len (lits (H := H) .u8 (zs.take n))
      have h2 : (lits (H := H) .u8 (zs.take n)).length = n := by simp [lits]; omega
      simp only [Rows.uptoBulk, List.length_map, hlen]
      omega
set_option maxRecDepth 20000 in
/-- One piece. -/
theorem open_pc {H : Type} {enc : TypeId × Value → H} {W : World} {b0 fuel : Nat} {cs : List Value} {y : DataW H × List MemPlace}
    (h : DataW.trod enc Tryd.prog W b0 (fun _ => true) true fuel 27 cs = some y) : ∃ (pc : T.Pc) (ao : Option Addr) (c : Nat), cs = [.bool pc.quoted, .slice ao pc.b.length c, .int .i64 pc.gap, .bool pc.tab] ∧ AtB W ao pc.b ∧ (ao = none → c = 0) ∧ 4 * pc.b.length + 7 ≤ 4 * Rows.uptoBulk y.1 := by
  obtain ⟨xs, m, rfl, hy, hlen, hn, hel⟩ := DataW.trod_struct Tryd.underlying27 h
  rw [cells27] at hlen
  have hsz : xs.length = 4 := hn
  match cs, hlen with
  | [v0, v1, v2, v3], _ =>
    match xs, hsz with
    | [x0, x1, x2, x3], _ =>
      have e0 : DataW.trod enc Tryd.prog W b0 (fun _ => true) true m 4 (([v0, v1, v2, v3].drop 0).take (Tryd.prog.cellsOf 4)) = some x0 := hel 0 _ rfl
      rw [cells4] at e0
      have e1 : DataW.trod enc Tryd.prog W b0 (fun _ => true) true m 24 (([v0, v1, v2, v3].drop 1).take (Tryd.prog.cellsOf 24)) = some x1 := hel 1 _ rfl
      rw [cells24] at e1
      have e2 : DataW.trod enc Tryd.prog W b0 (fun _ => true) true m 3 (([v0, v1, v2, v3].drop 2).take (Tryd.prog.cellsOf 3)) = some x2 := hel 2 _ rfl
      rw [cells3] at e2
      have e3 : DataW.trod enc Tryd.prog W b0 (fun _ => true) true m 4 (([v0, v1, v2, v3].drop 3).take (Tryd.prog.cellsOf 4)) = some x3 := hel 3 _ rfl
      rw [cells4] at e3
      obtain ⟨q, g0, _⟩ := DataW.trod_bool Tryd.underlying4 (show _ = some x0 from e0)
      obtain ⟨ao, c, l, g1, hat, hnil, hbk⟩ := open_bytes (show _ = some x1 from e1)
      obtain ⟨g, g2, _, _⟩ := DataW.trod_int Tryd.underlying3 (show _ = some x2 from e2)
      obtain ⟨t, g3, _⟩ := DataW.trod_bool Tryd.underlying4 (show _ = some x3 from e3)
      simp at g0 g1 g2 g3
      subst g0 g1 g2 g3
      refine ⟨⟨q, l, g, t⟩, ao, c, rfl, hat, hnil, ?_⟩
      have p0 := bulk_pos x0.1
      have p2 := bulk_pos x2.1
      have p3 := bulk_pos x3.1
      rw [hy]
      simp only [List.map_cons, List.map_nil, Rows.uptoBulk, Rows.uptoBulkAll]
      omega
theorem build {H : Type} : ∀ (l : List (DataW H)) (Q : Nat → T.Pc → Option Addr → Nat → Prop), (∀ k (hk : k < l.length), ∃ pc a c, Q k pc a c ∧ 4 * pc.b.length + 7 ≤ 4 * Rows.uptoBulk l[k]) →
    ∃ (ps : List T.Pc) (A : Nat → Option Addr) (C : Nat → Nat), ps.length = l.length ∧ (∀ k (h : k < ps.length), Q k ps[k] (A k) (C k)) ∧ T.total ps ≤ 4 * Rows.uptoBulkAll l
  | [], Q, _ => ⟨[], fun _ => none, fun _ => 0, rfl, fun k h => by simp at h, by simp [T.total]⟩
  | x :: l, Q, h => by
    obtain ⟨pc, a, c, hq, hb⟩ := h 0 (by simp)
    obtain ⟨ps, A, C, h1, h2, h3⟩ := build l (fun k => Q (k + 1)) (fun k hk => h (k + 1) (by simpa using hk))
    refine ⟨pc :: ps, fun k => match k with | 0 => a | k + 1 => A k, fun k => match k with | 0 => c | k + 1 => C k, by simp [h1], fun k hk => ?_, ?_⟩
    · cases k with
      | zero => exact hq
      | succ k => exact h2 k (by simpa using hk)
    · simp only [List.getElem_cons_zero] at hb
      simp only [T.total, Rows.uptoBulkAll]
      omega
set_option maxRecDepth 20000 in
theorem open_pieces {H : Type} {enc : TypeId × Value → H} {W : World} {base : Nat} {v : Value} {d : DataW H} {p : List MemPlace}
    (hv : Value.okWide Tryd.prog W .any base 22 v) (h : DataW.Trod enc Tryd.prog W 0 (fun _ => true) true 22 v d p) (hb : Rows.uptoBulk d ≤ 1048576) :
    ∃ (ao : Option Addr) (n cap : Nat) (ps : List T.Pc) (A : Nat → Option Addr) (C : Nat → Nat), v = .slice ao n cap ∧ ps.length = n ∧ (n = 0 ∨ ∃ b off, ao = some ⟨b, off, none⟩ ∧ ∀ i (h : i < ps.length), PcAt W b (off + i * 4) ps[i] (A i) (C i)) ∧ n ≤ 1048576 ∧ T.total ps ≤ 8388608 := by
  obtain ⟨ao, n, cap, rfl⟩ := okWide_slice Tryd.underlying22 hv
  obtain ⟨fuel, hf⟩ := h
  rcases DataW.trod_slice Tryd.underlying22 hf with ⟨hcs, hx⟩ | ⟨a, len, cap', elems, rest, m, rfl, hcs, hx, hb0, hl, hm, hlen, hel, hsp, hns⟩
  · simp [Value.cells] at hcs
    obtain ⟨rfl, rfl, rfl⟩ := hcs
    exact ⟨none, 0, 0, [], fun _ => none, fun _ => 0, rfl, rfl, .inl rfl, by decide, by decide⟩
  · simp [Value.cells] at hcs
    obtain ⟨rfl, rfl, rfl⟩ := hcs
    rw [cells27] at hel
    simp only [Prod.mk.injEq] at hx
    rw [hx.1] at hb
    simp only [Rows.uptoBulk] at hb
    have hl1 := bulk_len (elems.map (·.1))
    rw [List.length_map, hlen] at hl1
    rcases Nat.eq_zero_or_pos n with h0 | hn
    · subst h0
      exact ⟨_, 0, _, [], fun _ => none, fun _ => 0, rfl, rfl, .inl rfl, by decide, by decide⟩
    · have each : ∀ k (hk : k < n), ∃ cs y, W.cells? 0 (a.add (k * 4)) 4 = some cs ∧ DataW.trod enc Tryd.prog W 0 (fun _ => true) true m 27 cs = some y ∧ elems[k]? = some y := fun k hk => by
        have he := hel k hk
        obtain ⟨y, hy⟩ : ∃ y, elems[k]? = some y := ⟨elems[k], List.getElem?_eq_getElem (by omega)⟩
        rw [hy] at he
        obtain ⟨cs, h1, h2⟩ := Option.bind_eq_some_iff.1 he
        exact ⟨cs, y, h1, h2, hy⟩
      obtain ⟨b, off, spot⟩ := a
      have hspot : spot = none := by
        obtain ⟨cs, y, h1, _, _⟩ := each 0 hn
        have := (World.cells?_some h1).2.2 0 (by decide)
        have hc := (World.cells?_some h1).2.1
        rw [List.getElem?_eq_getElem (by omega)] at this
        simpa [Addr.add] using World.cell?_spot this
      subst hspot
      have hadd : ∀ i j, ((⟨b, off, none⟩ : Addr).add i).add j = ⟨b, off + i + j, none⟩ := fun i j => by rw [Addr.add_mid, Addr.add_mid]
      have hblk : b < W.heap.size := by
        obtain ⟨cs, y, h1, _, _⟩ := each 0 hn
        have := World.cells?_block h1 (by decide)
        simpa [Addr.add] using this
      obtain ⟨ps, A, C, k1, k2, k3⟩ := build (elems.map (·.1)) (fun i pc ao c => PcAt W b (off + i * 4) pc ao c) (fun k hk => by
        have hk' : k < n := by rw [List.length_map, hlen] at hk; exact hk
        obtain ⟨cs, y, h1, h2, h3⟩ := each k hk'
        obtain ⟨pc, ao, c, rfl, hat, hnil, hbk⟩ := open_pc h2
        have hc := fun j hj => (World.cells?_some h1).2.2 j hj
        have c0 := hc 0 (by decide)
        have c1 := hc 1 (by decide)
        have c2 := hc 2 (by decide)
        have c3 := hc 3 (by decide)
        rw [hadd] at c0 c1 c2 c3
        refine ⟨pc, ao, c, ⟨c0, c1, c2, c3, hat, hnil, hblk⟩, ?_⟩
        have : (elems.map (·.1))[k] = y.1 := by
          rw [List.getElem_map]
          congr 1
          rw [List.getElem?_eq_getElem (by omega)] at h3
          exact Option.some.inj h3
        rw [this]
        exact hbk)
      rw [List.length_map, hlen] at k1
      exact ⟨_, n, cap, ps, A, C, rfl, k1, .inr ⟨b, off, rfl, k2⟩, by omega, by omega⟩
end Go.Proofs.YtbjinmlelchmgaaDoor
