import Derived.Test.YtlfnpllojinjdaaDoorAll6
import Derived.Test.YtlfnpllojinjdaaDoorArgs
namespace Go.Proofs.YtlfnpllojinjdaaDoor
open Go.ChangeShapes Go.WideShapes Go.ChangeAt Go.RowKit

theorem bulk_pos {H : Type} (d : DataW H) : 1 ≤ Rows.uptoBulk d := by
  cases d with
  | lit l => cases l <;> simp [Rows.uptoBulk]
  | nil => simp [Rows.uptoBulk]
  | ptr d => simp [Rows.uptoBulk]
  | slice elems spare => simp [Rows.uptoBulk]
  | agg parts => simp [Rows.uptoBulk]
  | iface t d => simp [Rows.uptoBulk]
  | map entries => simp [Rows.uptoBulk]
  | held h => simp [Rows.uptoBulk]
theorem bulk_mem {H : Type} {d : DataW H} : ∀ {l : List (DataW H)}, d ∈ l → Rows.uptoBulk d ≤ Rows.uptoBulkAll l
  | [], h => by cases h
  | x :: l, h => by
    simp only [Rows.uptoBulkAll]
    rcases List.mem_cons.1 h with rfl | e
    · omega
    · have := bulk_mem e; omega
theorem bulk_len {H : Type} : ∀ (l : List (DataW H)), l.length ≤ Rows.uptoBulkAll l
  | [] => by simp [Rows.uptoBulkAll]
  | x :: l => by
    have := bulk_len l
    have := bulk_pos x
    simp only [Rows.uptoBulkAll, List.length_cons]
    omega

/-- A slice of integers in a cell that was read. -/
theorem open_cells {H : Type} {enc : TypeId × Value → H} {W : World} {b0 fuel : Nat} {held : Bool} {cs : List Value} {x : DataW H × List MemPlace} {t e : TypeId} {k : IntKind}
    (ht : Tryd.prog.underlying t = some (.slice e)) (he : Tryd.prog.underlying e = some (.int k)) (hc : Tryd.prog.cellsOf e = 1)
    (hf : DataW.trod enc Tryd.prog W b0 (fun _ => true) held fuel t cs = some x) :
    ∃ ao n cap xs, cs = [.slice ao n cap] ∧ xs.length = n ∧ (∀ y ∈ xs, (Lit.int k y).wf = true) ∧ At W k ao xs ∧ n ≤ Rows.uptoBulk x.1 := by
  rcases open_ints ht he hc hf with ⟨hcs, hx⟩ | ⟨a, n, cap, zs, hcs, hb, hl, hm, hz, hx, hcell, hwz⟩
  · exact ⟨none, 0, 0, [], hcs, rfl, fun x hx => by simp at hx, .inl rfl, Nat.zero_le _⟩
  · simp only [if_true] at hz
    have hlen : (zs.take n).length = n := by simp; omega
    refine ⟨some a, n, cap, zs.take n, hcs, hlen, fun y hy => hwz y (List.mem_of_mem_take hy), ?_, ?_⟩
    · rcases Nat.eq_zero_or_pos n with rfl | hn
      · exact .inl (by simp)
      · obtain ⟨b, off, spot⟩ := a
        have h0 := hcell 0 (by omega)
        have hspot : spot = none := by simpa [Addr.add] using World.cell?_spot h0
        subst hspot
        refine .inr ⟨b, off, rfl, ?_, ?_⟩
        · rcases Nat.lt_or_ge b W.heap.size with h | h
          · exact h
          · simp [Addr.add, World.cell?, Array.getElem?_eq_none h] at h0
        · intro i hi
          have := hcell i (by omega)
          have e1 : (⟨b, off, none⟩ : Addr).add i = ⟨b, off + i, none⟩ := by unfold Addr.add; split <;> simp_all
          rw [e1] at this
          rw [this]
          congr 2
          simp only [List.getD_eq_getElem?_getD, List.getElem?_take]
          rw [if_pos (by omega)]
    · rw [hx]
      have h1 := bulk_len (lits (H := H) k (zs.take n))
      have h2 : (lits (H := H) k (zs.take n)).length = n := by simp [lits]; omega
      simp only [Rows.uptoBulk]
      omega
theorem cells3 : Tryd.prog.cellsOf 3 = 1 := by kernel_rfl
theorem cells9 : Tryd.prog.cellsOf 9 = 1 := by kernel_rfl
theorem cells32 : Tryd.prog.cellsOf 32 = 1 := by kernel_rfl
theorem cells36 : Tryd.prog.cellsOf 36 = 1 := by kernel_rfl
theorem cells67 : Tryd.prog.cellsOf 67 = 11 := by kernel_rfl

/-- One call of a script that came in. -/
theorem open_op {H : Type} {enc : TypeId × Value → H} {W : World} {b0 fuel : Nat} {held : Bool} {cs : List Value} {y : DataW H × List MemPlace}
    (h : DataW.trod enc Tryd.prog W b0 (fun _ => true) held fuel 67 cs = some y) (hb : Rows.uptoBulk y.1 ≤ 1048576) : ∃ (kind : Int) (o : OpV), cs = (o.cells kind).toList ∧ o.Ok W := by
  obtain ⟨xs, m, rfl, hy, hlen, hn, hel⟩ := DataW.trod_struct Tryd.underlying67 h
  rw [cells67] at hlen
  have hsz : xs.length = 11 := hn
  match cs, hlen with
  | [v0, v1, v2, v3, v4, v5, v6, v7, v8, v9, v10], _ =>
    match xs, hsz with
    | [x0, x1, x2, x3, x4, x5, x6, x7, x8, x9, x10], _ =>
      have e0 : DataW.trod enc Tryd.prog W b0 (fun _ => true) held m 3 (([v0, v1, v2, v3, v4, v5, v6, v7, v8, v9, v10].drop 0).take (Tryd.prog.cellsOf 3)) = some x0 := hel 0 _ rfl
      rw [cells3] at e0
      have e1 : DataW.trod enc Tryd.prog W b0 (fun _ => true) held m 22 (([v0, v1, v2, v3, v4, v5, v6, v7, v8, v9, v10].drop 1).take (Tryd.prog.cellsOf 22)) = some x1 := hel 1 _ rfl
      rw [cells22] at e1
      have e2 : DataW.trod enc Tryd.prog W b0 (fun _ => true) held m 22 (([v0, v1, v2, v3, v4, v5, v6, v7, v8, v9, v10].drop 2).take (Tryd.prog.cellsOf 22)) = some x2 := hel 2 _ rfl
      rw [cells22] at e2
      have e3 : DataW.trod enc Tryd.prog W b0 (fun _ => true) held m 22 (([v0, v1, v2, v3, v4, v5, v6, v7, v8, v9, v10].drop 3).take (Tryd.prog.cellsOf 22)) = some x3 := hel 3 _ rfl
      rw [cells22] at e3
      have e4 : DataW.trod enc Tryd.prog W b0 (fun _ => true) held m 22 (([v0, v1, v2, v3, v4, v5, v6, v7, v8, v9, v10].drop 4).take (Tryd.prog.cellsOf 22)) = some x4 := hel 4 _ rfl
      rw [cells22] at e4
      have e5 : DataW.trod enc Tryd.prog W b0 (fun _ => true) held m 3 (([v0, v1, v2, v3, v4, v5, v6, v7, v8, v9, v10].drop 5).take (Tryd.prog.cellsOf 3)) = some x5 := hel 5 _ rfl
      rw [cells3] at e5
      have e6 : DataW.trod enc Tryd.prog W b0 (fun _ => true) held m 3 (([v0, v1, v2, v3, v4, v5, v6, v7, v8, v9, v10].drop 6).take (Tryd.prog.cellsOf 3)) = some x6 := hel 6 _ rfl
      rw [cells3] at e6
      have e7 : DataW.trod enc Tryd.prog W b0 (fun _ => true) held m 32 (([v0, v1, v2, v3, v4, v5, v6, v7, v8, v9, v10].drop 7).take (Tryd.prog.cellsOf 32)) = some x7 := hel 7 _ rfl
      rw [cells32] at e7
      have e8 : DataW.trod enc Tryd.prog W b0 (fun _ => true) held m 32 (([v0, v1, v2, v3, v4, v5, v6, v7, v8, v9, v10].drop 8).take (Tryd.prog.cellsOf 32)) = some x8 := hel 8 _ rfl
      rw [cells32] at e8
      have e9 : DataW.trod enc Tryd.prog W b0 (fun _ => true) held m 36 (([v0, v1, v2, v3, v4, v5, v6, v7, v8, v9, v10].drop 9).take (Tryd.prog.cellsOf 36)) = some x9 := hel 9 _ rfl
      rw [cells36] at e9
      have e10 : DataW.trod enc Tryd.prog W b0 (fun _ => true) held m 9 (([v0, v1, v2, v3, v4, v5, v6, v7, v8, v9, v10].drop 10).take (Tryd.prog.cellsOf 9)) = some x10 := hel 10 _ rfl
      rw [cells9] at e10
      obtain ⟨kind, g0, _, _⟩ := DataW.trod_int Tryd.underlying3 (show _ = some x0 from e0)
      obtain ⟨a, g1, _, w1⟩ := DataW.trod_int Tryd.underlying22 (show _ = some x1 from e1)
      obtain ⟨b, g2, _, w2⟩ := DataW.trod_int Tryd.underlying22 (show _ = some x2 from e2)
      obtain ⟨c, g3, _, w3⟩ := DataW.trod_int Tryd.underlying22 (show _ = some x3 from e3)
      obtain ⟨d, g4, _, w4⟩ := DataW.trod_int Tryd.underlying22 (show _ = some x4 from e4)
      obtain ⟨n, g5, _, w5⟩ := DataW.trod_int Tryd.underlying3 (show _ = some x5 from e5)
      obtain ⟨p, g6, _, w6⟩ := DataW.trod_int Tryd.underlying3 (show _ = some x6 from e6)
      obtain ⟨lao, ln, lc, lx, g7, ll, lw, la, lb⟩ := open_cells Tryd.underlying32 Tryd.underlying22 cells22 (show _ = some x7 from e7)
      obtain ⟨pao, pn, pc, px, g8, pl, pw, pa, pb⟩ := open_cells Tryd.underlying32 Tryd.underlying22 cells22 (show _ = some x8 from e8)
      obtain ⟨bao, bn, bc, bx, g9, bl, bw, ba, bb⟩ := open_cells Tryd.underlying36 Tryd.underlying5 cells5 (show _ = some x9 from e9)
      obtain ⟨s, g10, hs, _⟩ := DataW.trod_string Tryd.underlying9 (show _ = some x10 from e10)
      simp at g0 g1 g2 g3 g4 g5 g6 g7 g8 g9 g10
      subst g0 g1 g2 g3 g4 g5 g6 g7 g8 g9 g10
      have hbb : ∀ z ∈ [x0, x1, x2, x3, x4, x5, x6, x7, x8, x9, x10], Rows.uptoBulk z.1 ≤ 1048576 := fun z hz => by
        have hm : z.1 ∈ [x0, x1, x2, x3, x4, x5, x6, x7, x8, x9, x10].map (·.1) := List.mem_map_of_mem hz
        have := bulk_mem hm
        rw [hy] at hb
        simp only [Rows.uptoBulk] at hb
        omega
      have b7 := hbb x7 (by simp)
      have b8 := hbb x8 (by simp)
      have b9 := hbb x9 (by simp)
      have b10 := hbb x10 (by simp)
      rw [hs] at b10
      simp only [Rows.uptoBulk] at b10
      have es : s.data.toList.length = s.size := by rw [Array.length_toList]; rfl
      have k1 := bounds_u32 w1
      have k2 := bounds_u32 w2
      have k3 := bounds_u32 w3
      have k4 := bounds_u32 w4
      have k5 := bounds_i64 w5
      have k6 := bounds_i64 w6
      have i1 : IsWord a := ⟨by omega, by omega⟩
      have i2 : IsWord b := ⟨by omega, by omega⟩
      have i3 : IsWord c := ⟨by omega, by omega⟩
      have i4 : IsWord d := ⟨by omega, by omega⟩
      have i5 : IsInt n := ⟨by omega, by omega⟩
      have i6 : IsInt p := ⟨by omega, by omega⟩
      have i7 : ln ≤ 1048576 := by omega
      have i8 : pn ≤ 1048576 := by omega
      have i9 : bn ≤ 1048576 := by omega
      have i10 : s.size ≤ 1048576 := by omega
      exact ⟨kind, ⟨a, b, c, d, n, p, lao, ln, lc, lx, pao, pn, pc, px, bao, bn, bc, bx, s⟩, rfl, ⟨i1, i2, i3, i4, i5, i6, ll, wds_of lw, la, i7, pl, wds_of pw, pa, i8, bl, bts_of bw, ba, i9, i10⟩⟩

/-- A script that came in. -/
theorem open_script {H : Type} {enc : TypeId × Value → H} {W : World} {base : Nat} {v : Value} {d : DataW H} {p : List MemPlace}
    (hv : Value.okWide Tryd.prog W .any base 64 v) (h : DataW.Trod enc Tryd.prog W 0 (fun _ => true) true 64 v d p) (hb : Rows.uptoBulk d ≤ 1048576) :
    ∃ ao n cap, v = .slice ao n cap ∧ (n = 0 ∨ ∃ b off, ao = some ⟨b, off, none⟩ ∧ b < W.heap.size ∧ Script W b off n) ∧ n ≤ 1048576 := by
  obtain ⟨ao, n, cap, rfl⟩ := okWide_slice Tryd.underlying64 hv
  obtain ⟨fuel, hf⟩ := h
  rcases DataW.trod_slice Tryd.underlying64 hf with ⟨hcs, hx⟩ | ⟨a, len, cap', elems, rest, m, rfl, hcs, hx, hb0, hl, hm, hlen, hel, hsp, hns⟩
  · simp [Value.cells] at hcs
    obtain ⟨rfl, rfl, rfl⟩ := hcs
    exact ⟨none, 0, 0, rfl, .inl rfl, by decide⟩
  · simp [Value.cells] at hcs
    obtain ⟨rfl, rfl, rfl⟩ := hcs
    rw [cells67] at hel
    simp only [Prod.mk.injEq] at hx
    rw [hx.1] at hb
    simp only [Rows.uptoBulk] at hb
    have hl1 := bulk_len (elems.map (·.1))
    rw [List.length_map, hlen] at hl1
    refine ⟨some a, n, cap, rfl, ?_, by omega⟩
    rcases Nat.eq_zero_or_pos n with h0 | hn
    · exact .inl h0
    · right
      have each : ∀ k, k < n → ∃ cs y, W.cells? 0 (a.add (k * 11)) 11 = some cs ∧ DataW.trod enc Tryd.prog W 0 (fun _ => true) true m 67 cs = some y ∧ Rows.uptoBulk y.1 ≤ 1048576 := fun k hk => by
        have he := hel k hk
        obtain ⟨y, hy⟩ : ∃ y, elems[k]? = some y := ⟨elems[k], List.getElem?_eq_getElem (by omega)⟩
        rw [hy] at he
        obtain ⟨cs, h1, h2⟩ := Option.bind_eq_some_iff.1 he
        have hmem : y.1 ∈ elems.map (·.1) := List.mem_map_of_mem (List.mem_of_getElem? hy)
        have := bulk_mem hmem
        exact ⟨cs, y, h1, h2, by omega⟩
      obtain ⟨b, off, spot⟩ := a
      have hspot : spot = none := by
        obtain ⟨cs, y, h1, _, _⟩ := each 0 hn
        have := (World.cells?_some h1).2.2 0 (by decide)
        have hc := (World.cells?_some h1).2.1
        rw [List.getElem?_eq_getElem (by omega)] at this
        simpa [Addr.add] using World.cell?_spot this
      subst hspot
      have hadd : ∀ i j, ((⟨b, off, none⟩ : Addr).add i).add j = ⟨b, off + i + j, none⟩ := fun i j => by
        have e1 : ∀ o i, (⟨b, o, none⟩ : Addr).add i = ⟨b, o + i, none⟩ := fun o i => by unfold Addr.add; split <;> simp_all
        rw [e1, e1]
      refine ⟨b, off, rfl, ?_, ?_⟩
      · obtain ⟨cs, y, h1, _, _⟩ := each 0 hn
        have := World.cells?_block h1 (by decide)
        simpa [Addr.add] using this
      · intro k hk
        obtain ⟨cs, y, h1, h2, h3⟩ := each k hk
        obtain ⟨kind, o, rfl, ok⟩ := open_op h2 h3
        refine ⟨kind, o, fun j hj => ?_, ok⟩
        have := (World.cells?_some h1).2.2 j hj
        rw [hadd] at this
        rw [this]
        simp
end Go.Proofs.YtlfnpllojinjdaaDoor
