/- A script that came in. -/
import Derived.Test.YtialckmoigcdeaaDoorAlw
import Derived.Test.YtialckmoigcdeaaDoorKeyArgs
namespace Go.Proofs.YtialckmoigcdeaaDoor
open Go.ChangeShapes Go.WideShapes Go.ChangeAt Go.RowKit
theorem bulk_pos {H : Type} (d : DataW H) : 1 ≤ Rows.uptoBulk d := by
  cases d with
  | lit l => cases l <;> simp [Rows.uptoBulk]
  | nil => simp [Rows.uptoBulk]
  | ptr d => simp [Rows.uptoBulk]
  | slice elems spare => simp [Rows.uptoBulk]
  | agg parts => simp [Rows.uptoBulk]
  | iface t d => simp [Rows.uptoBulk]
  | map entries => simp [Rows.uptoBulk]
  | held h => simp [Rows.uptoBulk]
theorem bulk_mem {H : Type} {d : DataW H} : ∀ {l : List (DataW H)}, d ∈ l → Rows.uptoBulk d ≤ Rows.uptoBulkAll l
  | [], h => by cases h
  | x :: l, h => by
    simp only [Rows.uptoBulkAll]
    rcases List.mem_cons.1 h with rfl | e
    · omega
    · have := bulk_mem e; omega
theorem bulk_len {H : Type} : ∀ (l : List (DataW H)), l.length ≤ Rows.uptoBulkAll l
  | [] => by simp [Rows.uptoBulkAll]
  | x :: l => by
    have := bulk_len l
    have := bulk_pos x
    simp only [Rows.uptoBulkAll, List.length_cons]
    omega
theorem cells58 : Tryd.prog.cellsOf 58 = 23 := by kernel_rfl
theorem cells35u : Tryd.prog.cellsOf 35 = 1 := by kernel_rfl
theorem cells22u : Tryd.prog.cellsOf 22 = 1 := by kernel_rfl
theorem cells26u : Tryd.prog.cellsOf 26 = 8 := by kernel_rfl
theorem cells3u : Tryd.prog.cellsOf 3 = 1 := by kernel_rfl
/-- Eight words. -/
theorem open_eight {H : Type} {enc : TypeId × Value → H} {W : World} {b0 fuel : Nat} {held : Bool} {cs : List Value} {x : DataW H × List MemPlace} (hf : DataW.trod enc Tryd.prog W b0 (fun _ => true) held fuel 26 cs = some x) :
    ∃ xs : List Int, cs = xs.map (Value.int .u32) ∧ xs.length = 8 ∧ Wds xs := by
  obtain ⟨ys, m, _, _, hlen, hl, hel⟩ := DataW.trod_array Tryd.underlying26 hf
  rw [cells26u] at hlen
  obtain ⟨xs, hxs, hw⟩ := ints_of .u32 cs fun i hi => by
    have hi' : i < 8 := by omega
    have hE := hel i hi'
    rw [cells25, Nat.mul_one, List.getElem?_eq_getElem (by omega)] at hE
    obtain ⟨z, e1, _, e3⟩ := DataW.trod_int Tryd.underlying25 hE
    refine ⟨z, ?_, e3⟩
    have h0 : ((cs.drop i).take 1)[0]? = some (.int .u32 z) := by rw [e1]; rfl
    simpa [List.getElem?_take, List.getElem?_drop] using h0
  exact ⟨xs, hxs, by rw [hxs] at hlen; simpa using hlen, wds_of hw⟩
theorem len_bulk {H : Type} {n : Nat} {d : DataW H} (h : n = 0 ∨ ∃ elems spare, d = .slice elems spare ∧ elems.length = n) : n ≤ Rows.uptoBulk d := by
  rcases h with rfl | ⟨e, s, rfl, h⟩
  · exact Nat.zero_le _
  · have := bulk_len e
    simp only [Rows.uptoBulk]
    omega
/-- A list of 23 out of its parts. -/
theorem cut_all {cs : List Value} {kd hh : Value} {u v a b : Value} {X Y : List Value} {N : Value} (hl : cs.length = 23) (g0 : (cs.drop 0).take 1 = [kd]) (g1 : (cs.drop 1).take 1 = [hh]) (g2 : (cs.drop 2).take 1 = [u]) (g3 : (cs.drop 3).take 1 = [v]) (g4 : (cs.drop 4).take 1 = [a]) (g5 : (cs.drop 5).take 1 = [b]) (g6 : (cs.drop 6).take 8 = X) (g7 : (cs.drop 14).take 8 = Y) (g8 : (cs.drop 22).take 1 = [N]) :
    cs = [kd, hh, u, v, a, b] ++ (X ++ (Y ++ [N])) := by
  match cs, hl with
  | [v0, v1, v2, v3, v4, v5, v6, v7, v8, v9, v10, v11, v12, v13, v14, v15, v16, v17, v18, v19, v20, v21, v22], _ =>
    simp only [List.drop_zero, List.drop_succ_cons, List.take_succ_cons, List.take_zero, List.cons.injEq, and_true] at g0 g1 g2 g3 g4 g5 g6 g7 g8
    subst g0 g1 g2 g3 g4 g5 g6 g7 g8
    rfl
set_option maxRecDepth 100000 in
/-- One call of a script that came in. -/
theorem open_op {H : Type} {enc : TypeId × Value → H} {W : World} {b0 fuel : Nat} {held : Bool} {cs : List Value} {y : DataW H × List MemPlace}
    (h : DataW.trod enc Tryd.prog W b0 (fun _ => true) held fuel 58 cs = some y) (hb : Rows.uptoBulk y.1 ≤ 1048576) : ∃ o : Ov, cs = o.cs ∧ o.In W := by
  obtain ⟨xs, m, rfl, hy, hlen, hn, hel⟩ := DataW.trod_struct Tryd.underlying58 h
  rw [cells58] at hlen
  have hsz : xs.length = 9 := hn
  match xs, hsz with
  | [x0, x1, x2, x3, x4, x5, x6, x7, x8], _ =>
    have e0 : DataW.trod enc Tryd.prog W b0 (fun _ => true) held m 3 ((cs.drop 0).take (Tryd.prog.cellsOf 3)) = some x0 := hel 0 _ rfl
    rw [cells3u] at e0
    have e1 : DataW.trod enc Tryd.prog W b0 (fun _ => true) held m 3 ((cs.drop 1).take (Tryd.prog.cellsOf 3)) = some x1 := hel 1 _ rfl
    rw [cells3u] at e1
    have e2 : DataW.trod enc Tryd.prog W b0 (fun _ => true) held m 35 ((cs.drop 2).take (Tryd.prog.cellsOf 35)) = some x2 := hel 2 _ rfl
    rw [cells35u] at e2
    have e3 : DataW.trod enc Tryd.prog W b0 (fun _ => true) held m 35 ((cs.drop 3).take (Tryd.prog.cellsOf 35)) = some x3 := hel 3 _ rfl
    rw [cells35u] at e3
    have e4 : DataW.trod enc Tryd.prog W b0 (fun _ => true) held m 22 ((cs.drop 4).take (Tryd.prog.cellsOf 22)) = some x4 := hel 4 _ rfl
    rw [cells22u] at e4
    have e5 : DataW.trod enc Tryd.prog W b0 (fun _ => true) held m 22 ((cs.drop 5).take (Tryd.prog.cellsOf 22)) = some x5 := hel 5 _ rfl
    rw [cells22u] at e5
    have e6 : DataW.trod enc Tryd.prog W b0 (fun _ => true) held m 26 ((cs.drop 6).take (Tryd.prog.cellsOf 26)) = some x6 := hel 6 _ rfl
    rw [cells26u] at e6
    have e7 : DataW.trod enc Tryd.prog W b0 (fun _ => true) held m 26 ((cs.drop 14).take (Tryd.prog.cellsOf 26)) = some x7 := hel 7 _ rfl
    rw [cells26u] at e7
    have e8 : DataW.trod enc Tryd.prog W b0 (fun _ => true) held m 3 ((cs.drop 22).take (Tryd.prog.cellsOf 3)) = some x8 := hel 8 _ rfl
    rw [cells3u] at e8
    obtain ⟨kd, g0, _, _⟩ := DataW.trod_int Tryd.underlying3 (show _ = some x0 from e0)
    obtain ⟨hh, g1, _, _⟩ := DataW.trod_int Tryd.underlying3 (show _ = some x1 from e1)
    obtain ⟨ua, un, uc, us, g2, l2, w2, t2, u2, s2, m2, b2⟩ := open_cells Tryd.underlying35 Tryd.underlying25 cells25 (show _ = some x2 from e2)
    obtain ⟨va, vn, vc, vs, g3, l3, w3, t3, u3, s3, m3, b3⟩ := open_cells Tryd.underlying35 Tryd.underlying25 cells25 (show _ = some x3 from e3)
    obtain ⟨aa, an, ac, as', g4, l4, w4, t4, u4, s4, m4, b4⟩ := open_cells Tryd.underlying22 Tryd.underlying5 cells5 (show _ = some x4 from e4)
    obtain ⟨ba, bn, bc, bs, g5, l5, w5, t5, u5, s5, m5, b5⟩ := open_cells Tryd.underlying22 Tryd.underlying5 cells5 (show _ = some x5 from e5)
    obtain ⟨A8, g6, l6, w6⟩ := open_eight (show _ = some x6 from e6)
    obtain ⟨B8, g7, l7, w7⟩ := open_eight (show _ = some x7 from e7)
    obtain ⟨N, g8, _, _⟩ := DataW.trod_int Tryd.underlying3 (show _ = some x8 from e8)
    have hbb : ∀ z ∈ [x0, x1, x2, x3, x4, x5, x6, x7, x8], Rows.uptoBulk z.1 ≤ 1048576 := fun z hz => by
      have hm : z.1 ∈ [x0, x1, x2, x3, x4, x5, x6, x7, x8].map (·.1) := List.mem_map_of_mem hz
      have := bulk_mem hm
      rw [hy] at hb
      simp only [Rows.uptoBulk] at hb
      omega
    have z2 := Nat.le_trans (len_bulk b2) (hbb x2 (by simp))
    have z3 := Nat.le_trans (len_bulk b3) (hbb x3 (by simp))
    have z4 := Nat.le_trans (len_bulk b4) (hbb x4 (by simp))
    have z5 := Nat.le_trans (len_bulk b5) (hbb x5 (by simp))
    refine ⟨⟨kd, hh, ua, un, uc, us, va, vn, vc, vs, aa, an, ac, as', ba, bn, bc, bs, A8, B8, N⟩, ?_, ⟨l2, wds_of w2, t2, s2, z2, l3, wds_of w3, t3, s3, z3, l4, bts_of w4, t4, s4, u4, z4, l5, bts_of w5, t5, s5, z5, l6, w6, l7, w7⟩⟩
    exact cut_all hlen g0 g1 g2 g3 g4 g5 g6 g7 g8
set_option maxRecDepth 100000 in
/-- A script that came in. -/
theorem open_script {H : Type} {enc : TypeId × Value → H} {W : World} {base : Nat} {v : Value} {d : DataW H} {p : List MemPlace}
    (hv : Value.okWide Tryd.prog W .any base 52 v) (h : DataW.Trod enc Tryd.prog W 0 (fun _ => true) true 52 v d p) (hb : Rows.uptoBulk d ≤ 1048576) :
    ∃ ao n cap, v = .slice ao n cap ∧ (n = 0 ∨ ∃ b off, ao = some ⟨b, off, none⟩ ∧ b < W.heap.size ∧ ∀ k, k < n → ∃ o : Ov, o.In W ∧ W.rangeAt b (off + k * 23) o.cs) ∧ n ≤ 1048576 := by
  obtain ⟨ao, n, cap, rfl⟩ := okWide_slice Tryd.underlying52 hv
  obtain ⟨fuel, hf⟩ := h
  rcases DataW.trod_slice Tryd.underlying52 hf with ⟨hcs, hx⟩ | ⟨a, len, cap', elems, rest, m, rfl, hcs, hx, hb0, hl, hm, hlen, hel, hsp, hns⟩
  · simp [Value.cells] at hcs
    obtain ⟨rfl, rfl, rfl⟩ := hcs
    exact ⟨none, 0, 0, rfl, .inl rfl, by decide⟩
  · simp [Value.cells] at hcs
    obtain ⟨rfl, rfl, rfl⟩ := hcs
    rw [cells58] at hel
    simp only [Prod.mk.injEq] at hx
    rw [hx.1] at hb
    simp only [Rows.uptoBulk] at hb
    have hl1 := bulk_len (elems.map (·.1))
    rw [List.length_map, hlen] at hl1
    refine ⟨some a, n, cap, rfl, ?_, by omega⟩
    rcases Nat.eq_zero_or_pos n with h0 | hn
    · exact .inl h0
    · right
      have each : ∀ k, k < n → ∃ cs y, W.cells? 0 (a.add (k * 23)) 23 = some cs ∧ DataW.trod enc Tryd.prog W 0 (fun _ => true) true m 58 cs = some y ∧ Rows.uptoBulk y.1 ≤ 1048576 := fun k hk => by
        have he := hel k hk
        obtain ⟨y, hy⟩ : ∃ y, elems[k]? = some y := ⟨elems[k], List.getElem?_eq_getElem (by omega)⟩
        rw [hy] at he
        obtain ⟨cs, h1, h2⟩ := Option.bind_eq_some_iff.1 he
        have hmem : y.1 ∈ elems.map (·.1) := List.mem_map_of_mem (List.mem_of_getElem? hy)
        have := bulk_mem hmem
        exact ⟨cs, y, h1, h2, by omega⟩
      obtain ⟨b, off, spot⟩ := a
      have hspot : spot = none := by
        obtain ⟨cs, y, h1, _, _⟩ := each 0 hn
        have := (World.cells?_some h1).2.2 0 (by decide)
        have hc := (World.cells?_some h1).2.1
        rw [List.getElem?_eq_getElem (by omega)] at this
        simpa [Addr.add] using World.cell?_spot this
      subst hspot
      have hadd : ∀ i j, ((⟨b, off, none⟩ : Addr).add i).add j = ⟨b, off + i + j, none⟩ := fun i j => by
        have e1 : ∀ o i, (⟨b, o, none⟩ : Addr).add i = ⟨b, o + i, none⟩ := fun o i => by unfold Addr.add; split <;> simp_all
        rw [e1, e1]
      refine ⟨b, off, rfl, ?_, ?_⟩
      · obtain ⟨cs, y, h1, _, _⟩ := each 0 hn
        have := World.cells?_block h1 (by decide)
        simpa [Addr.add] using this
      · intro k hk
        obtain ⟨cs, y, h1, h2, h3⟩ := each k hk
        obtain ⟨o, rfl, ok⟩ := open_op h2 h3
        refine ⟨o, ok, fun j u hu => ?_⟩
        have hj : j < 23 := by have := (List.getElem?_eq_some_iff.1 hu).1; rw [Ov.len ok] at this; exact this
        have := (World.cells?_some h1).2.2 j hj
        rw [hadd] at this
        rw [this]
        exact hu
theorem gTabR : Tryd.prog.globalNamed "warden/wardenref02.K" = some 2 := by kernel_rfl
theorem gTabRType : (Tryd.prog.globals[2]?).map (·.type) = some 95 := by kernel_rfl
theorem tabR_of {rest : List (String × DataW Unit)} {W : World} {ps : List MemPlace} (h : DataW.LaidVars Tryd.prog W (("warden/wardenref02.K", Rows.laid_warden_wardenref02_K) :: rest) ps) : TabR W := by
  have hT : Lib.TabIs Tryd.prog W "warden/wardenref02.K" .u32 S.K := tab_vars (rest := rest) gTabR gTabRType Tryd.underlying95 Tryd.underlying25 cells25 cells95 h
  have hc : ∀ i : Nat, i < 64 → W.cell? ⟨2, i, none⟩ = some (.int .u32 (S.K.getD i 0)) := fun i hi => hT.cell gTabR i hi
  exact fun i hi => by rw [Nat.zero_add]; exact hc i hi
end Go.Proofs.YtialckmoigcdeaaDoor
