/- A machine that came in, opened. -/
import Derived.Test.YteldpapacdbbiaaGreatDoorLw
namespace Go.Proofs.YteldpapacdbbiaaGreatDoor
open Go.ChangeShapes Go.WideShapes Go.ChangeAt Go.RowKit
set_option maxRecDepth 100000
theorem cells26 : Tryz.prog.cellsOf 26 = 19 := by kernel_rfl
theorem cells24 : Tryz.prog.cellsOf 24 = 15 := by kernel_rfl
theorem cells28 : Tryz.prog.cellsOf 28 = 23 := by kernel_rfl
theorem cells74 : Tryz.prog.cellsOf 62 = 4 := by kernel_rfl
theorem cells46 : Tryz.prog.cellsOf 59 = 2 := by kernel_rfl
theorem cells72 : Tryz.prog.cellsOf 60 = 1 := by kernel_rfl
theorem cellsLs : Tryz.prog.cellsOf 22 = 1 := by kernel_rfl
theorem bytes74 : Tryz.prog.bytesOf 62 = 48 := by kernel_rfl
theorem under74 : Tryz.prog.underlying 62 = some (.struct (Tryz.prog.fieldsOf 62)) := by kernel_rfl
theorem under46 : Tryz.prog.underlying 59 = some (.struct (Tryz.prog.fieldsOf 59)) := by kernel_rfl
theorem under72 : Tryz.prog.underlying 60 = some (.slice 23) := by kernel_rfl
theorem underLs : Tryz.prog.underlying 22 = some (.slice 62) := by kernel_rfl
theorem lit_i64 {n : Int} (h : (Lit.int .i64 n).wf = true) : -9223372036854775808 ≤ n ∧ n ≤ 9223372036854775807 := by
  simp only [Lit.wf, IntKind.min, IntKind.max, IntKind.signed, IntKind.bits, Bool.and_eq_true] at h
  obtain ⟨h1, h2⟩ := h
  simp at h1 h2
  omega
theorem pickA {α : Type} [Inhabited α] {Q : Nat → α → Prop} (n : Nat) (h : ∀ k, k < n → ∃ x, Q k x) : ∃ f : Nat → α, ∀ k, k < n → Q k (f k) :=
  ⟨fun k => if hk : k < n then (h k hk).choose else default, fun k hk => by simp only [hk, dif_pos]; exact (h k hk).choose_spec⟩
theorem open_file {H : Type} {enc : TypeId × Value → H} {W : World} {b0 fuel : Nat} {sp : Nat → Bool} {held : Bool} {cs : List Value} {y : DataW H × List MemPlace}
    (h : DataW.trod enc Tryz.prog W b0 sp held fuel 26 cs = some y) : ∃ f : F, cs = f.cs ∧ f.U := by
  obtain ⟨xs, m, rfl, hy, hlen, hn, hel⟩ := DataW.trod_struct under27 h
  rw [cells26] at hlen
  have hsz : xs.length = 5 := hn
  match xs, hsz with
  | [x0, x1, x2, x3, x4], _ =>
    have e0 : DataW.trod enc Tryz.prog W b0 sp held m 24 ((cs.drop 0).take (Tryz.prog.cellsOf 24)) = some x0 := hel 0 _ rfl
    have e1 : DataW.trod enc Tryz.prog W b0 sp held m 23 ((cs.drop 15).take (Tryz.prog.cellsOf 23)) = some x1 := hel 1 _ rfl
    have e2 : DataW.trod enc Tryz.prog W b0 sp held m 4 ((cs.drop 16).take (Tryz.prog.cellsOf 4)) = some x2 := hel 2 _ rfl
    have e3 : DataW.trod enc Tryz.prog W b0 sp held m 4 ((cs.drop 17).take (Tryz.prog.cellsOf 4)) = some x3 := hel 3 _ rfl
    have e4 : DataW.trod enc Tryz.prog W b0 sp held m 4 ((cs.drop 18).take (Tryz.prog.cellsOf 4)) = some x4 := hel 4 _ rfl
    rw [cells24] at e0
    rw [cells22] at e1
    rw [cells4] at e2 e3 e4
    obtain ⟨q1, g1, _, k1⟩ := DataW.trod_int under22 (show _ = some x1 from e1)
    obtain ⟨q2, g2, _⟩ := DataW.trod_bool under4 (show _ = some x2 from e2)
    obtain ⟨q3, g3, _⟩ := DataW.trod_bool under4 (show _ = some x3 from e3)
    obtain ⟨q4, g4, _⟩ := DataW.trod_bool under4 (show _ = some x4 from e4)
    obtain ⟨ys, m', rfl, hy0, hl0, hn0, hel0⟩ := DataW.trod_array under23 e0
    rw [cells22] at hel0
    have hk : ∀ k, k < 15 → ∃ n : Int, cs[k]? = some (.int .u32 n) ∧ 0 ≤ n ∧ n < 4294967296 := fun k hk => by
      have he := hel0 k hk
      rw [List.getElem?_eq_getElem (by omega)] at he
      obtain ⟨q, g, _, hq⟩ := DataW.trod_int under22 he
      refine ⟨q, ?_, lit_u32 hq⟩
      have := take_one g
      rw [Nat.mul_one, List.drop_zero, List.getElem?_take_of_lt hk] at this
      exact this
    refine ⟨⟨fun k => if hk' : k < 15 then (hk k hk').choose else 0, q1, q2, q3, q4⟩, ?_, ⟨fun k => ?_, (lit_u32 k1).1, (lit_u32 k1).2⟩⟩
    · apply List.ext_getElem?
      intro j
      rcases (show j < 15 ∨ j = 15 ∨ j = 16 ∨ j = 17 ∨ j = 18 ∨ 19 ≤ j by omega) with hj | rfl | rfl | rfl | rfl | hj
      · rw [F.at _ j hj]
        simp only [hj, dif_pos]
        exact (hk j hj).choose_spec.1
      · rw [F.at15]; exact take_one g1
      · rw [F.at16]; exact take_one g2
      · rw [F.at17]; exact take_one g3
      · rw [F.at18]; exact take_one g4
      · rw [List.getElem?_eq_none (by omega), List.getElem?_eq_none (by rw [F.len]; omega)]
    · show 0 ≤ (if hk' : k < 15 then (hk k hk').choose else 0) ∧ (if hk' : k < 15 then (hk k hk').choose else 0) < 4294967296
      by_cases hk' : k < 15
      · simp only [hk', dif_pos]
        exact (hk k hk').choose_spec.2
      · simp only [hk', dif_neg, not_false_eq_true]
        decide
theorem open_words {H : Type} {enc : TypeId × Value → H} {W : World} {fuel : Nat} {held : Bool} {cs0 : List Value} {y0 : DataW H × List MemPlace}
    (hf : DataW.trod enc Tryz.prog W 0 (fun _ => true) held fuel 60 cs0 = some y0) :
    ∃ (ao : Option Addr) (n cp : Nat) (w : Nat → Int), cs0 = [.slice ao n cp] ∧ (0 < n → ∃ b off, ao = some ⟨b, off, none⟩ ∧ b < W.heap.size ∧ ∀ j, j < n → W.cell? ⟨b, off + j, none⟩ = some (.int .u32 (w j))) ∧ ∀ j, j < n → 0 ≤ w j ∧ w j < 4294967296 := by
  obtain ⟨ao, n, cp, b, off, hcs, _, hao, hk, hd⟩ := open_slice under72 cells22 (by decide) hf
  obtain ⟨F, hF⟩ := pick (Q := fun k x => W.cell? ⟨b, off + k, none⟩ = some (.int .u32 x) ∧ (0 ≤ x ∧ x < 4294967296)) n fun k hkn => by
    obtain ⟨cs, m, y, h1, h2⟩ := hk k hkn
    obtain ⟨q, g, _, hq⟩ := DataW.trod_int under22 h2
    refine ⟨q, ?_, lit_u32 hq⟩
    subst g
    have := h1 0 _ rfl
    rw [Nat.mul_one] at this
    exact this
  exact ⟨ao, n, cp, F, hcs, fun hn => ⟨b, off, (hao hn).1, (hao hn).2, fun j hj => (hF j hj).1⟩, fun j hj => (hF j hj).2⟩
theorem open_lay {H : Type} {enc : TypeId × Value → H} {W : World} {fuel : Nat} {held : Bool} {cs : List Value} {y : DataW H × List MemPlace}
    (h : DataW.trod enc Tryz.prog W 0 (fun _ => true) held fuel 62 cs = some y) : ∃ x : Ly, cs = [.bool x.s, .int .i64 x.p, .int .i64 x.o, .slice x.ao x.n x.cp] ∧ LyOk W x := by
  obtain ⟨xs, m, rfl, hy, hlen, hn, hel⟩ := DataW.trod_struct under74 h
  rw [cells74] at hlen
  have hsz : xs.length = 3 := hn
  match xs, hsz with
  | [x0, x1, x2], _ =>
    have e0 : DataW.trod enc Tryz.prog W 0 (fun _ => true) held m 59 ((cs.drop 0).take (Tryz.prog.cellsOf 59)) = some x0 := hel 0 _ rfl
    have e1 : DataW.trod enc Tryz.prog W 0 (fun _ => true) held m 3 ((cs.drop 2).take (Tryz.prog.cellsOf 3)) = some x1 := hel 1 _ rfl
    have e2 : DataW.trod enc Tryz.prog W 0 (fun _ => true) held m 60 ((cs.drop 3).take (Tryz.prog.cellsOf 60)) = some x2 := hel 2 _ rfl
    rw [cells46] at e0
    rw [cells3] at e1
    rw [cells72] at e2
    obtain ⟨ys, m', rfl, hy0, hl0, hn0, hel0⟩ := DataW.trod_struct under46 e0
    have hsz0 : ys.length = 2 := hn0
    match ys, hsz0 with
    | [y0, y1], _ =>
      have f0 : DataW.trod enc Tryz.prog W 0 (fun _ => true) held m' 4 ((((cs.drop 0).take 2).drop 0).take (Tryz.prog.cellsOf 4)) = some y0 := hel0 0 _ rfl
      have f1 : DataW.trod enc Tryz.prog W 0 (fun _ => true) held m' 3 ((((cs.drop 0).take 2).drop 1).take (Tryz.prog.cellsOf 3)) = some y1 := hel0 1 _ rfl
      rw [cells4] at f0
      rw [cells3] at f1
      obtain ⟨q0, g0, _⟩ := DataW.trod_bool under4 (show _ = some y0 from f0)
      obtain ⟨q1, g1, _, _⟩ := DataW.trod_int under3 (show _ = some y1 from f1)
      obtain ⟨q2, g2, _, _⟩ := DataW.trod_int under3 (show _ = some x1 from e1)
      obtain ⟨ao, n, cp, w, g3, h3, h4⟩ := open_words e2
      refine ⟨⟨q0, q1, q2, ao, n, cp, w⟩, ?_, ⟨h3, h4⟩⟩
      match cs, hlen with
      | [c0, c1, c2, c3], _ =>
        simp at g0 g1 g2 g3
        rw [g0, g1, g2, g3]
theorem open_lays {H : Type} {enc : TypeId × Value → H} {W : World} {fuel : Nat} {held : Bool} {cs0 : List Value} {y0 : DataW H × List MemPlace}
    (hf : DataW.trod enc Tryz.prog W 0 (fun _ => true) held fuel 22 cs0 = some y0) :
    ∃ (ao : Option Addr) (n cp b off : Nat) (L : Nat → Ly), cs0 = [.slice ao n cp] ∧ LysAt W ao n b off L ∧ (n = 0 ∨ ∃ elems spare, y0.1 = .slice elems spare ∧ elems.length = n) := by
  obtain ⟨ao, n, cp, b, off, hcs, _, hao, hk, hd⟩ := open_slice underLs cells74 (by decide) hf
  obtain ⟨L, hL⟩ := pickA (α := Ly) (Q := fun k x => W.rangeAt b (off + k * 4) [.bool x.s, .int .i64 x.p, .int .i64 x.o, .slice x.ao x.n x.cp] ∧ LyOk W x) n fun k hkn => by
    obtain ⟨cs, m, y, h1, h2⟩ := hk k hkn
    obtain ⟨x, rfl, hx⟩ := open_lay h2
    exact ⟨x, h1, hx⟩
  refine ⟨ao, n, cp, b, off, L, hcs, ⟨hao, fun j hj => ?_, fun j hj => (hL j hj).2⟩, hd⟩
  have h := (hL j hj).1
  exact ⟨h 0 _ rfl, h 1 _ rfl, h 2 _ rfl, h 3 _ rfl⟩
theorem open_machine {H : Type} {enc : TypeId × Value → H} {W : World} {base : Nat} {v : Value} {d : DataW H} {p : List MemPlace}
    (hv : Value.okWide Tryz.prog W .any base 28 v) (h : DataW.Trod enc Tryz.prog W 0 (fun _ => true) true 28 v d p) (hb : ∀ z ∈ d.weights Tryz.prog 28, z ≤ reachBytes) :
    ∃ (q : Mq) (bk off : Nat) (L : Nat → Ly), v = q.v ∧ q.Ok W bk off L := by
  obtain ⟨cs, rfl, hsz, _⟩ : ∃ cs, v = .agg cs ∧ cs.size = Tryz.prog.cellsOf 28 ∧ Row.okWide Tryz.prog W .any base 28 cs := by
    simpa [Value.okWide, under28] using hv
  obtain ⟨fuel, hf⟩ := h
  obtain ⟨xs, m, rfl, hy, hlen, hn, hel⟩ := DataW.trod_struct under28 hf
  rw [cells28] at hlen
  have hs5 : xs.length = 5 := hn
  match xs, hs5 with
  | [x0, x1, x2, x3, x4], _ =>
    have e0 : DataW.trod enc Tryz.prog W 0 (fun _ => true) true m 3 (((Value.agg cs).cells.toList.drop 0).take (Tryz.prog.cellsOf 3)) = some x0 := hel 0 _ rfl
    have e1 : DataW.trod enc Tryz.prog W 0 (fun _ => true) true m 3 (((Value.agg cs).cells.toList.drop 1).take (Tryz.prog.cellsOf 3)) = some x1 := hel 1 _ rfl
    have e2 : DataW.trod enc Tryz.prog W 0 (fun _ => true) true m 22 (((Value.agg cs).cells.toList.drop 2).take (Tryz.prog.cellsOf 22)) = some x2 := hel 2 _ rfl
    have e3 : DataW.trod enc Tryz.prog W 0 (fun _ => true) true m 3 (((Value.agg cs).cells.toList.drop 3).take (Tryz.prog.cellsOf 3)) = some x3 := hel 3 _ rfl
    have e4 : DataW.trod enc Tryz.prog W 0 (fun _ => true) true m 26 (((Value.agg cs).cells.toList.drop 4).take (Tryz.prog.cellsOf 26)) = some x4 := hel 4 _ rfl
    rw [cells3] at e0 e1 e3
    rw [cellsLs] at e2
    rw [cells26] at e4
    have hcs : (Value.agg cs).cells = cs := by simp [Value.cells]
    rw [hcs] at e0 e1 e2 e3 e4 hlen
    obtain ⟨q0, g0, _, k0⟩ := DataW.trod_int under3 (show _ = some x0 from e0)
    obtain ⟨q1, g1, _, k1⟩ := DataW.trod_int under3 (show _ = some x1 from e1)
    obtain ⟨q3, g3, _, k3⟩ := DataW.trod_int under3 (show _ = some x3 from e3)
    obtain ⟨ao, n, cp, bk, off, L, g2, hk, hd⟩ := open_lays e2
    obtain ⟨f, g4, hF⟩ := open_file e4
    refine ⟨⟨q0, q1, ao, n, cp, q3, f⟩, bk, off, L, ?_, hk, ?_, hF⟩
    · obtain ⟨l⟩ := cs
      simp only at g0 g1 g2 g3 g4 hlen
      show Value.agg _ = Value.agg _
      congr 1
      show l.toArray = _
      congr 1
      have ht : l.drop 4 = f.cs := by rw [← g4, List.take_of_length_le (by simp; omega)]
      match l, hlen with
      | c0 :: c1 :: c2 :: c3 :: r, _ =>
        simp at g0 g1 g2 g3 ht
        rw [g0, g1, g2, g3, ht]
        rfl
    · rcases hd with h0 | ⟨elems, spare, he, hl⟩
      · show ((n : Nat) : Int) ≤ _
        omega
      · have hz := hb ((elems.length + spare.length) * Tryz.prog.bytesOf 62) (by
          have hyd : d = _ := congrArg Prod.fst hy
          rw [hyd]
          simp only [DataW.weights, under28, List.map_cons, List.map_nil]
          rw [show (Tryz.prog.fieldsOf 28).toList.map (·.type) = [3, 3, 22, 3, 26] by kernel_rfl]
          simp only [DataW.weightsEach, he, DataW.weights, underLs]
          simp)
        rw [bytes74] at hz
        simp only [reachBytes] at hz
        show ((n : Nat) : Int) ≤ _
        omega
end Go.Proofs.YteldpapacdbbiaaGreatDoor
