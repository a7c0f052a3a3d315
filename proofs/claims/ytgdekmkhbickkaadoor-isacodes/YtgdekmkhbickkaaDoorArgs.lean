/- Arguments opened: words, instructions, lists of them. -/
import Derived.Test.YtgdekmkhbickkaaDoorLaw
import Derived.Test.YtgdekmkhbickkaaDoorBk
import Derived.SizedLaws
import Derived.Lib.SmallJoins
namespace Go.Proofs.YtgdekmkhbickkaaDoor
open Go.ChangeShapes Go.WideShapes Go.ChangeAt Go.RowKit

theorem bytes31 : Tryd.prog.bytesOf 31 = 4 := by kernel_rfl
theorem bytes27 : Tryd.prog.bytesOf 27 = 48 := by kernel_rfl
theorem cells3 : Tryd.prog.cellsOf 3 = 1 := by kernel_rfl
theorem cells21 : Tryd.prog.cellsOf 21 = 1 := by kernel_rfl
theorem cells24 : Tryd.prog.cellsOf 24 = 1 := by kernel_rfl
theorem cells25 : Tryd.prog.cellsOf 25 = 1 := by kernel_rfl
theorem cells27 : Tryd.prog.cellsOf 27 = 6 := by kernel_rfl

structure Ins.ok (i : Ins) : Prop where
  op : -9223372036854775808 ≤ i.op ∧ i.op < 9223372036854775808
  cond : -9223372036854775808 ≤ i.cond ∧ i.cond < 9223372036854775808
  a : -9223372036854775808 ≤ i.a ∧ i.a < 9223372036854775808
  b : -9223372036854775808 ≤ i.b ∧ i.b < 9223372036854775808
  c : -9223372036854775808 ≤ i.c ∧ i.c < 9223372036854775808
  imm : -2147483648 ≤ i.imm ∧ i.imm < 2147483648
theorem open_words {H : Type} {enc : TypeId × Value → H} {W : World} {base b0 : Nat} {held : Bool} {v : Value} {d : DataW H} {p : List MemPlace}
    (hv : Value.okWide Tryd.prog W .any base 22 v) (h : DataW.Trod enc Tryd.prog W b0 (fun _ => true) held 22 v d p) :
    ∃ ao n cap xs, v = .slice ao n cap ∧ xs.length = n ∧ (∀ x ∈ xs, 0 ≤ x ∧ x < 4294967296) ∧ AtU W ao xs ∧ (n = 0 ∨ ∃ elems spare, d = .slice elems spare ∧ elems.length = n) := by
  obtain ⟨ao, n, cap, rfl⟩ := okWide_slice Tryd.underlying22 hv
  obtain ⟨fuel, hf⟩ := h
  rcases open_ints Tryd.underlying22 Tryd.underlying31 cells31 hf with ⟨hcs, hx⟩ | ⟨x, l, c, zs, hcs, hb, hl, hm, hz, hx, hcell, hwz⟩
  · simp [Value.cells] at hcs
    obtain ⟨rfl, rfl, rfl⟩ := hcs
    exact ⟨none, 0, 0, [], rfl, rfl, fun x hx => by simp at hx, .inl rfl, .inl rfl⟩
  · simp [Value.cells] at hcs
    obtain ⟨rfl, rfl, rfl⟩ := hcs
    have hz' : n ≤ zs.length := by split at hz <;> omega
    have hlen : (zs.take n).length = n := by simp; omega
    refine ⟨some x, n, cap, zs.take n, rfl, hlen, fun y hy => by have := bounds_u32 (hwz y (List.mem_of_mem_take hy)); omega, ?_, ?_⟩
    · rcases Nat.eq_zero_or_pos n with rfl | hn
      · exact .inl (by simp)
      · obtain ⟨b, off, spot⟩ := x
        have h0 := hcell 0 (by omega)
        have hspot : spot = none := by simpa [Addr.add] using World.cell?_spot h0
        subst hspot
        refine .inr ⟨b, off, rfl, ?_, ?_⟩
        · rcases Nat.lt_or_ge b W.heap.size with h | h
          · exact h
          · simp [Addr.add, World.cell?, Array.getElem?_eq_none h] at h0
        · intro i hi
          rw [hlen] at hi
          have := hcell i (by omega)
          have e1 : (⟨b, off, none⟩ : Addr).add i = ⟨b, off + i, none⟩ := by unfold Addr.add; split <;> simp_all
          rw [e1] at this
          rw [this, List.getElem_take, List.getD_eq_getElem?_getD, List.getElem?_eq_getElem (by omega)]
          rfl
    · right
      simp only [Prod.mk.injEq] at hx
      exact ⟨_, _, hx.1, by simp [lits]; omega⟩
set_option maxRecDepth 20000 in
/-- One instruction. -/
theorem open_cs {H : Type} {enc : TypeId × Value → H} {W : World} {b0 fuel : Nat} {held : Bool} {cs : List Value} {y : DataW H × List MemPlace}
    (h : DataW.trod enc Tryd.prog W b0 (fun _ => true) held fuel 27 cs = some y) : ∃ i : Ins, cs = i.cs ∧ i.ok := by
  obtain ⟨xs, m, rfl, hy, hlen, hn, hel⟩ := DataW.trod_struct Tryd.underlying27 h
  rw [cells27] at hlen
  have hsz : xs.length = 6 := hn
  match cs, hlen with
  | [v0, v1, v2, v3, v4, v5], _ =>
    match xs, hsz with
    | [x0, x1, x2, x3, x4, x5], _ =>
      have e0 : DataW.trod enc Tryd.prog W b0 (fun _ => true) held m 24 (([v0, v1, v2, v3, v4, v5].drop 0).take (Tryd.prog.cellsOf 24)) = some x0 := hel 0 _ rfl
      rw [cells24] at e0
      have e1 : DataW.trod enc Tryd.prog W b0 (fun _ => true) held m 25 (([v0, v1, v2, v3, v4, v5].drop 1).take (Tryd.prog.cellsOf 25)) = some x1 := hel 1 _ rfl
      rw [cells25] at e1
      have e2 : DataW.trod enc Tryd.prog W b0 (fun _ => true) held m 3 (([v0, v1, v2, v3, v4, v5].drop 2).take (Tryd.prog.cellsOf 3)) = some x2 := hel 2 _ rfl
      rw [cells3] at e2
      have e3 : DataW.trod enc Tryd.prog W b0 (fun _ => true) held m 3 (([v0, v1, v2, v3, v4, v5].drop 3).take (Tryd.prog.cellsOf 3)) = some x3 := hel 3 _ rfl
      rw [cells3] at e3
      have e4 : DataW.trod enc Tryd.prog W b0 (fun _ => true) held m 3 (([v0, v1, v2, v3, v4, v5].drop 4).take (Tryd.prog.cellsOf 3)) = some x4 := hel 4 _ rfl
      rw [cells3] at e4
      have e5 : DataW.trod enc Tryd.prog W b0 (fun _ => true) held m 21 (([v0, v1, v2, v3, v4, v5].drop 5).take (Tryd.prog.cellsOf 21)) = some x5 := hel 5 _ rfl
      rw [cells21] at e5
      obtain ⟨q0, g0, _, k0⟩ := DataW.trod_int Tryd.underlying24 (show _ = some x0 from e0)
      obtain ⟨q1, g1, _, k1⟩ := DataW.trod_int Tryd.underlying25 (show _ = some x1 from e1)
      obtain ⟨q2, g2, _, k2⟩ := DataW.trod_int Tryd.underlying3 (show _ = some x2 from e2)
      obtain ⟨q3, g3, _, k3⟩ := DataW.trod_int Tryd.underlying3 (show _ = some x3 from e3)
      obtain ⟨q4, g4, _, k4⟩ := DataW.trod_int Tryd.underlying3 (show _ = some x4 from e4)
      obtain ⟨q5, g5, _, k5⟩ := DataW.trod_int Tryd.underlying21 (show _ = some x5 from e5)
      simp at g0 g1 g2 g3 g4 g5
      subst g0 g1 g2 g3 g4 g5
      have b0 := bounds_i64 k0
      have b1 := bounds_i64 k1
      have b2 := bounds_i64 k2
      have b3 := bounds_i64 k3
      have b4 := bounds_i64 k4
      have b5 := bounds_i32 k5
      exact ⟨⟨q0, q1, q2, q3, q4, q5⟩, rfl, ⟨by simp only; omega, by simp only; omega, by simp only; omega, by simp only; omega, by simp only; omega, by simp only; omega⟩⟩
theorem open_instr {H : Type} {enc : TypeId × Value → H} {W : World} {base b0 : Nat} {held : Bool} {v : Value} {d : DataW H} {p : List MemPlace}
    (hv : Value.okWide Tryd.prog W .any base 27 v) (h : DataW.Trod enc Tryd.prog W b0 (fun _ => true) held 27 v d p) : ∃ i : Ins, v = i.v ∧ i.ok := by
  obtain ⟨cs, rfl, hsz, _⟩ : ∃ cs, v = .agg cs ∧ cs.size = Tryd.prog.cellsOf 27 ∧ Row.okWide Tryd.prog W .any base 27 cs := by
    simpa [Value.okWide, Tryd.underlying27] using hv
  obtain ⟨fuel, hf⟩ := h
  obtain ⟨i, hi, hok⟩ := open_cs hf
  refine ⟨i, ?_, hok⟩
  have e : cs.toList = i.cs := by simpa [Value.cells] using hi
  rw [Ins.v_cs, ← e]
theorem collect (Q : Nat → Ins → Prop) : ∀ n, (∀ k < n, ∃ i, Q k i) → ∃ is : List Ins, is.length = n ∧ ∀ k (h : k < is.length), Q k is[k]
  | 0, _ => ⟨[], rfl, fun k h => by simp at h⟩
  | n + 1, h => by
    obtain ⟨is, h1, h2⟩ := collect Q n (fun k hk => h k (by omega))
    obtain ⟨i, hi⟩ := h n (by omega)
    refine ⟨is ++ [i], by simp [h1], fun k hk => ?_⟩
    rw [List.getElem_append]
    split
    · exact h2 k _
    · have : k = n := by simp [h1] at hk; omega
      subst this
      simpa [h1] using hi
set_option maxRecDepth 20000 in
theorem open_instrs {H : Type} {enc : TypeId × Value → H} {W : World} {base : Nat} {v : Value} {d : DataW H} {p : List MemPlace}
    (hv : Value.okWide Tryd.prog W .any base 23 v) (h : DataW.Trod enc Tryd.prog W 0 (fun _ => true) true 23 v d p) :
    ∃ (ao : Option Addr) (n cap : Nat) (is : List Ins), v = .slice ao n cap ∧ is.length = n ∧ (∀ i ∈ is, i.ok) ∧ AtI W ao is ∧ (n = 0 ∨ ∃ elems spare, d = .slice elems spare ∧ elems.length = n) := by
  obtain ⟨ao, n, cap, rfl⟩ := okWide_slice Tryd.underlying23 hv
  obtain ⟨fuel, hf⟩ := h
  rcases DataW.trod_slice Tryd.underlying23 hf with ⟨hcs, hx⟩ | ⟨a, len, cap', elems, rest, m, rfl, hcs, hx, hb0, hl, hm, hlen, hel, hsp, hns⟩
  · simp [Value.cells] at hcs
    obtain ⟨rfl, rfl, rfl⟩ := hcs
    exact ⟨none, 0, 0, [], rfl, rfl, fun i hi => by simp at hi, .inl rfl, .inl rfl⟩
  · simp [Value.cells] at hcs
    obtain ⟨rfl, rfl, rfl⟩ := hcs
    rw [cells27] at hel
    simp only [Prod.mk.injEq] at hx
    have hd : n = 0 ∨ ∃ es sp, d = .slice es sp ∧ es.length = n := .inr ⟨_, _, hx.1, by rw [List.length_map]; exact hlen⟩
    rcases Nat.eq_zero_or_pos n with h0 | hn
    · subst h0
      exact ⟨_, 0, _, [], rfl, rfl, fun i hi => by simp at hi, .inl rfl, .inl rfl⟩
    · have each : ∀ k (hk : k < n), ∃ cs y, W.cells? 0 (a.add (k * 6)) 6 = some cs ∧ DataW.trod enc Tryd.prog W 0 (fun _ => true) true m 27 cs = some y := fun k hk => by
        have he := hel k hk
        obtain ⟨y, hy⟩ : ∃ y, elems[k]? = some y := ⟨elems[k], List.getElem?_eq_getElem (by omega)⟩
        rw [hy] at he
        obtain ⟨cs, h1, h2⟩ := Option.bind_eq_some_iff.1 he
        exact ⟨cs, y, h1, h2⟩
      obtain ⟨b, off, spot⟩ := a
      have hspot : spot = none := by
        obtain ⟨cs, y, h1, _⟩ := each 0 hn
        have := (World.cells?_some h1).2.2 0 (by decide)
        have hc := (World.cells?_some h1).2.1
        rw [List.getElem?_eq_getElem (by omega)] at this
        simpa [Addr.add] using World.cell?_spot this
      subst hspot
      have hadd : ∀ i j, ((⟨b, off, none⟩ : Addr).add i).add j = ⟨b, off + i + j, none⟩ := fun i j => by rw [Addr.add_mid, Addr.add_mid]
      have hblk : b < W.heap.size := by
        obtain ⟨cs, y, h1, _⟩ := each 0 hn
        have := World.cells?_block h1 (by decide)
        simpa [Addr.add] using this
      obtain ⟨is, k1, k2⟩ := collect (fun k i => i.ok ∧ W.rangeAt b (off + k * 6) i.cs) n (fun k hk => by
        obtain ⟨cs, y, h1, h2⟩ := each k hk
        obtain ⟨i, rfl, hi⟩ := open_cs h2
        refine ⟨i, hi, fun j v hv => ?_⟩
        have hj : j < 6 := (List.getElem?_eq_some_iff.1 hv).1
        have := (World.cells?_some h1).2.2 j hj
        rw [hadd] at this
        rw [this, hv])
      refine ⟨_, n, cap, is, rfl, k1, fun i hi => ?_, .inr ⟨b, off, rfl, hblk, fun k h => (k2 k h).2⟩, hd⟩
      obtain ⟨k, hk, rfl⟩ := List.mem_iff_getElem.1 hi
      exact (k2 k hk).1
end Go.Proofs.YtgdekmkhbickkaaDoor
