/- Acts and questions that came in, opened. -/
import Derived.Test.YtnmdhnbgikbpoaaLw
import Derived.Test.YtnmdhnbgikbpoaaL4
namespace Go.Proofs.Ytnmdhnbgikbpoaa
open Go.ChangeShapes Go.WideShapes Go.ChangeAt Go.RowKit
theorem collect {α : Type} (Q : Nat → α → Prop) : ∀ n, (∀ k < n, ∃ i, Q k i) → ∃ is : List α, is.length = n ∧ ∀ k (h : k < is.length), Q k is[k]
  | 0, _ => ⟨[], rfl, fun k h => by simp at h⟩
  | n + 1, h => by
    obtain ⟨is, h1, h2⟩ := collect Q n (fun k hk => h k (by omega))
    obtain ⟨i, hi⟩ := h n (by omega)
    refine ⟨is ++ [i], by simp [h1], fun k hk => ?_⟩
    by_cases hkn : k < is.length
    · rw [List.getElem_append_left hkn]; exact h2 k hkn
    · have e : k = n := by simp at hk; omega
      subst e
      rw [List.getElem_append_right (by omega)]
      simpa [h1] using hi
set_option maxRecDepth 100000 in
theorem open_ac {H : Type} {enc : TypeId × Value → H} {W : World} {b0 fuel : Nat} {held : Bool} {cs : List Value} {y : DataW H × List MemPlace}
    (h : DataW.trod enc Try.prog W b0 (fun _ => true) held fuel 50 cs = some y) : ∃ i : Ac, cs = i.cs := by
  obtain ⟨xs, m, rfl, hy, hlen, hn, hel⟩ := DataW.trod_struct under50 h
  rw [cells50] at hlen
  have hsz : xs.length = 5 := hn
  match cs, hlen with
  | [v0, v1, v2, v3, v4], _ =>
    match xs, hsz with
    | [x0, x1, x2, x3, x4], _ =>
      have e0 : DataW.trod enc Try.prog W b0 (fun _ => true) held m 3 (([v0, v1, v2, v3, v4].drop 0).take (Try.prog.cellsOf 3)) = some x0 := hel 0 _ rfl
      rw [cells3] at e0
      have e1 : DataW.trod enc Try.prog W b0 (fun _ => true) held m 3 (([v0, v1, v2, v3, v4].drop 1).take (Try.prog.cellsOf 3)) = some x1 := hel 1 _ rfl
      rw [cells3] at e1
      have e2 : DataW.trod enc Try.prog W b0 (fun _ => true) held m 3 (([v0, v1, v2, v3, v4].drop 2).take (Try.prog.cellsOf 3)) = some x2 := hel 2 _ rfl
      rw [cells3] at e2
      have e3 : DataW.trod enc Try.prog W b0 (fun _ => true) held m 3 (([v0, v1, v2, v3, v4].drop 3).take (Try.prog.cellsOf 3)) = some x3 := hel 3 _ rfl
      rw [cells3] at e3
      have e4 : DataW.trod enc Try.prog W b0 (fun _ => true) held m 32 (([v0, v1, v2, v3, v4].drop 4).take (Try.prog.cellsOf 32)) = some x4 := hel 4 _ rfl
      rw [cells32] at e4
      obtain ⟨q0, g0, _, k0⟩ := DataW.trod_int under3 (show _ = some x0 from e0)
      obtain ⟨q1, g1, _, k1⟩ := DataW.trod_int under3 (show _ = some x1 from e1)
      obtain ⟨q2, g2, _, k2⟩ := DataW.trod_int under3 (show _ = some x2 from e2)
      obtain ⟨q3, g3, _, k3⟩ := DataW.trod_int under3 (show _ = some x3 from e3)
      obtain ⟨q4, g4, _, k4⟩ := DataW.trod_int under32 (show _ = some x4 from e4)
      simp at g0 g1 g2 g3 g4
      subst g0 g1 g2 g3 g4
      exact ⟨⟨q0, q1, q2, q3, q4⟩, rfl⟩
set_option maxRecDepth 100000 in
theorem open_q {H : Type} {enc : TypeId × Value → H} {W : World} {b0 fuel : Nat} {held : Bool} {cs : List Value} {y : DataW H × List MemPlace}
    (h : DataW.trod enc Try.prog W b0 (fun _ => true) held fuel 53 cs = some y) : ∃ i : Int × Int, cs = [.int .i64 i.1, .int .i64 i.2] := by
  obtain ⟨xs, m, rfl, hy, hlen, hn, hel⟩ := DataW.trod_struct under53 h
  rw [cells53] at hlen
  have hsz : xs.length = 2 := hn
  match cs, hlen with
  | [v0, v1], _ =>
    match xs, hsz with
    | [x0, x1], _ =>
      have e0 : DataW.trod enc Try.prog W b0 (fun _ => true) held m 3 (([v0, v1].drop 0).take (Try.prog.cellsOf 3)) = some x0 := hel 0 _ rfl
      rw [cells3] at e0
      have e1 : DataW.trod enc Try.prog W b0 (fun _ => true) held m 3 (([v0, v1].drop 1).take (Try.prog.cellsOf 3)) = some x1 := hel 1 _ rfl
      rw [cells3] at e1
      obtain ⟨q0, g0, _, k0⟩ := DataW.trod_int under3 (show _ = some x0 from e0)
      obtain ⟨q1, g1, _, k1⟩ := DataW.trod_int under3 (show _ = some x1 from e1)
      simp at g0 g1
      subst g0 g1
      exact ⟨(q0, q1), rfl⟩
set_option maxRecDepth 100000 in
theorem open_acts {H : Type} {enc : TypeId × Value → H} {W : World} {base : Nat} {v : Value} {d : DataW H} {p : List MemPlace}
    (hv : Value.okWide Try.prog W .any base 46 v) (h : DataW.Trod enc Try.prog W 0 (fun _ => true) true 46 v d p) :
    ∃ (ao : Option Addr) (n cap : Nat) (is : List (Ac)), v = .slice ao n cap ∧ is.length = n ∧ AtA W ao is ∧ (n = 0 ∨ ∃ elems spare, d = .slice elems spare ∧ elems.length = n) := by
  obtain ⟨ao, n, cap, rfl⟩ := okWide_slice under46 hv
  obtain ⟨fuel, hf⟩ := h
  rcases DataW.trod_slice under46 hf with ⟨hcs, hx⟩ | ⟨a, len, cap', elems, rest, m, rfl, hcs, hx, hb0, hl, hm, hlen, hel, hsp, hns⟩
  · simp [Value.cells] at hcs
    obtain ⟨rfl, rfl, rfl⟩ := hcs
    exact ⟨none, 0, 0, [], rfl, rfl, .inl rfl, .inl rfl⟩
  · simp [Value.cells] at hcs
    obtain ⟨rfl, rfl, rfl⟩ := hcs
    rw [cells50] at hel
    simp only [Prod.mk.injEq] at hx
    have hd : n = 0 ∨ ∃ es sp, d = .slice es sp ∧ es.length = n := .inr ⟨_, _, hx.1, by rw [List.length_map]; exact hlen⟩
    rcases Nat.eq_zero_or_pos n with h0 | hn
    · subst h0
      exact ⟨_, 0, _, [], rfl, rfl, .inl rfl, .inl rfl⟩
    · have each : ∀ k (hk : k < n), ∃ cs y, W.cells? 0 (a.add (k * 5)) 5 = some cs ∧ DataW.trod enc Try.prog W 0 (fun _ => true) true m 50 cs = some y := fun k hk => by
        have he := hel k hk
        obtain ⟨y, hy⟩ : ∃ y, elems[k]? = some y := ⟨elems[k], List.getElem?_eq_getElem (by omega)⟩
        rw [hy] at he
        obtain ⟨cs, h1, h2⟩ := Option.bind_eq_some_iff.1 he
        exact ⟨cs, y, h1, h2⟩
      obtain ⟨b, off, spot⟩ := a
      have hspot : spot = none := by
        obtain ⟨cs, y, h1, _⟩ := each 0 hn
        have := (World.cells?_some h1).2.2 0 (by decide)
        have hc := (World.cells?_some h1).2.1
        rw [List.getElem?_eq_getElem (by omega)] at this
        simpa [Addr.add] using World.cell?_spot this
      subst hspot
      have hadd : ∀ i j, ((⟨b, off, none⟩ : Addr).add i).add j = ⟨b, off + i + j, none⟩ := fun i j => by rw [Addr.add_mid, Addr.add_mid]
      have hblk : b < W.heap.size := by
        obtain ⟨cs, y, h1, _⟩ := each 0 hn
        have := World.cells?_block h1 (by decide)
        simpa [Addr.add] using this
      obtain ⟨is, k1, k2⟩ := collect (fun k (i : Ac) => W.rangeAt b (off + k * 5) i.cs) n (fun k hk => by
        obtain ⟨cs, y, h1, h2⟩ := each k hk
        obtain ⟨i, rfl⟩ := open_ac h2
        refine ⟨i, fun j v hv => ?_⟩
        have hj : j < 5 := (List.getElem?_eq_some_iff.1 hv).1
        have := (World.cells?_some h1).2.2 j hj
        rw [hadd] at this
        rw [this, hv])
      exact ⟨_, n, cap, is, rfl, k1, .inr ⟨b, off, rfl, hblk, fun k h => k2 k h⟩, hd⟩
set_option maxRecDepth 100000 in
theorem open_qs {H : Type} {enc : TypeId × Value → H} {W : World} {base : Nat} {v : Value} {d : DataW H} {p : List MemPlace}
    (hv : Value.okWide Try.prog W .any base 47 v) (h : DataW.Trod enc Try.prog W 0 (fun _ => true) true 47 v d p) :
    ∃ (ao : Option Addr) (n cap : Nat) (is : List (Int × Int)), v = .slice ao n cap ∧ is.length = n ∧ AtQ W ao is ∧ (n = 0 ∨ ∃ elems spare, d = .slice elems spare ∧ elems.length = n) := by
  obtain ⟨ao, n, cap, rfl⟩ := okWide_slice under47 hv
  obtain ⟨fuel, hf⟩ := h
  rcases DataW.trod_slice under47 hf with ⟨hcs, hx⟩ | ⟨a, len, cap', elems, rest, m, rfl, hcs, hx, hb0, hl, hm, hlen, hel, hsp, hns⟩
  · simp [Value.cells] at hcs
    obtain ⟨rfl, rfl, rfl⟩ := hcs
    exact ⟨none, 0, 0, [], rfl, rfl, .inl rfl, .inl rfl⟩
  · simp [Value.cells] at hcs
    obtain ⟨rfl, rfl, rfl⟩ := hcs
    rw [cells53] at hel
    simp only [Prod.mk.injEq] at hx
    have hd : n = 0 ∨ ∃ es sp, d = .slice es sp ∧ es.length = n := .inr ⟨_, _, hx.1, by rw [List.length_map]; exact hlen⟩
    rcases Nat.eq_zero_or_pos n with h0 | hn
    · subst h0
      exact ⟨_, 0, _, [], rfl, rfl, .inl rfl, .inl rfl⟩
    · have each : ∀ k (hk : k < n), ∃ cs y, W.cells? 0 (a.add (k * 2)) 2 = some cs ∧ DataW.trod enc Try.prog W 0 (fun _ => true) true m 53 cs = some y := fun k hk => by
        have he := hel k hk
        obtain ⟨y, hy⟩ : ∃ y, elems[k]? = some y := ⟨elems[k], List.getElem?_eq_getElem (by omega)⟩
        rw [hy] at he
        obtain ⟨cs, h1, h2⟩ := Option.bind_eq_some_iff.1 he
        exact ⟨cs, y, h1, h2⟩
      obtain ⟨b, off, spot⟩ := a
      have hspot : spot = none := by
        obtain ⟨cs, y, h1, _⟩ := each 0 hn
        have := (World.cells?_some h1).2.2 0 (by decide)
        have hc := (World.cells?_some h1).2.1
        rw [List.getElem?_eq_getElem (by omega)] at this
        simpa [Addr.add] using World.cell?_spot this
      subst hspot
      have hadd : ∀ i j, ((⟨b, off, none⟩ : Addr).add i).add j = ⟨b, off + i + j, none⟩ := fun i j => by rw [Addr.add_mid, Addr.add_mid]
      have hblk : b < W.heap.size := by
        obtain ⟨cs, y, h1, _⟩ := each 0 hn
        have := World.cells?_block h1 (by decide)
        simpa [Addr.add] using this
      obtain ⟨is, k1, k2⟩ := collect (fun k (i : Int × Int) => W.rangeAt b (off + k * 2) [.int .i64 i.1, .int .i64 i.2]) n (fun k hk => by
        obtain ⟨cs, y, h1, h2⟩ := each k hk
        obtain ⟨i, rfl⟩ := open_q h2
        refine ⟨i, fun j v hv => ?_⟩
        have hj : j < 2 := (List.getElem?_eq_some_iff.1 hv).1
        have := (World.cells?_some h1).2.2 j hj
        rw [hadd] at this
        rw [this, hv])
      exact ⟨_, n, cap, is, rfl, k1, .inr ⟨b, off, rfl, hblk, fun k h => k2 k h⟩, hd⟩
end Go.Proofs.Ytnmdhnbgikbpoaa
