/- A program that is being read: its block, its rows, its map. -/
import Derived.Test.YtncnogndopgknaaGreatDoorAs6
import Derived.Maps.OwnSet
import Derived.Maps.Views
import Derived.StringKeys
namespace Go.Proofs.YtncnogndopgknaaGreatDoor
open Go.RowKit
/-! ### The map of places -/
theorem elem_inv {P : Program} {e : TypeId} {q : IntKind} {v : Value} {z : DataW Unit} {ps : List MemPlace} (he : P.underlying e = some (.int q)) (h : plainElem P e v = some (z, ps)) : ∃ a : Int, v = .int q a ∧ z = .lit (.int q a) := by
  obtain ⟨a, h1, h2, _⟩ := plainElem_int_inv he h
  exact ⟨a, h1, (Prod.mk.inj h2).1⟩
theorem lit_inj {q : IntKind} {a b : Int} (h : (DataW.lit (.int q a) : DataW Unit) = .lit (.int q b)) : a = b := by injection h with h; injection h
theorem str_ne {a b : List UInt8} (h : a ≠ b) : (Lit.string b) ≠ .string a := fun hh => h (by injection hh with hh; exact hh.symm)
def MapIs (w : World) (gm : Nat) (labs : List (List UInt8 × Nat)) : Prop := ∃ D : DataW Unit, w.ownsMap Tryz.prog 9 (plainElem Tryz.prog 3) gm labs.length D ∧ (∀ s, Maps.has D (.string s) = S.has labs s) ∧ (∀ s v, S.look labs s = some v → D.atKey (.string s) (.lit (.int .i64 0)) = .lit (.int .i64 (v : Int)))
theorem MapIs.made (w : World) : MapIs (w.alloc (.map #[] 0)) w.heap.size [] := ⟨.map [], World.ownsMap_made w _ _ _, fun s => rfl, fun s v h => by cases h⟩
theorem MapIs.block {w w' : World} {gm : Nat} {labs : List (List UInt8 × Nat)} (h : MapIs w gm labs) (hb : w'.heap[gm]? = w.heap[gm]?) : MapIs w' gm labs := by
  obtain ⟨D, ⟨es, clock, h1, h2⟩, h3⟩ := h
  exact ⟨D, ⟨es, clock, hb.trans h1, h2⟩, h3⟩
theorem MapIs.lt {w : World} {gm : Nat} {labs : List (List UInt8 × Nat)} (h : MapIs w gm labs) : gm < w.heap.size := by
  obtain ⟨D, h1, _⟩ := h
  exact h1.lt
theorem MapIs.isMap {w : World} {gm : Nat} {labs : List (List UInt8 × Nat)} (h : MapIs w gm labs) : ∃ es clock, w.heap[gm]? = some (.map es clock) := by
  obtain ⟨D, ⟨es, clock, h1, _⟩, _⟩ := h
  exact ⟨es, clock, h1⟩
theorem MapIs.look {w : World} {gm : Nat} {labs : List (List UInt8 × Nat)} (h : MapIs w gm labs) (s : List UInt8) (hs : s.length ≤ 1000000000) :
    ∃ v : Int, (Instr.lookup 74 (.map (some gm)) (.string ⟨s.toArray⟩) true).run Tryz.prog w = .ok (.tuple #[.int .i64 v, .bool (S.has labs s)]) w ∧ ∀ u, S.look labs s = some u → v = (u : Int) := by
  obtain ⟨D, h1, h2, h3⟩ := h
  have hz : (zeroValue 3).run Tryz.prog w = .ok (.int .i64 0) w := Tryz.zeroValue3 w
  obtain ⟨v, ps, hr, hv⟩ := h1.look_ok (Maps.string_keyed Tryz.underlying9) Tryz.underlying74 hz (zd := .lit (.int .i64 0)) (zp := []) (plainElem_int Tryz.underlying3 (by decide)) (WideMaps.keyOf_string_mk Tryz.underlying9 (s := ⟨s.toArray⟩) (by simp [ByteArray.size, maxLen]; omega))
  have e0 : (⟨s.toArray⟩ : ByteArray).data.toList = s := rfl
  rw [e0] at hr hv
  rw [h2 s] at hr
  have hvi : ∃ a : Int, v = .int .i64 a ∧ D.atKey (.string s) (.lit (.int .i64 0)) = .lit (.int .i64 a) := elem_inv Tryz.underlying3 hv
  obtain ⟨a, rfl, ha⟩ := hvi
  refine ⟨a, hr, fun u hu => ?_⟩
  have h4 : (DataW.lit (.int .i64 a) : DataW Unit) = .lit (.int .i64 (u : Int)) := ha.symm.trans (h3 s u hu)
  exact lit_inj h4
theorem S.has_snoc (labs : List (List UInt8 × Nat)) (n : List UInt8) (p : Nat) (s : List UInt8) : S.has (labs ++ [(n, p)]) s = (S.has labs s || (n == s)) := by simp [S.has]
theorem S.look_has (labs : List (List UInt8 × Nat)) (s : List UInt8) : S.has labs s = (S.look labs s).isSome := by
  unfold S.has S.look
  rw [Option.isSome_map, Bool.eq_iff_iff, List.find?_isSome]
  simp
theorem S.look_snoc (labs : List (List UInt8 × Nat)) (n : List UInt8) (p : Nat) (s : List UInt8) (h : S.has labs n = false) : S.look (labs ++ [(n, p)]) s = if n = s then some p else S.look labs s := by
  unfold S.look
  rw [List.find?_append]
  by_cases hn : n = s
  · subst hn
    have : labs.find? (fun x => x.1 == n) = none := by
      have := S.look_has labs n
      rw [h] at this
      unfold S.look at this
      rw [Option.isSome_map] at this
      exact Option.isNone_iff_eq_none.1 (by rw [← Option.not_isSome, ← this]; rfl)
    rw [this, if_pos rfl]
    simp
  · rw [if_neg hn]
    have : ([(n, p)] : List (List UInt8 × Nat)).find? (fun x => x.1 == s) = none := by simp [hn]
    rw [this, Option.or_none]
theorem MapIs.store {w : World} {gm : Nat} {labs : List (List UInt8 × Nat)} (h : MapIs w gm labs) (hl : labs.length ≤ 1000000000) (s : List UInt8) (hs : s.length ≤ 1000000000) (hn : S.has labs s = false) (p : Nat) (hp : p ≤ 2048) :
    ∃ w', (Instr.mapUpdate 74 (.map (some gm)) (.string ⟨s.toArray⟩) (.int .i64 (p : Int))).run Tryz.prog w = .ok () w' ∧ MapIs w' gm (labs ++ [(s, p)]) ∧ w.mapTurned w' gm := by
  obtain ⟨D, h1, h2, h3⟩ := h
  have hw : (Lit.int .i64 (p : Int)).wf = true := by simp [Lit.wf, IntKind.min, IntKind.max, IntKind.signed, IntKind.bits]; omega
  obtain ⟨w', hr, ho, ht⟩ := h1.store (Maps.string_keyed Tryz.underlying9) Tryz.underlying74 (by unfold maxLen; omega) (WideMaps.keyOf_string_mk Tryz.underlying9 (s := ⟨s.toArray⟩) (by simp [ByteArray.size, maxLen]; omega)) (plainElem_int (H := Unit) Tryz.underlying3 hw)
  have e0 : (⟨s.toArray⟩ : ByteArray).data.toList = s := rfl
  rw [e0] at ho
  refine ⟨w', hr, ⟨_, by rw [List.length_append]; exact ho, fun x => ?_, fun x v hx => ?_⟩, ht⟩
  · rw [S.has_snoc]
    by_cases hxs : s = x
    · subst hxs
      rw [Maps.has_put_same (k := .string s) h1.isMap (show WideAt.IsKeyLit (.string s) from trivial)]
      simp
    · rw [Maps.has_put_other (str_ne hxs), h2 x]
      have : (s == x) = false := by simp [hxs]
      rw [this, Bool.or_false]
  · rw [S.look_snoc _ _ _ _ hn] at hx
    by_cases hxs : s = x
    · subst hxs
      rw [if_pos rfl] at hx
      cases hx
      rw [Maps.atKey_put_same (k := .string s) h1.isMap (show WideAt.IsKeyLit (.string s) from trivial)]
    · rw [if_neg hxs] at hx
      rw [Maps.atKey_put_other (str_ne hxs)]
      exact h3 x v hx
end Go.Proofs.YtncnogndopgknaaGreatDoor
