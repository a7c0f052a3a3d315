/- Arguments that are arrays of words, opened; tables that stand further down the list. -/
import Derived.Test.YtjkkelkblccolaaDoorArgs
import Derived.Test.YtjkkelkblccolaaDoorRTurn
namespace Go.Proofs.YtjkkelkblccolaaDoor
open Go.ChangeShapes Go.WideShapes Go.ChangeAt Go.RowKit

theorem cells27 : Tryd.prog.cellsOf 27 = 8 := by kernel_rfl
theorem cells51 : Tryd.prog.cellsOf 51 = 16 := by kernel_rfl
theorem cells71 : Tryd.prog.cellsOf 71 = 1 := by kernel_rfl
theorem cells79 : Tryd.prog.cellsOf 79 = 64 := by kernel_rfl
theorem ints_of (k : IntKind) : ∀ l : List Value, (∀ i, i < l.length → ∃ z, l[i]? = some (.int k z) ∧ (Lit.int k z).wf = true) → ∃ xs : List Int, l = xs.map (Value.int k) ∧ ∀ x ∈ xs, (Lit.int k x).wf = true
  | [], _ => ⟨[], rfl, fun x hx => by cases hx⟩
  | v :: l, h => by
    obtain ⟨z, hz, hw⟩ := h 0 (by simp)
    obtain ⟨xs, rfl, hx⟩ := ints_of k l fun i hi => by simpa using h (i + 1) (by simpa using hi)
    simp at hz
    subst hz
    exact ⟨z :: xs, rfl, by simpa using ⟨hw, hx⟩⟩
/-- An array of integers that came in. -/
theorem open_array {H : Type} {enc : TypeId × Value → H} {W : World} {base b0 n : Nat} {held : Bool} {v : Value} {d : DataW H} {p : List MemPlace} {t e : TypeId} {k : IntKind}
    (ht : Tryd.prog.underlying t = some (.array n e)) (he : Tryd.prog.underlying e = some (.int k)) (hce : Tryd.prog.cellsOf e = 1) (hct : Tryd.prog.cellsOf t = n)
    (hv : Value.okWide Tryd.prog W .any base t v) (h : DataW.Trod enc Tryd.prog W b0 (fun _ => true) held t v d p) :
    ∃ xs : List Int, v = .agg (xs.map (Value.int k)).toArray ∧ xs.length = n ∧ ∀ x ∈ xs, (Lit.int k x).wf = true := by
  obtain ⟨cs, rfl, hsz, _⟩ : ∃ cs, v = .agg cs ∧ cs.size = Tryd.prog.cellsOf t ∧ Row.okWide Tryd.prog W .any base t cs := by
    simpa [Value.okWide, ht] using hv
  rw [hct] at hsz
  obtain ⟨fuel, hf⟩ := h
  obtain ⟨ys, m, _, _, _, hl, hel⟩ := DataW.trod_array ht hf
  obtain ⟨xs, hxs, hw⟩ := ints_of k cs.toList fun i hi => by
    have hi' : i < n := by rw [← hsz]; simpa using hi
    have hE := hel i hi'
    rw [hce, Nat.mul_one, List.getElem?_eq_getElem (by omega)] at hE
    obtain ⟨z, e1, _, e3⟩ := DataW.trod_int he hE
    refine ⟨z, ?_, e3⟩
    have h0 : (((Value.cells (.agg cs)).toList.drop i).take 1)[0]? = some (.int k z) := by rw [e1]; rfl
    simpa [Value.cells, List.getElem?_take, List.getElem?_drop] using h0
  refine ⟨xs, ?_, ?_, hw⟩
  · rw [← hxs]
  · have := congrArg List.length hxs
    simp at this
    omega
theorem vars_tail {P : Program} {W : World} {x : String × DataW Unit} {r : List (String × DataW Unit)} {ps : List MemPlace} (h : DataW.LaidVars P W (x :: r) ps) : ∃ q, DataW.LaidVars P W r q := by
  obtain ⟨n, d⟩ := x
  obtain ⟨g, t, cs, fuel, p, q, _, _, _, _, h, _⟩ := h
  exact ⟨q, h⟩
theorem tab_vars {P : Program} {W : World} {name : String} {k : IntKind} {zs : List Int} {rest : List (String × DataW Unit)} {g : Nat} {t e : TypeId} {n : Nat} {ps : List MemPlace}
    (hg : P.globalNamed name = some g) (hty : (P.globals[g]?).map (·.type) = some t) (ht : P.underlying t = some (.array n e)) (he : P.underlying e = some (.int k)) (hce : P.cellsOf e = 1) (hct : P.cellsOf t = n)
    (h : DataW.LaidVars P W ((name, Lib.tabData k zs) :: rest) ps) : Lib.TabIs P W name k zs := by
  obtain ⟨g', t', cs, fuel, p, q, hg', ht', hvar, hd, _, _⟩ := h
  obtain rfl := Option.some.inj (hg.symm.trans hg')
  obtain rfl := Option.some.inj (hty.symm.trans ht')
  unfold Lib.TabIs
  rw [hvar, ← Lib.cells_of_tab ht he hce hct hd]
theorem gTabR : Tryd.prog.globalNamed "warden/wardenref02.K" = some 0 := by kernel_rfl
theorem gTabRType : (Tryd.prog.globals[0]?).map (·.type) = some 48 := by kernel_rfl
theorem tabR_of {rest : List (String × DataW Unit)} {W : World} {ps : List MemPlace} (h : DataW.LaidVars Tryd.prog W (("warden/wardenref02.K", Rows.laid_warden_wardenref02_K) :: rest) ps) : TabR W := by
  have hT : Lib.TabIs Tryd.prog W "warden/wardenref02.K" .u32 S.K := tab_vars (rest := rest) gTabR gTabRType Tryd.underlying48 Tryd.underlying26 cells26 cells48 h
  have hc : ∀ i : Nat, i < 64 → W.cell? ⟨0, i, none⟩ = some (.int .u32 (S.K.getD i 0)) := fun i hi => hT.cell gTabR i hi
  exact fun i hi => by rw [Nat.zero_add]; exact hc i hi
end Go.Proofs.YtjkkelkblccolaaDoor
