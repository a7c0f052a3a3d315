/- Tables of texts. -/
import Derived.Test.YtncnogndopgknaaDoorLaw6
namespace Go.Proofs.YtncnogndopgknaaDoor
open Go.ChangeShapes Go.WideShapes Go.ChangeAt Go.RowKit

theorem strs_of {rest : List (String × DataW Unit)} {W : World} {ps : List MemPlace} {name : String} {g : Nat} {t : TypeId} {n : Nat} {zs : List (List UInt8)}
    (hg : Tryd.prog.globalNamed name = some g) (hty : (Tryd.prog.globals[g]?).map (·.type) = some t) (ht : Tryd.prog.underlying t = some (.array n 9))
    (h : DataW.LaidVars Tryd.prog W ((name, .agg (zs.map fun z => .lit (.string z))) :: rest) ps) : ∀ i < n, W.cell? ⟨g, i, none⟩ = some (.string ⟨(zs.getD i []).toArray⟩) := by
  obtain ⟨g', t', cs, fuel, p, q, hg', ht', hvar, hd, _, _⟩ := h
  obtain rfl := Option.some.inj (hg.symm.trans hg')
  obtain rfl := Option.some.inj (hty.symm.trans ht')
  have hcell := World.var?_cell hg hvar
  obtain ⟨xs, m, _, hx, hlen, hn, hel⟩ := DataW.trod_array ht hd
  rw [cells9] at hel
  intro i hi
  have he := hel i hi
  have hxn : i < xs.length := by omega
  rw [List.getElem?_eq_getElem hxn] at he
  have h1 : xs.map (·.1) = zs.map fun z => (DataW.lit (.string z) : DataW Unit) := by
    have := (Prod.mk.injEq _ _ _ _).mp hx
    exact (DataW.agg.inj this.1).symm
  have hz : i < zs.length := by have := congrArg List.length h1; simp at this; omega
  have hf : xs[i].1 = .lit (.string zs[i]) := by
    have h2 := congrArg (·[i]?) h1
    simpa [List.getElem?_eq_getElem hxn, List.getElem?_eq_getElem hz] using h2
  obtain ⟨y, hy⟩ : ∃ y, xs[i] = y := ⟨_, rfl⟩
  rw [hy] at he hf
  obtain ⟨z0, q0⟩ := y
  simp only at hf
  subst hf
  have s0 := str_of he
  have g0 := congrArg (·[0]?) s0
  simp [List.getElem?_drop] at g0
  rw [hcell, g0, List.getD_eq_getElem?_getD, List.getElem?_eq_getElem hz]
  rfl
theorem gShapes : Tryd.prog.globalNamed "warden/wardenref05.shapes" = some 2 := by kernel_rfl
theorem gShapesType : (Tryd.prog.globals[2]?).map (·.type) = some 84 := by kernel_rfl
theorem gNames : Tryd.prog.globalNamed "warden/wardenref05.names" = some 1 := by kernel_rfl
theorem gNamesType : (Tryd.prog.globals[1]?).map (·.type) = some 84 := by kernel_rfl
theorem gConds : Tryd.prog.globalNamed "warden/wardenref05.conds" = some 3 := by kernel_rfl
theorem gCondsType : (Tryd.prog.globals[3]?).map (·.type) = some 85 := by kernel_rfl
theorem gCondN : Tryd.prog.globalNamed "warden/isa.condNames" = some 4 := by kernel_rfl
theorem gCondNType : (Tryd.prog.globals[4]?).map (·.type) = some 85 := by kernel_rfl
theorem shapes_of {rest : List (String × DataW Unit)} {W : World} {ps : List MemPlace} (h : DataW.LaidVars Tryd.prog W (("warden/wardenref05.shapes", Rows.laid_warden_wardenref05_shapes) :: rest) ps) : RShapes W :=
  strs_of (zs := shapeT) gShapes gShapesType Tryd.underlying84 h
theorem names_of {rest : List (String × DataW Unit)} {W : World} {ps : List MemPlace} (h : DataW.LaidVars Tryd.prog W (("warden/wardenref05.names", Rows.laid_warden_wardenref05_names) :: rest) ps) : RNames W :=
  strs_of (zs := nameT) gNames gNamesType Tryd.underlying84 h
theorem conds_of {rest : List (String × DataW Unit)} {W : World} {ps : List MemPlace} (h : DataW.LaidVars Tryd.prog W (("warden/wardenref05.conds", Rows.laid_warden_wardenref05_conds) :: rest) ps) : RConds W :=
  strs_of (zs := condT) gConds gCondsType Tryd.underlying85 h
theorem condN_of {rest : List (String × DataW Unit)} {W : World} {ps : List MemPlace} (h : DataW.LaidVars Tryd.prog W (("warden/isa.condNames", Rows.laid_warden_isa_condNames) :: rest) ps) : CNames W :=
  strs_of (zs := condT) gCondN gCondNType Tryd.underlying85 h
end Go.Proofs.YtncnogndopgknaaDoor
