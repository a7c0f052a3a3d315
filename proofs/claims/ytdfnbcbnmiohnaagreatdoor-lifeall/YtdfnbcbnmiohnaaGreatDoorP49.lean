import Derived.Test.YtdfnbcbnmiohnaaGreatDoorP48
import Derived.Test.YtdfnbcbnmiohnaaGreatDoorP14
namespace Go.Proofs.YtdfnbcbnmiohnaaGreatDoor
open Go.ChangeShapes Go.WideShapes Go.ChangeAt Go.RowKit
theorem vars_tail {P : Program} {W : World} {x : String × DataW Unit} {r : List (String × DataW Unit)} {ps : List MemPlace} (h : DataW.LaidVars P W (x :: r) ps) : ∃ q, DataW.LaidVars P W r q := by
  obtain ⟨n, d⟩ := x
  obtain ⟨g, t, cs, fuel, p, q, _, _, _, _, h, _⟩ := h
  exact ⟨q, h⟩
theorem tab_vars {P : Program} {W : World} {name : String} {k : IntKind} {zs : List Int} {rest : List (String × DataW Unit)} {g : Nat} {t e : TypeId} {n : Nat} {ps : List MemPlace}
    (hg : P.globalNamed name = some g) (hty : (P.globals[g]?).map (·.type) = some t) (ht : P.underlying t = some (.array n e)) (he : P.underlying e = some (.int k)) (hce : P.cellsOf e = 1) (hct : P.cellsOf t = n)
    (h : DataW.LaidVars P W ((name, Lib.tabData k zs) :: rest) ps) : Lib.TabIs P W name k zs := by
  obtain ⟨g', t', cs, fuel, p, q, hg', ht', hvar, hd, _, _⟩ := h
  obtain rfl := Option.some.inj (hg.symm.trans hg')
  obtain rfl := Option.some.inj (hty.symm.trans ht')
  unfold Lib.TabIs
  rw [hvar, ← Lib.cells_of_tab ht he hce hct hd]
theorem gTabR : Tryz.prog.globalNamed "warden/wardenref02.K" = some 1 := by kernel_rfl
theorem gTabRType : (Tryz.prog.globals[1]?).map (·.type) = some 234 := by kernel_rfl
theorem tabR_of {rest : List (String × DataW Unit)} {W : World} {ps : List MemPlace} (h : DataW.LaidVars Tryz.prog W (("warden/wardenref02.K", Rows.laid_warden_wardenref02_K) :: rest) ps) : H.TabR W := by
  have hT : Lib.TabIs Tryz.prog W "warden/wardenref02.K" .u32 H.S.K := tab_vars (rest := rest) gTabR gTabRType Tryz.underlying234 Tryz.underlying43 celW celA h
  have hc : ∀ i : Nat, i < 64 → W.cell? ⟨1, i, none⟩ = some (.int .u32 (H.S.K.getD i 0)) := fun i hi => hT.cell gTabR i hi
  exact fun i hi => by rw [Nat.zero_add]; exact hc i hi
end Go.Proofs.YtdfnbcbnmiohnaaGreatDoor
