/- Files as values; blocks of the call's own; no function of the program. Files: whole loads, builds, comparisons. -/
import Derived.Test.YteldpapacdbbiaaGreatDoorRBsRLb
import Derived.WalkKit
import Derived.WalkSpells
import Derived.WalkLawsBesides
import Derived.Deep.QuietTactic
import Derived.BigQuiet
import Derived.BigRegion
import Derived.Handy
import Derived.Deep.RegionHeld3
import Derived.Deep.RegionWith
import Derived.Deep.DrawnRows
import Derived.Deep.MidRow
import Derived.Deep.WholeRow
import Derived.Laws.CopyRow
import Derived.Laws.AppendOwnNone
import Derived.Lib.SliceRun
namespace Go.Proofs.YteldpapacdbbiaaGreatDoor
open Go.RowKit

theorem under25 : Tryz.prog.underlying 34 = some (.struct (Tryz.prog.fieldsOf 34)) := by kernel_rfl
theorem size25 : (Tryz.prog.info? 34).map (·.size) = some 19 := by kernel_rfl
end Go.Proofs.YteldpapacdbbiaaGreatDoor
namespace Go.Proofs.YteldpapacdbbiaaGreatDoor
open Go.RowKit
theorem wpList_load_g {ops : Array Oper} {rest : List Oper} {o : Oper} {a : Act} {w : World} {Q : Exit → Act → World → Prop} (hgd : o.guard = none) (x : Operand) (ho : o.op = .load 34 x)
    (g : Nat) {t : TypeId} (f : F) (hx : a.eval x = .pointer (some ⟨g, 0, none⟩)) (hg : Cel w g t f.cs)
    (h : wpList Tryz.prog ops Q rest (a.put o.dst f.v) w) : wpList Tryz.prog ops Q (o :: rest) a w :=
  wpList_load_mid hgd 34 x ho g 0 hx _ _ hg.range under25 rfl (by rw [size25, F.len]) h
theorem wpList_store_g {ops : Array Oper} {rest : List Oper} {o : Oper} {a : Act} {w : World} {Q : Exit → Act → World → Prop} (hgd : o.guard = none) (x y : Operand) (ho : o.op = .store 34 x y)
    (g : Nat) {t : TypeId} (f f' : F) (hx : a.eval x = .pointer (some ⟨g, 0, none⟩)) (hy : a.eval y = f'.v) (hg : Cel w g t f.cs)
    (h : ∀ w', Cel w' g t f'.cs → ButL [g] w w' → w'.heap.size = w.heap.size → wpList Tryz.prog ops Q rest (a.put o.dst undef) w') : wpList Tryz.prog ops Q (o :: rest) a w :=
  wpList_store_st hgd 34 x y ho g f'.cs hx hy hg (by rw [size25, F.len]) (by rw [F.len, F.len]) f'.all h
end Go.Proofs.YteldpapacdbbiaaGreatDoor
