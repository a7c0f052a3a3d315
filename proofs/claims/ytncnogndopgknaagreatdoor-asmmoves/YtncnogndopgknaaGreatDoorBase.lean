/- What the texts of this seat share: bytes of the call's own, appends. -/
import Derived.Test.YtncnogndopgknaaGreatDoorChecked
import Derived.Test.YtncnogndopgknaaGreatDoorTxt
import Derived.WalkKit
import Derived.WalkSpells
import Derived.WalkLawsBesides
import Derived.Deep.QuietTactic
import Derived.BigQuiet
import Derived.BigRegion
import Derived.Handy
import Derived.Deep.RegionWith
import Derived.Deep.RegionHeld3
import Derived.Deep.MidRow
import Derived.Deep.DrawnRows
import Derived.Lib.AppendStr
import Derived.Lib.UnsafeStr

import Derived.Laws.IdiomStrings
import Derived.Laws.AppendOwnNone
import Derived.Defers
import Derived.Recover
namespace Go.Proofs.YtncnogndopgknaaGreatDoor
open Go.RowKit

theorem ret_int {k : IntKind} {a b : Int} (h : a = b) : Ending.returned (.int k a) = .returned (.int k b) := by rw [h]
theorem ret_bool {a b : Bool} (h : a = b) : Ending.returned (.bool a) = .returned (.bool b) := by rw [h]
theorem Tryz.info5 : (Tryz.prog.info? 5).map (fun i => (i.zero, i.size, i.bytes)) = some (some (.int .u8 0), 1, 1) := by kernel_rfl

theorem byteCells_one (l : List UInt8) : ∀ v ∈ Lib.byteCells l, v.oneCell' = true := by
  intro v hv
  simp only [Lib.byteCells, List.mem_map] at hv
  obtain ⟨b, _, rfl⟩ := hv
  rfl
/-- A list of bytes of the call's own. -/
structure HB (W wr : World) (v : Value) (l : List UInt8) : Prop where
  own : wr.ownsRow W.heap.size 5 1 v l.length (Lib.byteCells l)
  below : Below W.heap.size W wr
theorem HB.start (W : World) : HB W W (.slice none 0 0) [] := ⟨World.ownsRow_nil W _ 5 1, Below.refl _ _⟩
theorem HB.alloc {W wr : World} {v : Value} {l : List UInt8} (h : HB W wr v l) (o : Obj) : HB W (wr.alloc o) v l := ⟨h.own.alloc o, h.below.alloc h.below.size o⟩
theorem HB.grow {W w w' : World} {v v' : Value} {l m : List UInt8} (H : HB W w v l) (h1 : w'.ownsRow W.heap.size 5 1 v' (l.length + m.length) (Lib.byteCells l ++ Lib.byteCells m)) (h2 : w.grownBy w' v.ownBlock) : HB W w' v' (l ++ m) := by
  refine ⟨?_, H.below.grown h2 H.below.size fun g hg => (H.own.lt g hg).1⟩
  rw [Lib.byteCells_append, List.length_append]
  exact h1
/-- append(own, x...), x in a block. -/
theorem wpList_append_bytes {P : Program} {W w : World} {ops : Array Oper} {rest : List Oper} {o : Oper} {a : Act} {Q : Exit → Act → World → Prop} (hgd : o.guard = none) (s x : Operand) (t : TypeId)
    (ho : o.op = .call { callee := .builtin .append, args := #[s, x], argTypes := #[t, t] }) (i : TypeInfo) (ht : P.underlying t = some (.slice 5)) (hi : P.info? 5 = some i) (hz : i.zero = some (.int .u8 0)) (hsize : i.size = 1) (hby : i.bytes = 1)
    (v : Value) (l : List UInt8) (hs : a.eval s = v) (H : HB W w v l) (ad : Addr) (n c : Nat) (m : List UInt8) (hx : a.eval x = .slice (some ad) n c) (hl : m.length = n) (hc : ∀ j u, (Lib.byteCells m)[j]? = some u → w.cell? (ad.add j) = some u) (h63 : l.length + n ≤ 140737488355328)
    (h : ∀ v' w', HB W w' v' (l ++ m) → wpList P ops Q rest (a.put o.dst v') w') : wpList P ops Q (o :: rest) a w := by
  subst hl
  obtain ⟨v', w', hr, h1, h2, _⟩ := run_append_own (P := P) w W.heap.size t o.type 5 i (.int .u8 0) 1 1 ht hi hz hsize hby rfl (by decide) v l.length _ H.own ad m.length c (Lib.byteCells m) (by simp [Lib.byteCells]) hc (byteCells_one m) (by unfold maxLen; omega) (by omega) H.below.size
  refine wpList_plain hgd fun K hK => ?_
  unfold Oper.wp execOp
  simp only [ho, resolve, invoke, builtin, Sem.run_bind, Sem.run_pure, Result.andThen_ok, List.map_toArray, List.map_cons, List.map_nil, hs, hx, hr]
  exact hK _ _ (h _ _ (H.grow h1 h2))
/-- The cells of a block that was laid for an append. -/
theorem cells_new (W : World) (e : TypeId) (C : Array Value) (m : List UInt8) (hC : C = (Lib.byteCells m).toArray) : ∀ j u, (Lib.byteCells m)[j]? = some u → (W.alloc (.cells C e)).cell? ((⟨W.heap.size, 0, none⟩ : Addr).add j) = some u := by
  intro j u hu
  subst hC
  rw [Addr.add_mid]
  rw [World.cell?_alloc_new, Nat.zero_add]
  simpa using hu
end Go.Proofs.YtncnogndopgknaaGreatDoor
