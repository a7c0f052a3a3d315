/- Unquote (17) and its deferred closure (34). -/
import Derived.Test.YtncnogndopgknaaGreatDoorUnq
namespace Go.Proofs.YtncnogndopgknaaGreatDoor
open Go.RowKit

theorem own_mono {w : World} {B B' n : Nat} {e : TypeId} {z : Nat} {v : Value} {xs : List Value} (h : w.ownsRow B e z v n xs) (hB : B' ≤ B) : w.ownsRow B' e z v n xs :=
  ⟨h.1, h.2.imp id fun ⟨g, cap, cur, hv, hb, r⟩ => ⟨g, cap, cur, hv, Nat.le_trans hB hb, r⟩⟩
theorem own_set {w : World} {B n : Nat} {e : TypeId} {z : Nat} {v : Value} {xs : List Value} (h : w.ownsRow B e z v n xs) (a : Addr) (ha : a.block < B) (u : Value) : (w.setCell a u).ownsRow B e z v n xs :=
  ⟨h.1, h.2.imp id fun ⟨g, cap, cur, hv, hb, hg, r⟩ => ⟨g, cap, cur, hv, hb, by rw [Below.heap_setCell _ _ _ _ (by omega)]; exact hg, r⟩⟩
theorem own_below {w w' : World} {B n : Nat} {e : TypeId} {z : Nat} {v : Value} {xs : List Value} (h : w.ownsRow B e z v n xs) (hb : Below w.heap.size w w') : w'.ownsRow B e z v n xs :=
  ⟨h.1, h.2.imp id fun ⟨g, cap, cur, hv, hB, hg, r⟩ => ⟨g, cap, cur, hv, hB, by rw [hb.block g (Array.getElem?_eq_some_iff.1 hg).1]; exact hg, r⟩⟩
theorem own_form {w : World} {B n : Nat} {e : TypeId} {z : Nat} {v : Value} {xs : List Value} (h : w.ownsRow B e z v n xs) : ∃ ao c, v = .slice ao n c := by
  rcases h.2 with ⟨rfl, rfl⟩ | ⟨g, cap, cur, rfl, _⟩
  · exact ⟨none, 0, rfl⟩
  · exact ⟨_, _, rfl⟩
theorem HB.on {W wr w : World} {v : Value} {l : List UInt8} (h : HB W wr v l) (hb : Below wr.heap.size wr w) : HB W w v l := ⟨own_below h.own hb, h.below.trans (hb.mono h.below.size)⟩

theorem hmf (fn : Fn) (first cap : Array Value) (w : World) : (Instr.makeFunc fn first cap).run Tryz.prog w = .ok (.func fn first cap) w := rfl

def UqPost (W : World) (r : Option (List UInt8)) (e : Ending) (W' : World) : Prop :=
  match r with
  | none => e = .returned (.tuple #[.slice none 0 0, .int .i64 40]) ∧ Below W.heap.size W W'
  | some b => ∃ v, e = .returned (.tuple #[v, .int .i64 0]) ∧ HB W W' v b
theorem UqPost.bad {W W' : World} {r : Option (List UInt8)} (hr : r = none) (hb : Below W.heap.size W W') : UqPost W r (.returned (.tuple #[.slice none 0 0, .int .i64 40])) W' := by
  subst hr; exact ⟨rfl, hb⟩
theorem UqPost.good {W W' : World} {r : Option (List UInt8)} {b : List UInt8} {v : Value} (hr : r = some b) (hb : HB W W' v b) : UqPost W r (.returned (.tuple #[v, .int .i64 0])) W' := by
  subst hr; exact ⟨_, rfl, hb⟩
/-- The two results' cells, and what a world behind them keeps. -/
theorem two_cells {W w1 : World} (o1 o2 : Value) (t1 t2 : TypeId) (hb : Below (W.heap.size + 2) ((W.alloc (.cells #[o1] t1)).alloc (.cells #[o2] t2)) w1) :
    w1.cell? ⟨W.heap.size, 0, none⟩ = some o1 ∧ w1.frozen? ⟨W.heap.size, 0, none⟩ = false ∧ w1.cell? ⟨W.heap.size + 1, 0, none⟩ = some o2 ∧ w1.frozen? ⟨W.heap.size + 1, 0, none⟩ = false ∧ Below W.heap.size W w1 := by
  refine ⟨?_, ?_, ?_, ?_, ((Below.refl _ _).alloc (Nat.le_refl _) _ |>.alloc (by simp) _).trans (hb.mono (by omega))⟩
  · rw [hb.cell (p := ⟨W.heap.size, 0, none⟩) (by simp)]; simp [go_sem]
  · rw [hb.frozen (p := ⟨W.heap.size, 0, none⟩) (by simp)]; simp [go_sem]
  · rw [hb.cell (p := ⟨W.heap.size + 1, 0, none⟩) (by simp)]; simp [go_sem]
  · rw [hb.frozen (p := ⟨W.heap.size + 1, 0, none⟩) (by simp)]; simp [go_sem]

end Go.Proofs.YtncnogndopgknaaGreatDoor
