import Derived.Test.YtildhjiddidghaaGreatDoorP43
namespace Go.Proofs.YtildhjiddidghaaGreatDoor
open Go.RowKit
set_option maxHeartbeats 8000000
set_option maxRecDepth 100000
structure Aq where
  k : Int
  a : Int
  b : Int
  c : Int
  v : Int
  uo : Option Addr
  un : Nat
  uc : Nat
def Aq.cs (q : Aq) : List Value := [.int .i64 q.k, .int .i64 q.a, .int .i64 q.b, .int .i64 q.c, .int .u32 q.v, .slice q.uo q.un q.uc]
structure ActsAt (W : World) (ao : Option Addr) (n : Nat) (q : Nat → Aq) : Prop where
  at_ : 0 < n → ∃ g off, ao = some ⟨g, off, none⟩ ∧ g < W.heap.size ∧ ∀ j, j < n → W.rangeAt g (off + j * 6) (q j).cs
  v : ∀ j, j < n → 0 ≤ (q j).v ∧ (q j).v < 4294967296
theorem ActsAt.row {W w : World} {g off n : Nat} {q : Nat → Aq} (h : ActsAt W (some ⟨g, off, none⟩) n q) (hb : Below W.heap.size W w) {j : Nat} (hj : j < n) : w.rangeAt g (off + j * 6) (q j).cs := by
  obtain ⟨g', off', e, hg, hr⟩ := h.at_ (by omega)
  cases e
  intro i u hu
  have := hr j hj i u hu
  rw [← this]
  unfold World.cell?
  rw [hb.block g hg]
theorem under42 : Tryz.prog.underlying 42 = some (.struct (Tryz.prog.fieldsOf 42)) := by kernel_rfl
theorem size42 : (Tryz.prog.info? 42).map (·.size) = some 6 := by kernel_rfl
end Go.Proofs.YtildhjiddidghaaGreatDoor
