import Derived.Test.YtncnogndopgknaaGreatDoorP43
namespace Go.Proofs.YtncnogndopgknaaGreatDoor
open Go.RowKit
set_option maxRecDepth 40000
set_option maxHeartbeats 4000000
def plcC (ps : List Pie) (k : Nat) : List Value := (List.range k).map fun j => .int .i64 (S.plc ps j : Int)
structure RtIn (W : World) (ps : List Pie) (base i : Nat) (ao : Option Addr) (gp : Nat) : Prop where
  a : AW W
  t : TB W
  p : S.PsOk ps
  i : i < ps.length
  b : base < 4294967296
  u : UAt W ao (S.FW ps base ps.length)
  c : Cel W gp 3 (plcC ps (ps.length + 1))
theorem RtIn.word {W : World} {ps : List Pie} {base i : Nat} {ao : Option Addr} {gp : Nat} (h : RtIn W ps base i ao gp) (m : Nat) (hm : m ≤ S.szp (ps.getD i S.p0)) (h0 : 0 < m) :
    ∃ b o, ao = some ⟨b, o, none⟩ ∧ ∀ j, j < m → ∀ x, Below W.heap.size W x → x.cell? ⟨b, o + (S.plc ps i + j), none⟩ = some (.int .u32 ((S.FW ps base ps.length).getD (S.plc ps i + j) 0 : Nat)) := by
  have hr := S.room h.i
  have hlt : ∀ j, j < m → S.plc ps i + j < (S.FW ps base ps.length).length := fun j hj => by rw [S.FW_len]; omega
  obtain ⟨b, o, rfl, _⟩ := h.u.get (hlt 0 h0)
  refine ⟨b, o, rfl, fun j hj x hx => ?_⟩
  obtain ⟨b', o', he, hc⟩ := (h.u.on hx).get (hlt j hj)
  injection he with he
  injection he with h1 h2
  subst h1 h2
  exact hc
end Go.Proofs.YtncnogndopgknaaGreatDoor
