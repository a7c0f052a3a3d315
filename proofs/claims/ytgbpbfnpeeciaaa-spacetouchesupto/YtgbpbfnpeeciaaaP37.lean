import Derived.Test.YtgbpbfnpeeciaaaP35
import Derived.Test.YtgbpbfnpeeciaaaP36
namespace Go.Proofs.Ytgbpbfnpeeciaaa
open Go.RowKit
set_option maxRecDepth 100000
set_option maxHeartbeats 8000000
theorem under42 : Try.prog.underlying 42 = some (.struct (Try.prog.fieldsOf 42)) := by kernel_rfl
theorem size42 : (Try.prog.info? 42).map (·.size) = some 6 := by kernel_rfl
theorem under40 : Try.prog.underlying 40 = some (.struct (Try.prog.fieldsOf 40)) := by kernel_rfl
theorem under55 : Try.prog.underlying 55 = some (.struct (Try.prog.fieldsOf 55)) := by kernel_rfl
theorem size55 : (Try.prog.info? 55).map (·.size) = some 5 := by kernel_rfl
theorem DS.und_wc (d : DS) (c a b : Int) (j : Nat) : (d.wc c).m.und a b j = d.m.und a b j := by
  induction j with
  | zero => rfl
  | succ j ih => simp only [MS.und, ih]; rfl
theorem DS.lsn_wc (d : DS) (c s : Int) (k : Nat) : (d.wc c).lsn s k = d.lsn s k := by
  induction k with
  | zero => rfl
  | succ k ih => rw [DS.lsn, DS.lsn, ih, DS.und_wc]; rfl
end Go.Proofs.Ytgbpbfnpeeciaaa
