import Derived.Test.YtgbpbfnpeeciaaaP04
import Derived.Test.YtgbpbfnpeeciaaaP05
namespace Go.Proofs.Ytgbpbfnpeeciaaa
open Go.RowKit
set_option maxHeartbeats 4000000
def Mp.al (m : Mp) (a : Int) : Bool := if a = 0 then true else if a = 1 then m.wr else if a = 2 then m.ex else false
def MS.U (m : MS) : Prop := ∀ k j, 0 ≤ wd (m.p k) j ∧ wd (m.p k) j < 4294967296
theorem MS.U.word {m : MS} (h : m.U) (s : Bool) (p off : Int) : 0 ≤ m.word s p off ∧ m.word s p off < 4294967296 := by
  unfold MS.word
  split
  · decide
  · split
    · exact h _ _
    · decide
def MS.f1E (m : MS) (t n : Int) : Int := if m.err true t n = 0 then (if pfE (m.word true t n) = 0 then (if (m.at true (pf (m.word true t n))).isSome then 0 else 90) else pfE (m.word true t n)) else m.err true t n
def MS.f1 (m : MS) (t n : Int) : Int := if m.f1E t n = 0 then pf (m.word true t n) else 0
def MS.f2E (m : MS) (t n : Int) : Int := if m.err true t n = 0 then (if psE (m.word true t n) = 0 then (if (m.at (ps (m.word true t n)).s (ps (m.word true t n)).p).isSome then 0 else 90) else psE (m.word true t n)) else m.err true t n
def MS.f2 (m : MS) (t n : Int) : Mp := if m.f2E t n = 0 then ps (m.word true t n) else Mp.z
theorem MS.read_at (m : MS) (s : Bool) (p off : Int) (s' : Bool) (p' : Int) : (m.read s p off).at s' p' = m.at s' p' := by
  unfold MS.read
  split
  · rfl
  · split <;> rfl
end Go.Proofs.Ytgbpbfnpeeciaaa
