/- MeasureOne. -/
import Derived.Test.YtmomidkodjihjaaDoorMua
import Derived.Test.YtmomidkodjihjaaDoorMub
import Derived.Test.YtmomidkodjihjaaDoorMuc
namespace Go.Proofs.YtmomidkodjihjaaDoor
open Go.RowKit
open H
theorem one_l (W : World) (hT : Tab W) (h2 : 1 < W.heap.size) (ao : Option Addr) (na ca : Nat) (la : List Lv) (hla : la.length = na) (hLa : LL W ao la) (hba : na * 56 ≤ 140737488355328) (hWa : ∀ x ∈ la, LvW x)
    (bo : Option Addr) (nb cb : Nat) (lb : List Lv) (hlb : lb.length = nb) (hLb : LL W bo lb) (hbb : nb * 56 ≤ 140737488355328) (hWb : ∀ x ∈ lb, LvW x) :
    Calls Tryd.prog 5 #[.slice ao na ca, .slice bo nb cb] W fun e W' => e = .returned (.bool true) ∧ Below W.heap.size W W' := by
  by_cases hP : (la.take 6).map plainO = (lb.take 6).map plainO
  · exact one_same W hT h2 ao na ca la hla hLa hba hWa bo nb cb lb hlb hLb hbb hWb hP
  · by_cases hM : sumW (enc ((la.take 6).map plainO)) = sumW (enc ((lb.take 6).map plainO))
    · exact one_pair W hT h2 ao na ca la hla hLa hba hWa bo nb cb lb hlb hLb hbb hWb hP hM
    · exact one_apart W hT h2 ao na ca la hla hLa hba hWa bo nb cb lb hlb hLb hbb hWb hP hM
end Go.Proofs.YtmomidkodjihjaaDoor
