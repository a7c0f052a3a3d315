/- A tag of RFC 4231, reckoned. -/
import Derived.Test.YtialckmoigcdeaaDoorMKey
namespace Go.Proofs.YtialckmoigcdeaaDoor
open Go.RowKit

set_option maxRecDepth 20000 in
theorem hmac_first : hmac [74, 101, 102, 101] [119, 104, 97, 116, 32, 100, 111, 32, 121, 97, 32, 119, 97, 110, 116, 32, 102, 111, 114, 32, 110, 111, 116, 104, 105, 110, 103, 63] = [1541194054, 3210769742, 1778656294, 144012743, 1509965576, 2636593539, 2649512121, 1693202499] := by decide +kernel
end Go.Proofs.YtialckmoigcdeaaDoor
