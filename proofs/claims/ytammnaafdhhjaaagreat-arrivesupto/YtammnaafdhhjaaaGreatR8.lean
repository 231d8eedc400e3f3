import Derived.BigQuiet
import Derived.Test.YtammnaafdhhjaaaGreatRows
import Derived.Test.YtammnaafdhhjaaaGreatJW6
import Derived.Test.YtammnaafdhhjaaaGreatJP1
import Derived.Test.YtammnaafdhhjaaaGreatB2
import Derived.Test.YtammnaafdhhjaaaGreatJF3
set_option maxHeartbeats 16000000
set_option maxRecDepth 100000
namespace Go.Proofs.YtammnaafdhhjaaaGreat
open Go.RowKit
def fx (n : Nat) : Nat := if fin32 n = true then n else 0
end Go.Proofs.YtammnaafdhhjaaaGreat
