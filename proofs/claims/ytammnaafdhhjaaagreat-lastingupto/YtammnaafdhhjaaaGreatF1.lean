import Derived.Laws.Cover2
import Derived.Laws.FloatArith
set_option maxHeartbeats 16000000
set_option maxRecDepth 100000
namespace Go.Proofs.YtammnaafdhhjaaaGreat
namespace Fl
open Ieee
def W (q : Nat) (e : Int) : Nat := (e + 1074).toNat * 4503599627370496 + q
structure Nm (q : Nat) (e : Int) : Prop where
  lo : 4503599627370496 <= q
  hi : q < 9007199254740992
  least : -1074 <= e
  most : e <= 971
end Fl
end Go.Proofs.YtammnaafdhhjaaaGreat
