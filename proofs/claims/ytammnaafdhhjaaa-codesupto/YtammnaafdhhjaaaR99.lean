/- Ytammnaafdhhjaaa: Decode of the document. -/
import Derived.Test.YtammnaafdhhjaaaJR92
import Derived.Test.YtammnaafdhhjaaaR96
import Derived.Test.YtammnaafdhhjaaaJR97
namespace Go.Proofs.Ytammnaafdhhjaaa
open Go.RowKit

/-- DECODE, by the document: just as the program's. -/
theorem refDecode_any (l : List UInt8) (w : World) (hl : l.length ≤ 2000000) :
    Calls Try.prog 31 #[.string (S l)] w fun e w' => DecPost w l e w' := by
  by_cases h1 : rdN l 0 1 = 1
  · exact refDec_1 l w (by omega) h1
  by_cases h2 : rdN l 0 1 = 2
  · exact refDec_2 l w (by omega) h2
  by_cases h4 : rdN l 0 1 = 4
  · exact refDec_4 l w (by omega) h4
  by_cases h5 : rdN l 0 1 = 5
  · exact refDec_5 l w (by omega) h5
  by_cases h6 : rdN l 0 1 = 6
  · exact refDec_6 l w hl h6
  by_cases h7 : rdN l 0 1 = 7
  · exact refDec_7 l w (by omega) h7
  by_cases h8 : rdN l 0 1 = 8
  · exact refDec_8 l w (by omega) h8
  exact refDec_x l w (by omega) _ rfl h1 h2 h4 h5 h6 h7 h8
end Go.Proofs.Ytammnaafdhhjaaa
