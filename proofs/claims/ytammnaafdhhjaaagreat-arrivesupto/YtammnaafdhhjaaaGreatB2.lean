import Derived.Lib.ConvBytes
import Derived.Test.YtammnaafdhhjaaaGreatRows
import Derived.Test.YtammnaafdhhjaaaGreatB1
set_option maxHeartbeats 16000000
set_option maxRecDepth 100000
namespace Go.Proofs.YtammnaafdhhjaaaGreat
open Go.RowKit
theorem slice_len {B : Nat} {e : TypeId} {size : Nat} {v : Value} {n : Nat} {xs : List Value} {w : World} (h : w.ownsRow B e size v n xs) : ∃ a c, v = .slice a n c := by
 rcases h.2 with ⟨rfl, rfl⟩ | ⟨g, cap, cur, rfl, _⟩
 ·exact ⟨_, _, rfl⟩
 ·exact ⟨_, _, rfl⟩
theorem S_app (a b : List UInt8) : S a ++ S b = S (a ++ b) := by
 apply ByteArray.ext; simp [S]
theorem enc_len (r : Rc) (hm : mayB r = true) : 3 <= (enc r).length /\ (enc r).length <= 1100 := by
 have h := body_len r hm
 have h1 : 1 <= (body r).length := by
  unfold body
  repeat' split
  all_goals simp
 unfold enc
 rw [List.length_append, n2_len]
 omega
end Go.Proofs.YtammnaafdhhjaaaGreat
