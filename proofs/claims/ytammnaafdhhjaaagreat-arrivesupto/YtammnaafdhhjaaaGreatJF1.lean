import Derived.Laws.Cover2
import Derived.Laws.FloatArith
set_option maxHeartbeats 16000000
set_option maxRecDepth 100000
namespace Go.Proofs.YtammnaafdhhjaaaGreat
namespace Fl
open Ieee
def W (q : Nat) (e : Int) : Nat := (e + 1074).toNat * 4503599627370496 + q
structure Nm (q : Nat) (e : Int) : Prop where
 lo : 4503599627370496 <= q
 hi : q < 9007199254740992
 least : -1074 <= e
 most : e <= 971
end Fl
end Go.Proofs.YtammnaafdhhjaaaGreat
namespace Go.Proofs.YtammnaafdhhjaaaGreat
namespace Fl
open Ieee
theorem s_binade : single.binade = 8388608 := rfl
theorem s_inf : single.infRung = 2139095040 := rfl
theorem s_sign : single.signWeight = 2147483648 := rfl
theorem s_least : single.leastPlace = -149 := rfl
def mOf (r : Nat) : Nat := if r < 8388608 then r else 8388608 + r % 8388608
def pOf (r : Nat) : Int := if r < 8388608 then -149 else -149 + ((r / 8388608 - 1 : Nat) : Int)
theorem read32 (b : Nat) (h : b % 2147483648 < 2139095040) : single.read b = .number (b / 2147483648 % 2 == 1) (mOf (b % 2147483648)) (pOf (b % 2147483648)) := by
 unfold Format.read mOf pOf
 rw [s_binade, s_inf, s_sign, s_least]
 simp only
 split
 ·rfl
 ·first | rfl | (rw [if_pos h])
theorem read32_no (b : Nat) (h : ¬ b % 2147483648 < 2139095040) : (∃ s, single.read b = .infinity s) ∨ ∃ s f, single.read b = .nan s f := by
 unfold Format.read
 rw [s_binade, s_inf, s_sign, s_least]
 simp only
 rw [if_neg (by omega), if_neg h]
 split
 ·exact .inl ⟨_, rfl⟩
 ·exact .inr ⟨_, _, rfl⟩
end Fl
end Go.Proofs.YtammnaafdhhjaaaGreat
