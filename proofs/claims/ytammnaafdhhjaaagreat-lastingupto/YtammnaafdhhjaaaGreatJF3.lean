import Derived.Test.YtammnaafdhhjaaaGreatRows
import Derived.Test.YtammnaafdhhjaaaGreatJW1
import Derived.Test.YtammnaafdhhjaaaGreatF1
set_option maxHeartbeats 16000000
set_option maxRecDepth 100000
namespace Go.Proofs.YtammnaafdhhjaaaGreat
open Go.RowKit
open Ieee (Datum)
theorem run_neg32 (b : Nat) (h0 : 2147483648 <= b) (h1 : b < 4294967296) (w : World) : (Op.unary .neg (.float .f32 b)).run Tryz.prog w = .ok (.float .f32 (b - 2147483648)) w := by
  have e : Op.negFloat .f32 b = b - 2147483648 := by
    obtain ⟨r, rfl⟩ : ∃ r, b = 2 ^ 31 + r := ⟨b - 2147483648, by omega⟩
    have hr : r < 2 ^ 31 := by omega
    show (2 ^ 31 + r) ^^^ 2 ^ 31 = 2 ^ 31 + r - 2147483648
    rw [show 2 ^ 31 + r - 2147483648 = r by omega]
    apply Nat.eq_of_testBit_eq
    intro i
    rw [Nat.testBit_xor, Nat.testBit_two_pow]
    rcases Nat.lt_trichotomy i 31 with h | h | h
    · rw [Nat.testBit_two_pow_add_gt h, show decide (31 = i) = false from decide_eq_false (by omega), Bool.xor_false]
    · subst h
      rw [Nat.testBit_two_pow_add_eq, Nat.testBit_lt_two_pow hr]; rfl
    · have h2 : 2 ^ 31 + r < 2 ^ i := by
        have : 2 ^ 32 <= 2 ^ i := Nat.pow_le_pow_right (by decide) h
        omega
      have h3 : r < 2 ^ i := by omega
      rw [Nat.testBit_lt_two_pow h2, Nat.testBit_lt_two_pow h3, show decide (31 = i) = false from decide_eq_false (by omega)]; rfl
  show Result.ok (Value.float .f32 (Op.negFloat .f32 b)) w = _
  rw [e]
end Go.Proofs.YtammnaafdhhjaaaGreat
namespace Go.Proofs.YtammnaafdhhjaaaGreat
open Go.RowKit
open Ieee (Datum)
def fin32 (b : Nat) : Bool := decide (b % 2147483648 < 2139095040)
theorem order_swap (x y : Nat) : FloatKind.f32.format.order y x = (FloatKind.f32.format.order x y).map Ordering.swap := by
  unfold Ieee.Format.order
  generalize FloatKind.f32.format.read x = a
  generalize FloatKind.f32.format.read y = b
  cases a with
  | nan s f => cases b <;> rfl
  | infinity s => cases b with
    | nan t f => rfl
    | infinity t => cases s <;> cases t <;> rfl
    | number t m e => cases s <;> rfl
  | number s m e => cases b with
    | nan t f => rfl
    | infinity t => cases t <;> rfl
    | number t n f =>
      simp only [Datum.order, Option.map_some, Option.some.injEq]
      rw [Int.min_comm f e]
      exact Std.OrientedCmp.eq_swap
end Go.Proofs.YtammnaafdhhjaaaGreat
namespace Go.Proofs.YtammnaafdhhjaaaGreat
open Go.RowKit
theorem run_neg32' (b : Nat) (h1 : b < 2147483648) (w : World) : (Op.unary .neg (.float .f32 b)).run Tryz.prog w = .ok (.float .f32 (b + 2147483648)) w := by
  have e : Op.negFloat .f32 b = b + 2147483648 := by
    have hr : b < 2 ^ 31 := by omega
    show b ^^^ 2 ^ 31 = b + 2 ^ 31
    rw [Nat.add_comm b]
    apply Nat.eq_of_testBit_eq
    intro i
    rw [Nat.testBit_xor, Nat.testBit_two_pow]
    rcases Nat.lt_trichotomy i 31 with h | h | h
    · rw [Nat.testBit_two_pow_add_gt h, show decide (31 = i) = false from decide_eq_false (by omega), Bool.xor_false]
    · subst h
      rw [Nat.testBit_two_pow_add_eq, Nat.testBit_lt_two_pow hr]; rfl
    · have h2 : 2 ^ 31 + b < 2 ^ i := by
        have : 2 ^ 32 <= 2 ^ i := Nat.pow_le_pow_right (by decide) h
        omega
      have h3 : b < 2 ^ i := by omega
      rw [Nat.testBit_lt_two_pow h2, Nat.testBit_lt_two_pow h3, show decide (31 = i) = false from decide_eq_false (by omega)]; rfl
  show Result.ok (Value.float .f32 (Op.negFloat .f32 b)) w = _
  rw [e]
end Go.Proofs.YtammnaafdhhjaaaGreat
