import Derived.Test.YtammnaafdhhjaaaGreatRows
import Derived.Test.YtammnaafdhhjaaaGreatJW1
import Derived.Test.YtammnaafdhhjaaaGreatJF1
set_option maxHeartbeats 16000000
set_option maxRecDepth 100000
namespace Go.Proofs.YtammnaafdhhjaaaGreat
open Go.RowKit
open Ieee (Datum)
theorem order0 (b : Nat) (h : b % 2147483648 < 2139095040) : FloatKind.f32.format.order b 0 = some (if b % 2147483648 = 0 then .eq else if b / 2147483648 % 2 == 1 then .lt else .gt) := by
 have hr : FloatKind.f32.format.read b = _ := Fl.read32 b h
 have h0 : FloatKind.f32.format.read 0 = .number false 0 (-149) := Fl.read32 0 (by decide)
 have hm : Fl.mOf (b % 2147483648) = 0 ↔ b % 2147483648 = 0 := by unfold Fl.mOf; split <;> omega
 unfold Ieee.Format.order
 rw [hr, h0]
 generalize Fl.pOf (b % 2147483648) = p
 generalize hM : Fl.mOf (b % 2147483648) = m at *
 simp only [Datum.order, Option.some.injEq]
 have hz : Ieee.signed false 0 (-149 - min p (-149)).toNat = 0 := by unfold Ieee.signed; simp
 rw [hz]
 by_cases hb : b % 2147483648 = 0
 ·rw [if_pos hb]
  have : m = 0 := hm.2 hb
  subst this
  unfold Ieee.signed
  split <;> simp
 ·rw [if_neg hb]
  have hm0 : 0 < m := Nat.pos_of_ne_zero (fun e => hb (hm.1 e))
  have hp := Nat.two_pow_pos (p - min p (-149)).toNat
  have hpos : 0 < m <<< (p - min p (-149)).toNat := by rw [Nat.shiftLeft_eq]; exact Nat.mul_pos hm0 hp
  unfold Ieee.signed
  cases hs : (b / 2147483648 % 2 == 1)
  ·simp only [Bool.false_eq_true, if_false]
   rw [Int.compare_eq_gt]; omega
  ·simp only [if_true]
   rw [Int.compare_eq_lt]; omega
theorem run_neg32 (b : Nat) (h0 : 2147483648 <= b) (h1 : b < 4294967296) (w : World) : (Op.unary .neg (.float .f32 b)).run Tryz.prog w = .ok (.float .f32 (b - 2147483648)) w := by
 have e : Op.negFloat .f32 b = b - 2147483648 := by
  obtain ⟨r, rfl⟩ : ∃ r, b = 2 ^ 31 + r := ⟨b - 2147483648, by omega⟩
  have hr : r < 2 ^ 31 := by omega
  show (2 ^ 31 + r) ^^^ 2 ^ 31 = 2 ^ 31 + r - 2147483648
  rw [show 2 ^ 31 + r - 2147483648 = r by omega]
  apply Nat.eq_of_testBit_eq
  intro i
  rw [Nat.testBit_xor, Nat.testBit_two_pow]
  rcases Nat.lt_trichotomy i 31 with h | h | h
  ·rw [Nat.testBit_two_pow_add_gt h, show decide (31 = i) = false from decide_eq_false (by omega), Bool.xor_false]
  ·subst h
   rw [Nat.testBit_two_pow_add_eq, Nat.testBit_lt_two_pow hr]; rfl
  ·have h2 : 2 ^ 31 + r < 2 ^ i := by
    have : 2 ^ 32 <= 2 ^ i := Nat.pow_le_pow_right (by decide) h
    omega
   have h3 : r < 2 ^ i := by omega
   rw [Nat.testBit_lt_two_pow h2, Nat.testBit_lt_two_pow h3, show decide (31 = i) = false from decide_eq_false (by omega)]; rfl
 show Result.ok (Value.float .f32 (Op.negFloat .f32 b)) w = _
 rw [e]
end Go.Proofs.YtammnaafdhhjaaaGreat
namespace Go.Proofs.YtammnaafdhhjaaaGreat
open Go.RowKit
open Ieee (Datum)
def fin32 (b : Nat) : Bool := decide (b % 2147483648 < 2139095040)
theorem order_swap (x y : Nat) : FloatKind.f32.format.order y x = (FloatKind.f32.format.order x y).map Ordering.swap := by
 unfold Ieee.Format.order
 generalize FloatKind.f32.format.read x = a
 generalize FloatKind.f32.format.read y = b
 cases a with
 | nan s f => cases b <;> rfl
 | infinity s => cases b with
  | nan t f => rfl
  | infinity t => cases s <;> cases t <;> rfl
  | number t m e => cases s <;> rfl
 | number s m e => cases b with
  | nan t f => rfl
  | infinity t => cases t <;> rfl
  | number t n f =>
   simp only [Datum.order, Option.map_some, Option.some.injEq]
   rw [Int.min_comm f e]
   exact Std.OrientedCmp.eq_swap
end Go.Proofs.YtammnaafdhhjaaaGreat
namespace Go.Proofs.YtammnaafdhhjaaaGreat
open Go.RowKit
theorem run_neg32' (b : Nat) (h1 : b < 2147483648) (w : World) : (Op.unary .neg (.float .f32 b)).run Tryz.prog w = .ok (.float .f32 (b + 2147483648)) w := by
 have e : Op.negFloat .f32 b = b + 2147483648 := by
  have hr : b < 2 ^ 31 := by omega
  show b ^^^ 2 ^ 31 = b + 2 ^ 31
  rw [Nat.add_comm b]
  apply Nat.eq_of_testBit_eq
  intro i
  rw [Nat.testBit_xor, Nat.testBit_two_pow]
  rcases Nat.lt_trichotomy i 31 with h | h | h
  ·rw [Nat.testBit_two_pow_add_gt h, show decide (31 = i) = false from decide_eq_false (by omega), Bool.xor_false]
  ·subst h
   rw [Nat.testBit_two_pow_add_eq, Nat.testBit_lt_two_pow hr]; rfl
  ·have h2 : 2 ^ 31 + b < 2 ^ i := by
    have : 2 ^ 32 <= 2 ^ i := Nat.pow_le_pow_right (by decide) h
    omega
   have h3 : b < 2 ^ i := by omega
   rw [Nat.testBit_lt_two_pow h2, Nat.testBit_lt_two_pow h3, show decide (31 = i) = false from decide_eq_false (by omega)]; rfl
 show Result.ok (Value.float .f32 (Op.negFloat .f32 b)) w = _
 rw [e]
end Go.Proofs.YtammnaafdhhjaaaGreat
