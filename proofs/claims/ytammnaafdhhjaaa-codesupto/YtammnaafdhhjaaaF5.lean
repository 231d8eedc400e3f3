/- Ytammnaafdhhjaaa: the document's pattern at every number; numeric; near. -/
import Derived.Test.YtammnaafdhhjaaaJF3
import Derived.Test.YtammnaafdhhjaaaW5
namespace Go.Proofs.Ytammnaafdhhjaaa
open Go.RowKit
open Ieee (Datum)

def fin32 (b : Nat) : Bool := decide (b % 2147483648 < 2139095040)

set_option maxHeartbeats 400000 in
set_option maxRecDepth 100000 in
theorem pattern_zero (w : World) : Calls Try.prog 67 #[.float .f32 0] w fun e w' => e = .returned (.int .i64 0) ∧ w' = w := by
  have o1 : FloatKind.f32.format.order 0 0 = some .eq := by decide +kernel
  have o2 : FloatKind.f32.format.order 2139095040 0 = some .gt := by decide +kernel
  have q1 := fun w => run_float_arith (P := Try.prog) w .quo 24 .f32 1065353216 0 2139095040 (by decide +kernel)
  go_enter Try.func67, Try.ntmps67
  go_wp2
  go_ret
  exact ⟨rfl, rfl⟩
set_option maxHeartbeats 400000 in
set_option maxRecDepth 100000 in
theorem pattern_nought (w : World) : Calls Try.prog 67 #[.float .f32 2147483648] w fun e w' => e = .returned (.int .i64 2147483648) ∧ w' = w := by
  have o1 : FloatKind.f32.format.order 0 0 = some .eq := by decide +kernel
  have o3 : FloatKind.f32.format.order 2147483648 0 = some .eq := by decide +kernel
  have o2 : FloatKind.f32.format.order 4286578688 0 = some .lt := by decide +kernel
  have q1 := fun w => run_float_arith (P := Try.prog) w .quo 24 .f32 1065353216 2147483648 4286578688 (by decide +kernel)
  have hng := run_neg32 2147483648 (by omega) (by omega)
  go_enter Try.func67, Try.ntmps67
  go_wp2
  go_ret
  exact ⟨rfl, rfl⟩
/-- THE PATTERN IS THE PATTERN. -/
theorem pattern_any (b : Nat) (hb : b < 4294967296) (hf : fin32 b = true) (w : World) : Calls Try.prog 67 #[.float .f32 b] w fun e w' => e = .returned (.int .i64 (b : Int)) ∧ w' = w := by
  have hf' : b % 2147483648 < 2139095040 := of_decide_eq_true hf
  by_cases hs : b < 2147483648
  · have hm : b % 2147483648 = b := by omega
    rw [hm] at hf'
    by_cases h0 : b = 0
    · subst h0; exact pattern_zero w
    · by_cases h1 : b < 8388608
      · refine (pattern_pos_small b (by omega) h1 w).mono ?_
        rintro e w' ⟨rfl, hw⟩; exact ⟨ret_int (by omega), hw⟩
      · refine (pattern_pos_normal b (by omega) hf' w).mono ?_
        rintro e w' ⟨rfl, hw⟩; exact ⟨ret_int (by omega), hw⟩
  · obtain ⟨r, rfl⟩ : ∃ r, b = r + 2147483648 := ⟨b - 2147483648, by omega⟩
    have hm : (r + 2147483648) % 2147483648 = r := by omega
    rw [hm] at hf'
    by_cases h0 : r = 0
    · subst h0; exact pattern_nought w
    · by_cases h1 : r < 8388608
      · refine (pattern_neg_small r (by omega) h1 w).mono ?_
        rintro e w' ⟨rfl, hw⟩; exact ⟨ret_int (by omega), hw⟩
      · refine (pattern_neg_normal r (by omega) hf' w).mono ?_
        rintro e w' ⟨rfl, hw⟩; exact ⟨ret_int (by omega), hw⟩

theorem grownBy_drew' {w w' : World} {row : Option Nat} (h : w.grownBy w' row) : w.grownBy w'.drew row := ⟨h.os, h.tape, h.output, h.size, h.block⟩
theorem order_swap (x y : Nat) : FloatKind.f32.format.order y x = (FloatKind.f32.format.order x y).map Ordering.swap := by
  unfold Ieee.Format.order
  generalize FloatKind.f32.format.read x = a
  generalize FloatKind.f32.format.read y = b
  cases a with
  | nan s f => cases b <;> rfl
  | infinity s => cases b with
    | nan t f => rfl
    | infinity t => cases s <;> cases t <;> rfl
    | number t m e => cases s <;> rfl
  | number s m e => cases b with
    | nan t f => rfl
    | infinity t => cases t <;> rfl
    | number t n f =>
      simp only [Datum.order, Option.map_some, Option.some.injEq]
      rw [Int.min_comm f e]
      exact Std.OrientedCmp.eq_swap

theorem near_same (x : Nat) : ((FloatKind.f32.format.order x 3296329728 == some .gt || FloatKind.f32.format.order x 3296329728 == some .eq) && (FloatKind.f32.format.order x 1148846080 == some .lt || FloatKind.f32.format.order x 1148846080 == some .eq)) = nearB x := by
  unfold nearB
  rw [order_swap 3296329728 x]
  congr 1
  cases FloatKind.f32.format.order 3296329728 x with
  | none => rfl
  | some o => cases o <;> rfl

set_option maxHeartbeats 400000 in
theorem refNear_any (x : Nat) (w : World) : Calls Try.prog 68 #[.float .f32 x] w fun e w' => e = .returned (.bool (nearB x)) ∧ w' = w := by
  have hsame := Hid.mk' (near_same x)
  go_enter Try.func68, Try.ntmps68
  go_wp2
  · go_ret; exact ⟨ret_bool hsame.out, rfl⟩
  · rename_i hn
    go_ret
    refine ⟨ret_bool ?_, rfl⟩
    rw [← hsame.out]
    have h1 : ¬ FloatKind.f32.format.order x 3296329728 = some Ordering.gt := fun e => hn (.inl e)
    have h2 : ¬ FloatKind.f32.format.order x 3296329728 = some Ordering.eq := fun e => hn (.inr e)
    simp [h1, h2]

theorem sub_self32 (b : Nat) (hf : fin32 b = true) : FloatKind.f32.format.sub b b = some 0 := by
  have hr : FloatKind.f32.format.read b = _ := Fl.read32 b (of_decide_eq_true hf)
  unfold Ieee.Format.sub
  rw [hr]
  generalize (b / 2147483648 % 2 == 1) = s
  generalize Fl.mOf (b % 2147483648) = m
  generalize Fl.pOf (b % 2147483648) = p
  have hz : Ieee.signed s m (p - min p p).toNat + Ieee.signed (!s) m (p - min p p).toNat = 0 := by
    unfold Ieee.signed; cases s <;> simp <;> omega
  simp only [Datum.opposite, Datum.sum, hz, if_true, Option.map_some]
  cases s <;> rfl

set_option maxHeartbeats 400000 in
theorem numeric_yes (b : Nat) (hf : fin32 b = true) (w : World) : Calls Try.prog 40 #[.float .f32 b] w fun e w' => e = .returned (.bool true) ∧ w.grownBy w' none := by
  have o1 : FloatKind.f32.format.order 0 0 = some .eq := by decide +kernel
  have q1 := fun w => run_float_arith (P := Try.prog) w .sub 24 .f32 b b 0 (sub_self32 b hf)
  go_enter Try.func40, Try.ntmps40
  go_wp2
  go_ret
  exact ⟨rfl, grownBy_refl _ _⟩

theorem sub_none32 (b : Nat) (hf : fin32 b = false) : FloatKind.f32.format.sub b b = none := by
  have hf' : ¬ b % 2147483648 < 2139095040 := of_decide_eq_false hf
  unfold Ieee.Format.sub
  rcases Fl.read32_no b hf' with ⟨s, h⟩ | ⟨s, f, h⟩
  · have hr : FloatKind.f32.format.read b = .infinity s := h
    rw [hr]
    cases s <;> rfl
  · have hr : FloatKind.f32.format.read b = .nan s f := h
    rw [hr]
    rfl
theorem nan_order (t : Nat) (x y : Nat) : FloatKind.f32.format.order (Question.cut (.nanBits .f32 x y) t) 0 = none := by
  obtain ⟨r, hr⟩ : ∃ r, Question.cut (.nanBits .f32 x y) t = r := ⟨_, rfl⟩
  have hv : r = (t % 2) * 2147483648 + 2139095040 + 1 + (t / 2) % 8388607 := hr.symm
  rw [hr]
  have hm : r % 2147483648 = 2139095041 + (t / 2) % 8388607 := by omega
  have h0 : FloatKind.f32.format.read r = .nan (r / 2147483648 % 2 == 1) (r % 2147483648 - 2139095040) := by
    show Ieee.single.read r = _
    unfold Ieee.Format.read
    rw [Fl.s_binade, Fl.s_inf, Fl.s_sign, Fl.s_least]
    simp only
    rw [if_neg (by omega), if_neg (by omega), if_neg (by omega)]
  unfold Ieee.Format.order
  rw [h0]
  rfl
theorem run_sub_nan (b : Nat) (hf : fin32 b = false) (w : World) : (binOp .sub 24 (.float .f32 b) (.float .f32 b)).run Try.prog w = .ok (.float .f32 (Question.cut (.nanBits .f32 b b) (w.tape w.drawn (.nanBits .f32 b b)))) w.drew := by
  have h := sub_none32 b hf
  have hq : (Question.nanBits FloatKind.f32 b b).forced = false := rfl
  simp [binOp, Op.floatArith, h, hq, Result.andThen]
set_option maxHeartbeats 400000 in
theorem numeric_no (b : Nat) (hf : fin32 b = false) (w : World) : Calls Try.prog 40 #[.float .f32 b] w fun e w' => e = .returned (.bool false) ∧ w.grownBy w' none := by
  have q1 := run_sub_nan b hf
  have q2 := nan_order
  go_enter Try.func40, Try.ntmps40
  go_wp2
  go_ret
  exact ⟨rfl, grownBy_drew' (grownBy_refl _ _)⟩
theorem numeric_any (b : Nat) (w : World) : Calls Try.prog 40 #[.float .f32 b] w fun e w' => e = .returned (.bool (fin32 b)) ∧ w.grownBy w' none := by
  cases h : fin32 b
  · exact numeric_no b h w
  · exact numeric_yes b h w
end Go.Proofs.Ytammnaafdhhjaaa
