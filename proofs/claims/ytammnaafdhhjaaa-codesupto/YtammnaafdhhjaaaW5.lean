/- Ytammnaafdhhjaaa: which things and records may be. -/
import Derived.Test.YtammnaafdhhjaaaW4
namespace Go.Proofs.Ytammnaafdhhjaaa
open Go.RowKit

def isN (n : Int) : Bool := decide (0 ≤ n) && decide (n ≤ 65535)
def nearB (x : Nat) : Bool := (FloatKind.f32.format.order 3296329728 x == some Ordering.lt || FloatKind.f32.format.order 3296329728 x == some Ordering.eq) && (FloatKind.f32.format.order x 1148846080 == some Ordering.lt || FloatKind.f32.format.order x 1148846080 == some Ordering.eq)
def idB (s n : Int) : Bool := (s == 0 || s == 1) && decide (1 ≤ n) && decide (n ≤ 65535)
def itB (i : It) : Bool := idB i.sh i.nu && nearB i.pl && nearB i.sp
def stB (i : It) : Bool := i.pl == 0 && i.sp == 0
def noIt (i : It) : Bool := (i.sh == 0 && i.nu == 0) && stB i

set_option maxHeartbeats 400000 in
theorem isNumber_any (n : Int) (w : World) :
    Calls Try.prog 52 #[.int .i64 n] w fun e w' => e = .returned (.bool (isN n)) ∧ w' = w := by
  go_enter Try.func52, Try.ntmps52
  go_wp2
  all_goals (go_ret; refine ⟨ret_bool ?_, rfl⟩)
  all_goals (first | (simp [isN, *]; done) | (simp [isN]; omega))

set_option maxHeartbeats 400000 in
theorem near_any (x : Nat) (w : World) :
    Calls Try.prog 78 #[.float .f32 x] w fun e w' => e = .returned (.bool (nearB x)) ∧ w' = w := by
  go_enter Try.func78, Try.ntmps78
  go_wp2
  · go_ret; exact ⟨ret_bool rfl, rfl⟩
  · rename_i hn
    go_ret
    refine ⟨ret_bool ?_, rfl⟩
    have h1 : ¬ FloatKind.f32.format.order 3296329728 x = some Ordering.lt := fun e => hn (.inl e)
    have h2 : ¬ FloatKind.f32.format.order 3296329728 x = some Ordering.eq := fun e => hn (.inr e)
    simp [nearB, h1, h2]

set_option maxHeartbeats 400000 in
theorem idMay_any (s n : Int) (w : World) :
    Calls Try.prog 49 #[.agg #[.int .i64 s, .int .i64 n]] w fun e w' => e = .returned (.bool (idB s n)) ∧ w.grownBy w' none := by
  go_enter Try.func49, Try.ntmps49
  go_wp2
  all_goals (go_ret; refine ⟨ret_bool ?_, World.grownBy_alloc _ _ _⟩)
  all_goals (first | (simp [idB, *]; done) | (have hx := ‹¬ s = 0›; have hy := ‹¬ s = 1›; simp [idB, hx, hy]; done) | (have hx := ‹n < 1›; simp [idB, *]; omega))

theorem nat_beq (n : Nat) : ((n : Int) == 0) = (n == 0) := by rw [Bool.eq_iff_iff]; simp

set_option maxHeartbeats 400000 in
theorem still_any (i : It) (w : World) :
    Calls Try.prog 50 #[.agg #[.int .i64 i.sh, .int .i64 i.nu, .float .f32 i.pl, .float .f32 i.sp]] w fun e w' => e = .returned (.bool (stB i)) ∧ w.grownBy w' none := by
  have hb := run_f32bits
  go_enter Try.func50, Try.ntmps50
  go_wp2_with fail
  all_goals (go_ret; refine ⟨ret_bool ?_, World.grownBy_alloc _ _ _⟩)
  all_goals (first | (simp [stB, *]; done) | (simp [stB, *]; exact nat_beq _))

set_option maxHeartbeats 400000 in
theorem drift_any (x y : Nat) (w : World) :
    Calls Try.prog 70 #[.float .f32 x, .float .f32 y] w fun e w' => e = .returned (.bool (nearB x && nearB y)) ∧ w' = w := by
  go_enter Try.func70, Try.ntmps70
  go_wp2_with (first | (go_at_call 78; refine (near_any _ _).mono ?_; rintro e w' ⟨rfl, rfl⟩))
  all_goals (go_ret; refine ⟨ret_bool ?_, rfl⟩)
  all_goals (simp [*])

set_option maxHeartbeats 400000 in
theorem itMay_any (i : It) (w : World) :
    Calls Try.prog 47 #[.agg #[.int .i64 i.sh, .int .i64 i.nu, .float .f32 i.pl, .float .f32 i.sp]] w fun e w' => e = .returned (.bool (itB i)) ∧ w.grownBy w' none := by
  go_enter Try.func47, Try.ntmps47
  go_wp2_with fail
  refine (idMay_any i.sh i.nu _).mono ?_
  rintro e w1 ⟨rfl, g1⟩
  have c1 : w1.cell? ⟨w.heap.size, 2, none⟩ = some (.float .f32 i.pl) := g1.cell (by go_simp) (by simp)
  have c2 : w1.cell? ⟨w.heap.size, 3, none⟩ = some (.float .f32 i.sp) := g1.cell (by go_simp) (by simp)
  have G := (World.grownBy_alloc w (.cells #[.int .i64 i.sh, .int .i64 i.nu, .float .f32 i.pl, .float .f32 i.sp] 26) none).trans g1
  go_wp2_with (first | (go_at_call 70; refine (drift_any _ _ _).mono ?_; rintro e w' ⟨rfl, rfl⟩))
  all_goals (go_ret; refine ⟨ret_bool ?_, G⟩)
  all_goals (first | (simp [itB, *]; done) | (simp only [itB, *, Bool.true_and, Bool.and_assoc]; done))

def mkB (m : Mk) : Bool := isN m.g && isN m.m && isN m.s && isN m.a && isN m.n
def mkZ (m : Mk) : Bool := m.g == 0 && m.m == 0 && m.s == 0 && m.a == 0 && m.n == 0
set_option maxHeartbeats 400000 in
theorem noThing_any (i : It) (w : World) :
    Calls Try.prog 51 #[.agg #[.int .i64 i.sh, .int .i64 i.nu, .float .f32 i.pl, .float .f32 i.sp]] w fun e w' => e = .returned (.bool (noIt i)) ∧ w.grownBy w' none := by
  obtain ⟨sh, nu, pl, sp⟩ := i
  by_cases h1 : sh = 0
  · subst h1
    by_cases h2 : nu = 0
    · subst h2
      go_enter Try.func51, Try.ntmps51
      go_wp2_with (go_at_call 50; refine (still_any ⟨0, 0, pl, sp⟩ _).mono ?_; rintro e w1 ⟨rfl, g1⟩)
      go_ret
      exact ⟨ret_bool (by simp [noIt]), (World.grownBy_alloc _ _ _).trans g1⟩
    · go_enter Try.func51, Try.ntmps51
      go_wp2_with fail
      go_ret
      exact ⟨ret_bool (by simp [noIt, h2]), World.grownBy_alloc _ _ _⟩
  · go_enter Try.func51, Try.ntmps51
    go_wp2_with fail
    go_ret
    exact ⟨ret_bool (by simp [noIt, h1]), World.grownBy_alloc _ _ _⟩

set_option maxHeartbeats 400000 in
theorem marksMay_any (m : Mk) (w : World) :
    Calls Try.prog 72 #[.agg #[.int .i64 m.g, .int .i64 m.m, .int .i64 m.s, .int .i64 m.a, .int .i64 m.n]] w fun e w' => e = .returned (.bool (mkB m)) ∧ w.grownBy w' none := by
  go_enter Try.func72, Try.ntmps72
  go_wp2_with (go_at_call 52; refine (isNumber_any _ _).mono ?_; rintro e w1 ⟨rfl, rfl⟩)
  all_goals (go_ret; refine ⟨ret_bool ?_, World.grownBy_alloc _ _ _⟩)
  all_goals (simp [mkB, *])

set_option maxHeartbeats 400000 in
theorem noBase_any (k s : Int) (i : It) (m : Mk) (ai ao : Option Addr) (ni ci no co : Nat) (w : World) :
    Calls Try.prog 48 #[rv k s i m (.slice ai ni ci) (.slice ao no co)] w fun e w' => e = .returned (.bool (mkZ m && (ni == 0) && (no == 0))) ∧ w.grownBy w' none := by
  unfold rv
  go_enter Try.func48, Try.ntmps48
  go_wp2
  all_goals (go_ret; refine ⟨ret_bool ?_, World.grownBy_alloc _ _ _⟩)
  all_goals (first | (simp [mkZ, *]; done) | (simp [mkZ, *]; exact nat_beq _))
end Go.Proofs.Ytammnaafdhhjaaa
