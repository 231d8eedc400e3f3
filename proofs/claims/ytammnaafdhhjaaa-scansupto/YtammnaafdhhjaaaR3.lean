/- Ytammnaafdhhjaaa: which things may be, by the document. -/
import Derived.Test.YtammnaafdhhjaaaF5
import Derived.Test.YtammnaafdhhjaaaJF6
import Derived.Test.YtammnaafdhhjaaaR2
namespace Go.Proofs.Ytammnaafdhhjaaa
open Go.RowKit

set_option maxHeartbeats 400000 in
theorem refId_any (s n : Int) (w : World) :
    Calls Try.prog 43 #[.agg #[.int .i64 s, .int .i64 n]] w fun e w' => e = .returned (.bool (idB s n)) ∧ w.grownBy w' none := by
  have hsame : Hid (idB s n = (decide (0 ≤ s) && decide (s ≤ 1) && decide (1 ≤ n) && decide (n ≤ 65535))) := by
    show _ = _
    unfold idB
    have : (s == 0 || s == 1) = (decide (0 ≤ s) && decide (s ≤ 1)) := by rw [Bool.eq_iff_iff]; simp; omega
    rw [this]
  go_enter Try.func43, Try.ntmps43
  go_wp2
  all_goals (go_ret; refine ⟨ret_bool ?_, World.grownBy_alloc _ _ _⟩; rw [hsame.out])
  all_goals (first | (simp [*]; done) | (simp; omega))

set_option maxHeartbeats 400000 in
theorem refMay_any (n k : Int) (w : World) :
    Calls Try.prog 44 #[.int .i64 n, .int .i64 k] w fun e w' => e = .returned (.bool (decide (k ≤ n) && decide (n ≤ 65535))) ∧ w' = w := by
  go_enter Try.func44, Try.ntmps44
  go_wp2
  all_goals (go_ret; refine ⟨ret_bool ?_, rfl⟩)
  all_goals (first | (simp [*]; done) | (simp; omega))

set_option maxHeartbeats 400000 in
theorem refThing_any (i : It) (w : World) :
    Calls Try.prog 42 #[.agg #[.int .i64 i.sh, .int .i64 i.nu, .float .f32 i.pl, .float .f32 i.sp]] w fun e w' => e = .returned (.bool (itB i)) ∧ w.grownBy w' none := by
  go_enter Try.func42, Try.ntmps42
  go_wp2_with fail
  refine (refId_any i.sh i.nu _).mono ?_
  rintro e w1 ⟨rfl, g1⟩
  have c1 : w1.cell? ⟨w.heap.size, 2, none⟩ = some (.float .f32 i.pl) := g1.cell (by go_simp) (by simp)
  have c2 : w1.cell? ⟨w.heap.size, 3, none⟩ = some (.float .f32 i.sp) := g1.cell (by go_simp) (by simp)
  have G := (World.grownBy_alloc w (.cells #[.int .i64 i.sh, .int .i64 i.nu, .float .f32 i.pl, .float .f32 i.sp] 26) none).trans g1
  go_wp2_with (first | (go_at_call 68; refine (refNear_any _ _).mono ?_; rintro e w' ⟨rfl, rfl⟩))
  all_goals (go_ret; refine ⟨ret_bool ?_, G⟩)
  all_goals (simp [itB, *])

/-- Nothing but an ID, or nothing at all. -/
def noB (i : It) (lets : Bool) : Bool := (i.pl == 0) && (i.sp == 0) && (lets || ((i.sh == 0) && (i.nu == 0)))
set_option maxHeartbeats 1000000 in
theorem refNothing_any (i : It) (lets : Bool) (w : World) (hp : i.pl < 4294967296) (hs : i.sp < 4294967296) (fp : fin32 i.pl = true) (fs : fin32 i.sp = true) :
    Calls Try.prog 41 #[.agg #[.int .i64 i.sh, .int .i64 i.nu, .float .f32 i.pl, .float .f32 i.sp], .bool lets] w fun e w' => e = .returned (.bool (noB i lets)) ∧ w.grownBy w' none := by
  obtain ⟨sh, nu, pl, sp⟩ := i
  simp only at hp hs fp fs ⊢
  by_cases h1 : sh = 0
  · by_cases h2 : nu = 0
    · subst h1 h2
      cases lets
      all_goals
        go_enter Try.func41, Try.ntmps41
        go_wp2_with (first | (go_at_call 67; refine (pattern_any _ (by assumption) (by assumption) _).mono ?_; rintro e w' ⟨rfl, rfl⟩))
        all_goals (go_ret; refine ⟨ret_bool ?_, World.grownBy_alloc _ _ _⟩)
        all_goals (first | (simp [noB, *]; done) | (simp [noB, *]; exact nat_beq _) | (simp [noB]; omega))
    · subst h1
      cases lets
      all_goals
        go_enter Try.func41, Try.ntmps41
        go_wp2_with (first | (go_at_call 67; refine (pattern_any _ (by assumption) (by assumption) _).mono ?_; rintro e w' ⟨rfl, rfl⟩))
        all_goals (go_ret; refine ⟨ret_bool ?_, World.grownBy_alloc _ _ _⟩)
        all_goals (first | (simp [noB, *]; done) | (simp [noB, *]; exact nat_beq _) | (simp [noB]; omega))
  · cases lets
    all_goals
      go_enter Try.func41, Try.ntmps41
      go_wp2_with (first | (go_at_call 67; refine (pattern_any _ (by assumption) (by assumption) _).mono ?_; rintro e w' ⟨rfl, rfl⟩))
      all_goals (go_ret; refine ⟨ret_bool ?_, World.grownBy_alloc _ _ _⟩)
      all_goals (first | (simp [noB, *]; done) | (simp [noB, *]; exact nat_beq _) | (simp [noB]; omega))
end Go.Proofs.Ytammnaafdhhjaaa
