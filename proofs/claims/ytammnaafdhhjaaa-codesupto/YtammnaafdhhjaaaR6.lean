/- Ytammnaafdhhjaaa: which records may be, by the document. -/
import Derived.Test.YtammnaafdhhjaaaR5
import Derived.Test.YtammnaafdhhjaaaJM1
namespace Go.Proofs.Ytammnaafdhhjaaa
open Go.RowKit

theorem num_of (x : Nat) (b : Bool) (w : World) (h : fin32 x = b) :
    Calls Try.prog 40 #[.float .f32 x] w fun e w' => e = .returned (.bool b) ∧ w.grownBy w' none := by
  subst h
  exact numeric_any x w

set_option maxHeartbeats 1000000 in
theorem refMay_kind (K s : Int) (i : It) (m : Mk) (ai ao : Option Addr) (ni ci no co : Nat) (w : World) (hK : K < 1 ∨ 8 < K) :
    Calls Try.prog 25 #[rv K s i m (.slice ai ni ci) (.slice ao no co)] w fun e w' => e = .returned (.bool false) ∧ w.grownBy w' none := by
  unfold rv
  by_cases h1 : K < 1
  · have d1 : decide (K < 1) = true := decide_eq_true h1
    clear hK h1
    go_enter Try.func25, Try.ntmps25
    go_wp2_with fail
    go_ret
    exact ⟨rfl, World.grownBy_alloc _ _ _⟩
  · have h8 : 8 < K := by omega
    have d1 : decide (K < 1) = false := decide_eq_false h1
    have d8 : decide (8 < K) = true := decide_eq_true h8
    clear hK
    go_enter Try.func25, Try.ntmps25
    go_wp2_with fail
    go_ret
    exact ⟨rfl, World.grownBy_alloc _ _ _⟩

theorem no_true (i : It) : noB i true = stB i := by simp [noB, stB]
theorem no_false (i : It) : noB i false = noIt i := by
  rw [Bool.eq_iff_iff]
  simp [noB, noIt, stB]
  omega
theorem one_isN (s : Int) : (decide (1 ≤ s) && decide (s ≤ 65535)) = (decide (1 ≤ s) && isN s) := by
  rw [Bool.eq_iff_iff]
  simp only [isN, Bool.and_eq_true, decide_eq_true_eq]
  omega

set_option maxHeartbeats 2000000 in
theorem refMay_pl (K s : Int) (i : It) (m : Mk) (ai ao : Option Addr) (ni ci no co : Nat) (w : World) (h1 : 1 ≤ K) (h8 : K ≤ 8) (hf : fin32 i.pl = false) :
    Calls Try.prog 25 #[rv K s i m (.slice ai ni ci) (.slice ao no co)] w fun e w' => e = .returned (.bool false) ∧ w.grownBy w' none := by
  unfold rv
  have d1 : decide (K < 1) = false := by simp; omega
  have d8 : decide (8 < K) = false := by simp; omega
  go_enter Try.func25, Try.ntmps25
  go_wp2_with fail
  refine Calls.mono (num_of i.pl _ _ hf) ?_
  rintro e w1 ⟨rfl, g1⟩
  go_wp2_with fail
  go_ret
  exact ⟨rfl, (World.grownBy_alloc w _ none).trans g1⟩

set_option maxHeartbeats 2000000 in
theorem refMay_sp (K s : Int) (i : It) (m : Mk) (ai ao : Option Addr) (ni ci no co : Nat) (w : World) (h1 : 1 ≤ K) (h8 : K ≤ 8) (fp : fin32 i.pl = true) (hf : fin32 i.sp = false) :
    Calls Try.prog 25 #[rv K s i m (.slice ai ni ci) (.slice ao no co)] w fun e w' => e = .returned (.bool false) ∧ w.grownBy w' none := by
  unfold rv
  have d1 : decide (K < 1) = false := by simp; omega
  have d8 : decide (8 < K) = false := by simp; omega
  go_enter Try.func25, Try.ntmps25
  go_wp2_with fail
  refine Calls.mono (num_of i.pl _ _ fp) ?_
  rintro e w1 ⟨rfl, g1⟩
  have G1 := Hid.mk' ((World.grownBy_alloc w _ none).trans g1)
  have c1_0 : w1.cell? ⟨w.heap.size, 0, none⟩ = some (.int .i64 K) := g1.cell (by go_simp) (by simp)
  have c1_1 : w1.cell? ⟨w.heap.size, 1, none⟩ = some (.int .i64 s) := g1.cell (by go_simp) (by simp)
  have c1_2 : w1.cell? ⟨w.heap.size, 2, none⟩ = some (.int .i64 i.sh) := g1.cell (by go_simp) (by simp)
  have c1_3 : w1.cell? ⟨w.heap.size, 3, none⟩ = some (.int .i64 i.nu) := g1.cell (by go_simp) (by simp)
  have c1_4 : w1.cell? ⟨w.heap.size, 4, none⟩ = some (.float .f32 i.pl) := g1.cell (by go_simp) (by simp)
  have c1_5 : w1.cell? ⟨w.heap.size, 5, none⟩ = some (.float .f32 i.sp) := g1.cell (by go_simp) (by simp)
  have c1_6 : w1.cell? ⟨w.heap.size, 6, none⟩ = some (.int .i64 m.g) := g1.cell (by go_simp) (by simp)
  have c1_7 : w1.cell? ⟨w.heap.size, 7, none⟩ = some (.int .i64 m.m) := g1.cell (by go_simp) (by simp)
  have c1_8 : w1.cell? ⟨w.heap.size, 8, none⟩ = some (.int .i64 m.s) := g1.cell (by go_simp) (by simp)
  have c1_9 : w1.cell? ⟨w.heap.size, 9, none⟩ = some (.int .i64 m.a) := g1.cell (by go_simp) (by simp)
  have c1_10 : w1.cell? ⟨w.heap.size, 10, none⟩ = some (.int .i64 m.n) := g1.cell (by go_simp) (by simp)
  have c1_11 : w1.cell? ⟨w.heap.size, 11, none⟩ = some (.slice ai ni ci) := g1.cell (by go_simp) (by simp)
  have c1_12 : w1.cell? ⟨w.heap.size, 12, none⟩ = some (.slice ao no co) := g1.cell (by go_simp) (by simp)
  go_wp2_with fail
  refine Calls.mono (num_of i.sp _ _ hf) ?_
  rintro e w2 ⟨rfl, g2⟩
  go_wp2_with fail
  go_ret
  exact ⟨rfl, G1.out.trans g2⟩

set_option maxHeartbeats 4000000 in
theorem refMay_lists (K s : Int) (i : It) (m : Mk) (ai ao : Option Addr) (ni ci no co : Nat) (w : World) (h1 : 1 ≤ K) (h8 : K ≤ 8) (h6 : K ≠ 6) (fp : fin32 i.pl = true) (fs : fin32 i.sp = true) (hni : ni ≤ 1000000000) (hno : no ≤ 1000000000) (hl : (mkZ m && (ni == 0) && (no == 0)) = false) :
    Calls Try.prog 25 #[rv K s i m (.slice ai ni ci) (.slice ao no co)] w fun e w' => e = .returned (.bool false) ∧ w.grownBy w' none := by
  unfold rv
  have d1 : decide (K < 1) = false := by simp; omega
  have d8 : decide (8 < K) = false := by simp; omega
  have d6 : (K != 6) = true := by simpa using h6
  go_enter Try.func25, Try.ntmps25
  go_wp2_with fail
  refine Calls.mono (num_of i.pl _ _ fp) ?_
  rintro e w1 ⟨rfl, g1⟩
  have G1 := Hid.mk' ((World.grownBy_alloc w _ none).trans g1)
  have c1_0 : w1.cell? ⟨w.heap.size, 0, none⟩ = some (.int .i64 K) := g1.cell (by go_simp) (by simp)
  have c1_1 : w1.cell? ⟨w.heap.size, 1, none⟩ = some (.int .i64 s) := g1.cell (by go_simp) (by simp)
  have c1_2 : w1.cell? ⟨w.heap.size, 2, none⟩ = some (.int .i64 i.sh) := g1.cell (by go_simp) (by simp)
  have c1_3 : w1.cell? ⟨w.heap.size, 3, none⟩ = some (.int .i64 i.nu) := g1.cell (by go_simp) (by simp)
  have c1_4 : w1.cell? ⟨w.heap.size, 4, none⟩ = some (.float .f32 i.pl) := g1.cell (by go_simp) (by simp)
  have c1_5 : w1.cell? ⟨w.heap.size, 5, none⟩ = some (.float .f32 i.sp) := g1.cell (by go_simp) (by simp)
  have c1_6 : w1.cell? ⟨w.heap.size, 6, none⟩ = some (.int .i64 m.g) := g1.cell (by go_simp) (by simp)
  have c1_7 : w1.cell? ⟨w.heap.size, 7, none⟩ = some (.int .i64 m.m) := g1.cell (by go_simp) (by simp)
  have c1_8 : w1.cell? ⟨w.heap.size, 8, none⟩ = some (.int .i64 m.s) := g1.cell (by go_simp) (by simp)
  have c1_9 : w1.cell? ⟨w.heap.size, 9, none⟩ = some (.int .i64 m.a) := g1.cell (by go_simp) (by simp)
  have c1_10 : w1.cell? ⟨w.heap.size, 10, none⟩ = some (.int .i64 m.n) := g1.cell (by go_simp) (by simp)
  have c1_11 : w1.cell? ⟨w.heap.size, 11, none⟩ = some (.slice ai ni ci) := g1.cell (by go_simp) (by simp)
  have c1_12 : w1.cell? ⟨w.heap.size, 12, none⟩ = some (.slice ao no co) := g1.cell (by go_simp) (by simp)
  go_wp2_with fail
  refine Calls.mono (num_of i.sp _ _ fs) ?_
  rintro e w2 ⟨rfl, g2⟩
  have G2 := Hid.mk' (G1.out.trans g2)
  have c2_0 : w2.cell? ⟨w.heap.size, 0, none⟩ = some (.int .i64 K) := g2.cell (by go_simp) (by simp)
  have c2_1 : w2.cell? ⟨w.heap.size, 1, none⟩ = some (.int .i64 s) := g2.cell (by go_simp) (by simp)
  have c2_2 : w2.cell? ⟨w.heap.size, 2, none⟩ = some (.int .i64 i.sh) := g2.cell (by go_simp) (by simp)
  have c2_3 : w2.cell? ⟨w.heap.size, 3, none⟩ = some (.int .i64 i.nu) := g2.cell (by go_simp) (by simp)
  have c2_4 : w2.cell? ⟨w.heap.size, 4, none⟩ = some (.float .f32 i.pl) := g2.cell (by go_simp) (by simp)
  have c2_5 : w2.cell? ⟨w.heap.size, 5, none⟩ = some (.float .f32 i.sp) := g2.cell (by go_simp) (by simp)
  have c2_6 : w2.cell? ⟨w.heap.size, 6, none⟩ = some (.int .i64 m.g) := g2.cell (by go_simp) (by simp)
  have c2_7 : w2.cell? ⟨w.heap.size, 7, none⟩ = some (.int .i64 m.m) := g2.cell (by go_simp) (by simp)
  have c2_8 : w2.cell? ⟨w.heap.size, 8, none⟩ = some (.int .i64 m.s) := g2.cell (by go_simp) (by simp)
  have c2_9 : w2.cell? ⟨w.heap.size, 9, none⟩ = some (.int .i64 m.a) := g2.cell (by go_simp) (by simp)
  have c2_10 : w2.cell? ⟨w.heap.size, 10, none⟩ = some (.int .i64 m.n) := g2.cell (by go_simp) (by simp)
  have c2_11 : w2.cell? ⟨w.heap.size, 11, none⟩ = some (.slice ai ni ci) := g2.cell (by go_simp) (by simp)
  have c2_12 : w2.cell? ⟨w.heap.size, 12, none⟩ = some (.slice ao no co) := g2.cell (by go_simp) (by simp)
  clear c1_0 c1_1 c1_2 c1_3 c1_4 c1_5 c1_6 c1_7 c1_8 c1_9 c1_10 c1_11 c1_12
  by_cases h0 : ni + no = 0
  · have e1 : ni = 0 := by omega
    have e2 : no = 0 := by omega
    subst e1 e2
    have hz : mkZ m = false := by simpa using hl
    have HZ := Hid.mk' hz
    clear hz hl h0
    go_wp2_with fail
    · exfalso
      have hz := HZ.out
      simp [mkZ, *] at hz
    all_goals (go_ret; exact ⟨rfl, G2.out⟩)
  · have d0 : decide ((0 : Int) < (ni : Int) + (no : Int)) = true := by simp; omega
    have HL := Hid.mk' hl
    clear hl
    go_wp2_with fail
    go_ret
    exact ⟨rfl, G2.out⟩

set_option maxHeartbeats 4000000 in
theorem refMay_1 (s : Int) (i : It) (ai ao : Option Addr) (ci co : Nat) (w : World) (hp : i.pl < 4294967296) (hs : i.sp < 4294967296) (fp : fin32 i.pl = true) (fs : fin32 i.sp = true) :
    Calls Try.prog 25 #[rv 1 s i mk0 (.slice ai 0 ci) (.slice ao 0 co)] w fun e w' => e = .returned (.bool (mayB ⟨1, s, i, mk0, [], []⟩)) ∧ w.grownBy w' none := by
  unfold rv mk0
  go_enter Try.func25, Try.ntmps25
  go_wp2_with fail
  refine Calls.mono (num_of i.pl _ _ fp) ?_
  rintro e w1 ⟨rfl, g1⟩
  have G1 := Hid.mk' ((World.grownBy_alloc w _ none).trans g1)
  have c1_0 : w1.cell? ⟨w.heap.size, 0, none⟩ = some (.int .i64 1) := g1.cell (by go_simp) (by simp)
  have c1_1 : w1.cell? ⟨w.heap.size, 1, none⟩ = some (.int .i64 s) := g1.cell (by go_simp) (by simp)
  have c1_2 : w1.cell? ⟨w.heap.size, 2, none⟩ = some (.int .i64 i.sh) := g1.cell (by go_simp) (by simp)
  have c1_3 : w1.cell? ⟨w.heap.size, 3, none⟩ = some (.int .i64 i.nu) := g1.cell (by go_simp) (by simp)
  have c1_4 : w1.cell? ⟨w.heap.size, 4, none⟩ = some (.float .f32 i.pl) := g1.cell (by go_simp) (by simp)
  have c1_5 : w1.cell? ⟨w.heap.size, 5, none⟩ = some (.float .f32 i.sp) := g1.cell (by go_simp) (by simp)
  have c1_6 : w1.cell? ⟨w.heap.size, 6, none⟩ = some (.int .i64 0) := g1.cell (by go_simp) (by simp)
  have c1_7 : w1.cell? ⟨w.heap.size, 7, none⟩ = some (.int .i64 0) := g1.cell (by go_simp) (by simp)
  have c1_8 : w1.cell? ⟨w.heap.size, 8, none⟩ = some (.int .i64 0) := g1.cell (by go_simp) (by simp)
  have c1_9 : w1.cell? ⟨w.heap.size, 9, none⟩ = some (.int .i64 0) := g1.cell (by go_simp) (by simp)
  have c1_10 : w1.cell? ⟨w.heap.size, 10, none⟩ = some (.int .i64 0) := g1.cell (by go_simp) (by simp)
  have c1_11 : w1.cell? ⟨w.heap.size, 11, none⟩ = some (.slice ai 0 ci) := g1.cell (by go_simp) (by simp)
  have c1_12 : w1.cell? ⟨w.heap.size, 12, none⟩ = some (.slice ao 0 co) := g1.cell (by go_simp) (by simp)
  go_wp2_with fail
  refine Calls.mono (num_of i.sp _ _ fs) ?_
  rintro e w2 ⟨rfl, g2⟩
  have G2 := Hid.mk' (G1.out.trans g2)
  have c2_0 : w2.cell? ⟨w.heap.size, 0, none⟩ = some (.int .i64 1) := g2.cell (by go_simp) (by simp)
  have c2_1 : w2.cell? ⟨w.heap.size, 1, none⟩ = some (.int .i64 s) := g2.cell (by go_simp) (by simp)
  have c2_2 : w2.cell? ⟨w.heap.size, 2, none⟩ = some (.int .i64 i.sh) := g2.cell (by go_simp) (by simp)
  have c2_3 : w2.cell? ⟨w.heap.size, 3, none⟩ = some (.int .i64 i.nu) := g2.cell (by go_simp) (by simp)
  have c2_4 : w2.cell? ⟨w.heap.size, 4, none⟩ = some (.float .f32 i.pl) := g2.cell (by go_simp) (by simp)
  have c2_5 : w2.cell? ⟨w.heap.size, 5, none⟩ = some (.float .f32 i.sp) := g2.cell (by go_simp) (by simp)
  have c2_6 : w2.cell? ⟨w.heap.size, 6, none⟩ = some (.int .i64 0) := g2.cell (by go_simp) (by simp)
  have c2_7 : w2.cell? ⟨w.heap.size, 7, none⟩ = some (.int .i64 0) := g2.cell (by go_simp) (by simp)
  have c2_8 : w2.cell? ⟨w.heap.size, 8, none⟩ = some (.int .i64 0) := g2.cell (by go_simp) (by simp)
  have c2_9 : w2.cell? ⟨w.heap.size, 9, none⟩ = some (.int .i64 0) := g2.cell (by go_simp) (by simp)
  have c2_10 : w2.cell? ⟨w.heap.size, 10, none⟩ = some (.int .i64 0) := g2.cell (by go_simp) (by simp)
  have c2_11 : w2.cell? ⟨w.heap.size, 11, none⟩ = some (.slice ai 0 ci) := g2.cell (by go_simp) (by simp)
  have c2_12 : w2.cell? ⟨w.heap.size, 12, none⟩ = some (.slice ao 0 co) := g2.cell (by go_simp) (by simp)
  clear c1_0 c1_1 c1_2 c1_3 c1_4 c1_5 c1_6 c1_7 c1_8 c1_9 c1_10 c1_11 c1_12
  go_wp2_with fail
  refine Calls.mono (refNothing_any i false _ hp hs fp fs) ?_
  rintro e w3 ⟨rfl, g3⟩
  have G3 := Hid.mk' (G2.out.trans g3)
  have c3_0 : w3.cell? ⟨w.heap.size, 0, none⟩ = some (.int .i64 1) := g3.cell (by go_simp) (by simp)
  have c3_1 : w3.cell? ⟨w.heap.size, 1, none⟩ = some (.int .i64 s) := g3.cell (by go_simp) (by simp)
  have c3_2 : w3.cell? ⟨w.heap.size, 2, none⟩ = some (.int .i64 i.sh) := g3.cell (by go_simp) (by simp)
  have c3_3 : w3.cell? ⟨w.heap.size, 3, none⟩ = some (.int .i64 i.nu) := g3.cell (by go_simp) (by simp)
  have c3_4 : w3.cell? ⟨w.heap.size, 4, none⟩ = some (.float .f32 i.pl) := g3.cell (by go_simp) (by simp)
  have c3_5 : w3.cell? ⟨w.heap.size, 5, none⟩ = some (.float .f32 i.sp) := g3.cell (by go_simp) (by simp)
  have c3_6 : w3.cell? ⟨w.heap.size, 6, none⟩ = some (.int .i64 0) := g3.cell (by go_simp) (by simp)
  have c3_7 : w3.cell? ⟨w.heap.size, 7, none⟩ = some (.int .i64 0) := g3.cell (by go_simp) (by simp)
  have c3_8 : w3.cell? ⟨w.heap.size, 8, none⟩ = some (.int .i64 0) := g3.cell (by go_simp) (by simp)
  have c3_9 : w3.cell? ⟨w.heap.size, 9, none⟩ = some (.int .i64 0) := g3.cell (by go_simp) (by simp)
  have c3_10 : w3.cell? ⟨w.heap.size, 10, none⟩ = some (.int .i64 0) := g3.cell (by go_simp) (by simp)
  have c3_11 : w3.cell? ⟨w.heap.size, 11, none⟩ = some (.slice ai 0 ci) := g3.cell (by go_simp) (by simp)
  have c3_12 : w3.cell? ⟨w.heap.size, 12, none⟩ = some (.slice ao 0 co) := g3.cell (by go_simp) (by simp)
  clear c2_0 c2_1 c2_2 c2_3 c2_4 c2_5 c2_6 c2_7 c2_8 c2_9 c2_10 c2_11 c2_12
  go_wp2_with fail
  refine Calls.mono (refThing_any i _) ?_
  rintro e w4 ⟨rfl, g4⟩
  have G4 := Hid.mk' (G3.out.trans g4)
  have c4_0 : w4.cell? ⟨w.heap.size, 0, none⟩ = some (.int .i64 1) := g4.cell (by go_simp) (by simp)
  have c4_1 : w4.cell? ⟨w.heap.size, 1, none⟩ = some (.int .i64 s) := g4.cell (by go_simp) (by simp)
  have c4_2 : w4.cell? ⟨w.heap.size, 2, none⟩ = some (.int .i64 i.sh) := g4.cell (by go_simp) (by simp)
  have c4_3 : w4.cell? ⟨w.heap.size, 3, none⟩ = some (.int .i64 i.nu) := g4.cell (by go_simp) (by simp)
  have c4_4 : w4.cell? ⟨w.heap.size, 4, none⟩ = some (.float .f32 i.pl) := g4.cell (by go_simp) (by simp)
  have c4_5 : w4.cell? ⟨w.heap.size, 5, none⟩ = some (.float .f32 i.sp) := g4.cell (by go_simp) (by simp)
  have c4_6 : w4.cell? ⟨w.heap.size, 6, none⟩ = some (.int .i64 0) := g4.cell (by go_simp) (by simp)
  have c4_7 : w4.cell? ⟨w.heap.size, 7, none⟩ = some (.int .i64 0) := g4.cell (by go_simp) (by simp)
  have c4_8 : w4.cell? ⟨w.heap.size, 8, none⟩ = some (.int .i64 0) := g4.cell (by go_simp) (by simp)
  have c4_9 : w4.cell? ⟨w.heap.size, 9, none⟩ = some (.int .i64 0) := g4.cell (by go_simp) (by simp)
  have c4_10 : w4.cell? ⟨w.heap.size, 10, none⟩ = some (.int .i64 0) := g4.cell (by go_simp) (by simp)
  have c4_11 : w4.cell? ⟨w.heap.size, 11, none⟩ = some (.slice ai 0 ci) := g4.cell (by go_simp) (by simp)
  have c4_12 : w4.cell? ⟨w.heap.size, 12, none⟩ = some (.slice ao 0 co) := g4.cell (by go_simp) (by simp)
  clear c3_0 c3_1 c3_2 c3_3 c3_4 c3_5 c3_6 c3_7 c3_8 c3_9 c3_10 c3_11 c3_12
  cases h5 : itB i
  · go_wp2_with fail
    go_ret
    exact ⟨ret_bool (by simp [mayB, h5]), G4.out⟩
  · go_wp2_with fail
    go_ret
    exact ⟨ret_bool (by simp [mayB, nobB, mkZ, h5]), G4.out⟩

set_option maxHeartbeats 4000000 in
theorem refMay_2 (s : Int) (i : It) (ai ao : Option Addr) (ci co : Nat) (w : World) (hp : i.pl < 4294967296) (hs : i.sp < 4294967296) (fp : fin32 i.pl = true) (fs : fin32 i.sp = true) :
    Calls Try.prog 25 #[rv 2 s i mk0 (.slice ai 0 ci) (.slice ao 0 co)] w fun e w' => e = .returned (.bool (mayB ⟨2, s, i, mk0, [], []⟩)) ∧ w.grownBy w' none := by
  unfold rv mk0
  go_enter Try.func25, Try.ntmps25
  go_wp2_with fail
  refine Calls.mono (num_of i.pl _ _ fp) ?_
  rintro e w1 ⟨rfl, g1⟩
  have G1 := Hid.mk' ((World.grownBy_alloc w _ none).trans g1)
  have c1_0 : w1.cell? ⟨w.heap.size, 0, none⟩ = some (.int .i64 2) := g1.cell (by go_simp) (by simp)
  have c1_1 : w1.cell? ⟨w.heap.size, 1, none⟩ = some (.int .i64 s) := g1.cell (by go_simp) (by simp)
  have c1_2 : w1.cell? ⟨w.heap.size, 2, none⟩ = some (.int .i64 i.sh) := g1.cell (by go_simp) (by simp)
  have c1_3 : w1.cell? ⟨w.heap.size, 3, none⟩ = some (.int .i64 i.nu) := g1.cell (by go_simp) (by simp)
  have c1_4 : w1.cell? ⟨w.heap.size, 4, none⟩ = some (.float .f32 i.pl) := g1.cell (by go_simp) (by simp)
  have c1_5 : w1.cell? ⟨w.heap.size, 5, none⟩ = some (.float .f32 i.sp) := g1.cell (by go_simp) (by simp)
  have c1_6 : w1.cell? ⟨w.heap.size, 6, none⟩ = some (.int .i64 0) := g1.cell (by go_simp) (by simp)
  have c1_7 : w1.cell? ⟨w.heap.size, 7, none⟩ = some (.int .i64 0) := g1.cell (by go_simp) (by simp)
  have c1_8 : w1.cell? ⟨w.heap.size, 8, none⟩ = some (.int .i64 0) := g1.cell (by go_simp) (by simp)
  have c1_9 : w1.cell? ⟨w.heap.size, 9, none⟩ = some (.int .i64 0) := g1.cell (by go_simp) (by simp)
  have c1_10 : w1.cell? ⟨w.heap.size, 10, none⟩ = some (.int .i64 0) := g1.cell (by go_simp) (by simp)
  have c1_11 : w1.cell? ⟨w.heap.size, 11, none⟩ = some (.slice ai 0 ci) := g1.cell (by go_simp) (by simp)
  have c1_12 : w1.cell? ⟨w.heap.size, 12, none⟩ = some (.slice ao 0 co) := g1.cell (by go_simp) (by simp)
  go_wp2_with fail
  refine Calls.mono (num_of i.sp _ _ fs) ?_
  rintro e w2 ⟨rfl, g2⟩
  have G2 := Hid.mk' (G1.out.trans g2)
  have c2_0 : w2.cell? ⟨w.heap.size, 0, none⟩ = some (.int .i64 2) := g2.cell (by go_simp) (by simp)
  have c2_1 : w2.cell? ⟨w.heap.size, 1, none⟩ = some (.int .i64 s) := g2.cell (by go_simp) (by simp)
  have c2_2 : w2.cell? ⟨w.heap.size, 2, none⟩ = some (.int .i64 i.sh) := g2.cell (by go_simp) (by simp)
  have c2_3 : w2.cell? ⟨w.heap.size, 3, none⟩ = some (.int .i64 i.nu) := g2.cell (by go_simp) (by simp)
  have c2_4 : w2.cell? ⟨w.heap.size, 4, none⟩ = some (.float .f32 i.pl) := g2.cell (by go_simp) (by simp)
  have c2_5 : w2.cell? ⟨w.heap.size, 5, none⟩ = some (.float .f32 i.sp) := g2.cell (by go_simp) (by simp)
  have c2_6 : w2.cell? ⟨w.heap.size, 6, none⟩ = some (.int .i64 0) := g2.cell (by go_simp) (by simp)
  have c2_7 : w2.cell? ⟨w.heap.size, 7, none⟩ = some (.int .i64 0) := g2.cell (by go_simp) (by simp)
  have c2_8 : w2.cell? ⟨w.heap.size, 8, none⟩ = some (.int .i64 0) := g2.cell (by go_simp) (by simp)
  have c2_9 : w2.cell? ⟨w.heap.size, 9, none⟩ = some (.int .i64 0) := g2.cell (by go_simp) (by simp)
  have c2_10 : w2.cell? ⟨w.heap.size, 10, none⟩ = some (.int .i64 0) := g2.cell (by go_simp) (by simp)
  have c2_11 : w2.cell? ⟨w.heap.size, 11, none⟩ = some (.slice ai 0 ci) := g2.cell (by go_simp) (by simp)
  have c2_12 : w2.cell? ⟨w.heap.size, 12, none⟩ = some (.slice ao 0 co) := g2.cell (by go_simp) (by simp)
  clear c1_0 c1_1 c1_2 c1_3 c1_4 c1_5 c1_6 c1_7 c1_8 c1_9 c1_10 c1_11 c1_12
  go_wp2_with fail
  refine Calls.mono (refNothing_any i true _ hp hs fp fs) ?_
  rintro e w3 ⟨rfl, g3⟩
  have G3 := Hid.mk' (G2.out.trans g3)
  have c3_0 : w3.cell? ⟨w.heap.size, 0, none⟩ = some (.int .i64 2) := g3.cell (by go_simp) (by simp)
  have c3_1 : w3.cell? ⟨w.heap.size, 1, none⟩ = some (.int .i64 s) := g3.cell (by go_simp) (by simp)
  have c3_2 : w3.cell? ⟨w.heap.size, 2, none⟩ = some (.int .i64 i.sh) := g3.cell (by go_simp) (by simp)
  have c3_3 : w3.cell? ⟨w.heap.size, 3, none⟩ = some (.int .i64 i.nu) := g3.cell (by go_simp) (by simp)
  have c3_4 : w3.cell? ⟨w.heap.size, 4, none⟩ = some (.float .f32 i.pl) := g3.cell (by go_simp) (by simp)
  have c3_5 : w3.cell? ⟨w.heap.size, 5, none⟩ = some (.float .f32 i.sp) := g3.cell (by go_simp) (by simp)
  have c3_6 : w3.cell? ⟨w.heap.size, 6, none⟩ = some (.int .i64 0) := g3.cell (by go_simp) (by simp)
  have c3_7 : w3.cell? ⟨w.heap.size, 7, none⟩ = some (.int .i64 0) := g3.cell (by go_simp) (by simp)
  have c3_8 : w3.cell? ⟨w.heap.size, 8, none⟩ = some (.int .i64 0) := g3.cell (by go_simp) (by simp)
  have c3_9 : w3.cell? ⟨w.heap.size, 9, none⟩ = some (.int .i64 0) := g3.cell (by go_simp) (by simp)
  have c3_10 : w3.cell? ⟨w.heap.size, 10, none⟩ = some (.int .i64 0) := g3.cell (by go_simp) (by simp)
  have c3_11 : w3.cell? ⟨w.heap.size, 11, none⟩ = some (.slice ai 0 ci) := g3.cell (by go_simp) (by simp)
  have c3_12 : w3.cell? ⟨w.heap.size, 12, none⟩ = some (.slice ao 0 co) := g3.cell (by go_simp) (by simp)
  clear c2_0 c2_1 c2_2 c2_3 c2_4 c2_5 c2_6 c2_7 c2_8 c2_9 c2_10 c2_11 c2_12
  go_wp2_with fail
  refine Calls.mono (refThing_any i _) ?_
  rintro e w4 ⟨rfl, g4⟩
  have G4 := Hid.mk' (G3.out.trans g4)
  have c4_0 : w4.cell? ⟨w.heap.size, 0, none⟩ = some (.int .i64 2) := g4.cell (by go_simp) (by simp)
  have c4_1 : w4.cell? ⟨w.heap.size, 1, none⟩ = some (.int .i64 s) := g4.cell (by go_simp) (by simp)
  have c4_2 : w4.cell? ⟨w.heap.size, 2, none⟩ = some (.int .i64 i.sh) := g4.cell (by go_simp) (by simp)
  have c4_3 : w4.cell? ⟨w.heap.size, 3, none⟩ = some (.int .i64 i.nu) := g4.cell (by go_simp) (by simp)
  have c4_4 : w4.cell? ⟨w.heap.size, 4, none⟩ = some (.float .f32 i.pl) := g4.cell (by go_simp) (by simp)
  have c4_5 : w4.cell? ⟨w.heap.size, 5, none⟩ = some (.float .f32 i.sp) := g4.cell (by go_simp) (by simp)
  have c4_6 : w4.cell? ⟨w.heap.size, 6, none⟩ = some (.int .i64 0) := g4.cell (by go_simp) (by simp)
  have c4_7 : w4.cell? ⟨w.heap.size, 7, none⟩ = some (.int .i64 0) := g4.cell (by go_simp) (by simp)
  have c4_8 : w4.cell? ⟨w.heap.size, 8, none⟩ = some (.int .i64 0) := g4.cell (by go_simp) (by simp)
  have c4_9 : w4.cell? ⟨w.heap.size, 9, none⟩ = some (.int .i64 0) := g4.cell (by go_simp) (by simp)
  have c4_10 : w4.cell? ⟨w.heap.size, 10, none⟩ = some (.int .i64 0) := g4.cell (by go_simp) (by simp)
  have c4_11 : w4.cell? ⟨w.heap.size, 11, none⟩ = some (.slice ai 0 ci) := g4.cell (by go_simp) (by simp)
  have c4_12 : w4.cell? ⟨w.heap.size, 12, none⟩ = some (.slice ao 0 co) := g4.cell (by go_simp) (by simp)
  clear c3_0 c3_1 c3_2 c3_3 c3_4 c3_5 c3_6 c3_7 c3_8 c3_9 c3_10 c3_11 c3_12
  cases h5 : noB i true
  · go_wp2_with fail
    go_ret
    exact ⟨ret_bool (by rw [no_true] at h5; simp [mayB, h5]), G4.out⟩
  · go_wp2_with fail
    refine Calls.mono (refId_any i.sh i.nu _) ?_
    rintro e w5 ⟨rfl, g5⟩
    have G5 := Hid.mk' (G4.out.trans g5)
    have c5_0 : w5.cell? ⟨w.heap.size, 0, none⟩ = some (.int .i64 2) := g5.cell (by go_simp) (by simp)
    have c5_1 : w5.cell? ⟨w.heap.size, 1, none⟩ = some (.int .i64 s) := g5.cell (by go_simp) (by simp)
    have c5_2 : w5.cell? ⟨w.heap.size, 2, none⟩ = some (.int .i64 i.sh) := g5.cell (by go_simp) (by simp)
    have c5_3 : w5.cell? ⟨w.heap.size, 3, none⟩ = some (.int .i64 i.nu) := g5.cell (by go_simp) (by simp)
    have c5_4 : w5.cell? ⟨w.heap.size, 4, none⟩ = some (.float .f32 i.pl) := g5.cell (by go_simp) (by simp)
    have c5_5 : w5.cell? ⟨w.heap.size, 5, none⟩ = some (.float .f32 i.sp) := g5.cell (by go_simp) (by simp)
    have c5_6 : w5.cell? ⟨w.heap.size, 6, none⟩ = some (.int .i64 0) := g5.cell (by go_simp) (by simp)
    have c5_7 : w5.cell? ⟨w.heap.size, 7, none⟩ = some (.int .i64 0) := g5.cell (by go_simp) (by simp)
    have c5_8 : w5.cell? ⟨w.heap.size, 8, none⟩ = some (.int .i64 0) := g5.cell (by go_simp) (by simp)
    have c5_9 : w5.cell? ⟨w.heap.size, 9, none⟩ = some (.int .i64 0) := g5.cell (by go_simp) (by simp)
    have c5_10 : w5.cell? ⟨w.heap.size, 10, none⟩ = some (.int .i64 0) := g5.cell (by go_simp) (by simp)
    have c5_11 : w5.cell? ⟨w.heap.size, 11, none⟩ = some (.slice ai 0 ci) := g5.cell (by go_simp) (by simp)
    have c5_12 : w5.cell? ⟨w.heap.size, 12, none⟩ = some (.slice ao 0 co) := g5.cell (by go_simp) (by simp)
    clear c4_0 c4_1 c4_2 c4_3 c4_4 c4_5 c4_6 c4_7 c4_8 c4_9 c4_10 c4_11 c4_12
    cases h6 : idB i.sh i.nu
    · go_wp2_with fail
      go_ret
      exact ⟨ret_bool (by simp [mayB, h6]), G5.out⟩
    · go_wp2_with fail
      go_ret
      exact ⟨ret_bool (by rw [no_true] at h5; simp [mayB, nobB, mkZ, h5, h6]), G5.out⟩

set_option maxHeartbeats 4000000 in
theorem refMay_3 (s : Int) (i : It) (ai ao : Option Addr) (ci co : Nat) (w : World) (hp : i.pl < 4294967296) (hs : i.sp < 4294967296) (fp : fin32 i.pl = true) (fs : fin32 i.sp = true) :
    Calls Try.prog 25 #[rv 3 s i mk0 (.slice ai 0 ci) (.slice ao 0 co)] w fun e w' => e = .returned (.bool (mayB ⟨3, s, i, mk0, [], []⟩)) ∧ w.grownBy w' none := by
  unfold rv mk0
  go_enter Try.func25, Try.ntmps25
  go_wp2_with fail
  refine Calls.mono (num_of i.pl _ _ fp) ?_
  rintro e w1 ⟨rfl, g1⟩
  have G1 := Hid.mk' ((World.grownBy_alloc w _ none).trans g1)
  have c1_0 : w1.cell? ⟨w.heap.size, 0, none⟩ = some (.int .i64 3) := g1.cell (by go_simp) (by simp)
  have c1_1 : w1.cell? ⟨w.heap.size, 1, none⟩ = some (.int .i64 s) := g1.cell (by go_simp) (by simp)
  have c1_2 : w1.cell? ⟨w.heap.size, 2, none⟩ = some (.int .i64 i.sh) := g1.cell (by go_simp) (by simp)
  have c1_3 : w1.cell? ⟨w.heap.size, 3, none⟩ = some (.int .i64 i.nu) := g1.cell (by go_simp) (by simp)
  have c1_4 : w1.cell? ⟨w.heap.size, 4, none⟩ = some (.float .f32 i.pl) := g1.cell (by go_simp) (by simp)
  have c1_5 : w1.cell? ⟨w.heap.size, 5, none⟩ = some (.float .f32 i.sp) := g1.cell (by go_simp) (by simp)
  have c1_6 : w1.cell? ⟨w.heap.size, 6, none⟩ = some (.int .i64 0) := g1.cell (by go_simp) (by simp)
  have c1_7 : w1.cell? ⟨w.heap.size, 7, none⟩ = some (.int .i64 0) := g1.cell (by go_simp) (by simp)
  have c1_8 : w1.cell? ⟨w.heap.size, 8, none⟩ = some (.int .i64 0) := g1.cell (by go_simp) (by simp)
  have c1_9 : w1.cell? ⟨w.heap.size, 9, none⟩ = some (.int .i64 0) := g1.cell (by go_simp) (by simp)
  have c1_10 : w1.cell? ⟨w.heap.size, 10, none⟩ = some (.int .i64 0) := g1.cell (by go_simp) (by simp)
  have c1_11 : w1.cell? ⟨w.heap.size, 11, none⟩ = some (.slice ai 0 ci) := g1.cell (by go_simp) (by simp)
  have c1_12 : w1.cell? ⟨w.heap.size, 12, none⟩ = some (.slice ao 0 co) := g1.cell (by go_simp) (by simp)
  go_wp2_with fail
  refine Calls.mono (num_of i.sp _ _ fs) ?_
  rintro e w2 ⟨rfl, g2⟩
  have G2 := Hid.mk' (G1.out.trans g2)
  have c2_0 : w2.cell? ⟨w.heap.size, 0, none⟩ = some (.int .i64 3) := g2.cell (by go_simp) (by simp)
  have c2_1 : w2.cell? ⟨w.heap.size, 1, none⟩ = some (.int .i64 s) := g2.cell (by go_simp) (by simp)
  have c2_2 : w2.cell? ⟨w.heap.size, 2, none⟩ = some (.int .i64 i.sh) := g2.cell (by go_simp) (by simp)
  have c2_3 : w2.cell? ⟨w.heap.size, 3, none⟩ = some (.int .i64 i.nu) := g2.cell (by go_simp) (by simp)
  have c2_4 : w2.cell? ⟨w.heap.size, 4, none⟩ = some (.float .f32 i.pl) := g2.cell (by go_simp) (by simp)
  have c2_5 : w2.cell? ⟨w.heap.size, 5, none⟩ = some (.float .f32 i.sp) := g2.cell (by go_simp) (by simp)
  have c2_6 : w2.cell? ⟨w.heap.size, 6, none⟩ = some (.int .i64 0) := g2.cell (by go_simp) (by simp)
  have c2_7 : w2.cell? ⟨w.heap.size, 7, none⟩ = some (.int .i64 0) := g2.cell (by go_simp) (by simp)
  have c2_8 : w2.cell? ⟨w.heap.size, 8, none⟩ = some (.int .i64 0) := g2.cell (by go_simp) (by simp)
  have c2_9 : w2.cell? ⟨w.heap.size, 9, none⟩ = some (.int .i64 0) := g2.cell (by go_simp) (by simp)
  have c2_10 : w2.cell? ⟨w.heap.size, 10, none⟩ = some (.int .i64 0) := g2.cell (by go_simp) (by simp)
  have c2_11 : w2.cell? ⟨w.heap.size, 11, none⟩ = some (.slice ai 0 ci) := g2.cell (by go_simp) (by simp)
  have c2_12 : w2.cell? ⟨w.heap.size, 12, none⟩ = some (.slice ao 0 co) := g2.cell (by go_simp) (by simp)
  clear c1_0 c1_1 c1_2 c1_3 c1_4 c1_5 c1_6 c1_7 c1_8 c1_9 c1_10 c1_11 c1_12
  go_wp2_with fail
  refine Calls.mono (refNothing_any i false _ hp hs fp fs) ?_
  rintro e w3 ⟨rfl, g3⟩
  have G3 := Hid.mk' (G2.out.trans g3)
  have c3_0 : w3.cell? ⟨w.heap.size, 0, none⟩ = some (.int .i64 3) := g3.cell (by go_simp) (by simp)
  have c3_1 : w3.cell? ⟨w.heap.size, 1, none⟩ = some (.int .i64 s) := g3.cell (by go_simp) (by simp)
  have c3_2 : w3.cell? ⟨w.heap.size, 2, none⟩ = some (.int .i64 i.sh) := g3.cell (by go_simp) (by simp)
  have c3_3 : w3.cell? ⟨w.heap.size, 3, none⟩ = some (.int .i64 i.nu) := g3.cell (by go_simp) (by simp)
  have c3_4 : w3.cell? ⟨w.heap.size, 4, none⟩ = some (.float .f32 i.pl) := g3.cell (by go_simp) (by simp)
  have c3_5 : w3.cell? ⟨w.heap.size, 5, none⟩ = some (.float .f32 i.sp) := g3.cell (by go_simp) (by simp)
  have c3_6 : w3.cell? ⟨w.heap.size, 6, none⟩ = some (.int .i64 0) := g3.cell (by go_simp) (by simp)
  have c3_7 : w3.cell? ⟨w.heap.size, 7, none⟩ = some (.int .i64 0) := g3.cell (by go_simp) (by simp)
  have c3_8 : w3.cell? ⟨w.heap.size, 8, none⟩ = some (.int .i64 0) := g3.cell (by go_simp) (by simp)
  have c3_9 : w3.cell? ⟨w.heap.size, 9, none⟩ = some (.int .i64 0) := g3.cell (by go_simp) (by simp)
  have c3_10 : w3.cell? ⟨w.heap.size, 10, none⟩ = some (.int .i64 0) := g3.cell (by go_simp) (by simp)
  have c3_11 : w3.cell? ⟨w.heap.size, 11, none⟩ = some (.slice ai 0 ci) := g3.cell (by go_simp) (by simp)
  have c3_12 : w3.cell? ⟨w.heap.size, 12, none⟩ = some (.slice ao 0 co) := g3.cell (by go_simp) (by simp)
  clear c2_0 c2_1 c2_2 c2_3 c2_4 c2_5 c2_6 c2_7 c2_8 c2_9 c2_10 c2_11 c2_12
  go_wp2_with fail
  refine Calls.mono (refThing_any i _) ?_
  rintro e w4 ⟨rfl, g4⟩
  have G4 := Hid.mk' (G3.out.trans g4)
  have c4_0 : w4.cell? ⟨w.heap.size, 0, none⟩ = some (.int .i64 3) := g4.cell (by go_simp) (by simp)
  have c4_1 : w4.cell? ⟨w.heap.size, 1, none⟩ = some (.int .i64 s) := g4.cell (by go_simp) (by simp)
  have c4_2 : w4.cell? ⟨w.heap.size, 2, none⟩ = some (.int .i64 i.sh) := g4.cell (by go_simp) (by simp)
  have c4_3 : w4.cell? ⟨w.heap.size, 3, none⟩ = some (.int .i64 i.nu) := g4.cell (by go_simp) (by simp)
  have c4_4 : w4.cell? ⟨w.heap.size, 4, none⟩ = some (.float .f32 i.pl) := g4.cell (by go_simp) (by simp)
  have c4_5 : w4.cell? ⟨w.heap.size, 5, none⟩ = some (.float .f32 i.sp) := g4.cell (by go_simp) (by simp)
  have c4_6 : w4.cell? ⟨w.heap.size, 6, none⟩ = some (.int .i64 0) := g4.cell (by go_simp) (by simp)
  have c4_7 : w4.cell? ⟨w.heap.size, 7, none⟩ = some (.int .i64 0) := g4.cell (by go_simp) (by simp)
  have c4_8 : w4.cell? ⟨w.heap.size, 8, none⟩ = some (.int .i64 0) := g4.cell (by go_simp) (by simp)
  have c4_9 : w4.cell? ⟨w.heap.size, 9, none⟩ = some (.int .i64 0) := g4.cell (by go_simp) (by simp)
  have c4_10 : w4.cell? ⟨w.heap.size, 10, none⟩ = some (.int .i64 0) := g4.cell (by go_simp) (by simp)
  have c4_11 : w4.cell? ⟨w.heap.size, 11, none⟩ = some (.slice ai 0 ci) := g4.cell (by go_simp) (by simp)
  have c4_12 : w4.cell? ⟨w.heap.size, 12, none⟩ = some (.slice ao 0 co) := g4.cell (by go_simp) (by simp)
  clear c3_0 c3_1 c3_2 c3_3 c3_4 c3_5 c3_6 c3_7 c3_8 c3_9 c3_10 c3_11 c3_12
  cases h5 : noB i false
  · go_wp2_with fail
    go_ret
    exact ⟨ret_bool (by rw [no_false] at h5; simp [mayB, h5]), G4.out⟩
  · go_wp2_with fail
    go_ret
    exact ⟨ret_bool (by rw [no_false] at h5; simp [mayB, nobB, mkZ, h5]), G4.out⟩

set_option maxHeartbeats 4000000 in
theorem refMay_4 (s : Int) (i : It) (ai ao : Option Addr) (ci co : Nat) (w : World) (hp : i.pl < 4294967296) (hs : i.sp < 4294967296) (fp : fin32 i.pl = true) (fs : fin32 i.sp = true) :
    Calls Try.prog 25 #[rv 4 s i mk0 (.slice ai 0 ci) (.slice ao 0 co)] w fun e w' => e = .returned (.bool (mayB ⟨4, s, i, mk0, [], []⟩)) ∧ w.grownBy w' none := by
  unfold rv mk0
  go_enter Try.func25, Try.ntmps25
  go_wp2_with fail
  refine Calls.mono (num_of i.pl _ _ fp) ?_
  rintro e w1 ⟨rfl, g1⟩
  have G1 := Hid.mk' ((World.grownBy_alloc w _ none).trans g1)
  have c1_0 : w1.cell? ⟨w.heap.size, 0, none⟩ = some (.int .i64 4) := g1.cell (by go_simp) (by simp)
  have c1_1 : w1.cell? ⟨w.heap.size, 1, none⟩ = some (.int .i64 s) := g1.cell (by go_simp) (by simp)
  have c1_2 : w1.cell? ⟨w.heap.size, 2, none⟩ = some (.int .i64 i.sh) := g1.cell (by go_simp) (by simp)
  have c1_3 : w1.cell? ⟨w.heap.size, 3, none⟩ = some (.int .i64 i.nu) := g1.cell (by go_simp) (by simp)
  have c1_4 : w1.cell? ⟨w.heap.size, 4, none⟩ = some (.float .f32 i.pl) := g1.cell (by go_simp) (by simp)
  have c1_5 : w1.cell? ⟨w.heap.size, 5, none⟩ = some (.float .f32 i.sp) := g1.cell (by go_simp) (by simp)
  have c1_6 : w1.cell? ⟨w.heap.size, 6, none⟩ = some (.int .i64 0) := g1.cell (by go_simp) (by simp)
  have c1_7 : w1.cell? ⟨w.heap.size, 7, none⟩ = some (.int .i64 0) := g1.cell (by go_simp) (by simp)
  have c1_8 : w1.cell? ⟨w.heap.size, 8, none⟩ = some (.int .i64 0) := g1.cell (by go_simp) (by simp)
  have c1_9 : w1.cell? ⟨w.heap.size, 9, none⟩ = some (.int .i64 0) := g1.cell (by go_simp) (by simp)
  have c1_10 : w1.cell? ⟨w.heap.size, 10, none⟩ = some (.int .i64 0) := g1.cell (by go_simp) (by simp)
  have c1_11 : w1.cell? ⟨w.heap.size, 11, none⟩ = some (.slice ai 0 ci) := g1.cell (by go_simp) (by simp)
  have c1_12 : w1.cell? ⟨w.heap.size, 12, none⟩ = some (.slice ao 0 co) := g1.cell (by go_simp) (by simp)
  go_wp2_with fail
  refine Calls.mono (num_of i.sp _ _ fs) ?_
  rintro e w2 ⟨rfl, g2⟩
  have G2 := Hid.mk' (G1.out.trans g2)
  have c2_0 : w2.cell? ⟨w.heap.size, 0, none⟩ = some (.int .i64 4) := g2.cell (by go_simp) (by simp)
  have c2_1 : w2.cell? ⟨w.heap.size, 1, none⟩ = some (.int .i64 s) := g2.cell (by go_simp) (by simp)
  have c2_2 : w2.cell? ⟨w.heap.size, 2, none⟩ = some (.int .i64 i.sh) := g2.cell (by go_simp) (by simp)
  have c2_3 : w2.cell? ⟨w.heap.size, 3, none⟩ = some (.int .i64 i.nu) := g2.cell (by go_simp) (by simp)
  have c2_4 : w2.cell? ⟨w.heap.size, 4, none⟩ = some (.float .f32 i.pl) := g2.cell (by go_simp) (by simp)
  have c2_5 : w2.cell? ⟨w.heap.size, 5, none⟩ = some (.float .f32 i.sp) := g2.cell (by go_simp) (by simp)
  have c2_6 : w2.cell? ⟨w.heap.size, 6, none⟩ = some (.int .i64 0) := g2.cell (by go_simp) (by simp)
  have c2_7 : w2.cell? ⟨w.heap.size, 7, none⟩ = some (.int .i64 0) := g2.cell (by go_simp) (by simp)
  have c2_8 : w2.cell? ⟨w.heap.size, 8, none⟩ = some (.int .i64 0) := g2.cell (by go_simp) (by simp)
  have c2_9 : w2.cell? ⟨w.heap.size, 9, none⟩ = some (.int .i64 0) := g2.cell (by go_simp) (by simp)
  have c2_10 : w2.cell? ⟨w.heap.size, 10, none⟩ = some (.int .i64 0) := g2.cell (by go_simp) (by simp)
  have c2_11 : w2.cell? ⟨w.heap.size, 11, none⟩ = some (.slice ai 0 ci) := g2.cell (by go_simp) (by simp)
  have c2_12 : w2.cell? ⟨w.heap.size, 12, none⟩ = some (.slice ao 0 co) := g2.cell (by go_simp) (by simp)
  clear c1_0 c1_1 c1_2 c1_3 c1_4 c1_5 c1_6 c1_7 c1_8 c1_9 c1_10 c1_11 c1_12
  go_wp2_with fail
  refine Calls.mono (refNothing_any i false _ hp hs fp fs) ?_
  rintro e w3 ⟨rfl, g3⟩
  have G3 := Hid.mk' (G2.out.trans g3)
  have c3_0 : w3.cell? ⟨w.heap.size, 0, none⟩ = some (.int .i64 4) := g3.cell (by go_simp) (by simp)
  have c3_1 : w3.cell? ⟨w.heap.size, 1, none⟩ = some (.int .i64 s) := g3.cell (by go_simp) (by simp)
  have c3_2 : w3.cell? ⟨w.heap.size, 2, none⟩ = some (.int .i64 i.sh) := g3.cell (by go_simp) (by simp)
  have c3_3 : w3.cell? ⟨w.heap.size, 3, none⟩ = some (.int .i64 i.nu) := g3.cell (by go_simp) (by simp)
  have c3_4 : w3.cell? ⟨w.heap.size, 4, none⟩ = some (.float .f32 i.pl) := g3.cell (by go_simp) (by simp)
  have c3_5 : w3.cell? ⟨w.heap.size, 5, none⟩ = some (.float .f32 i.sp) := g3.cell (by go_simp) (by simp)
  have c3_6 : w3.cell? ⟨w.heap.size, 6, none⟩ = some (.int .i64 0) := g3.cell (by go_simp) (by simp)
  have c3_7 : w3.cell? ⟨w.heap.size, 7, none⟩ = some (.int .i64 0) := g3.cell (by go_simp) (by simp)
  have c3_8 : w3.cell? ⟨w.heap.size, 8, none⟩ = some (.int .i64 0) := g3.cell (by go_simp) (by simp)
  have c3_9 : w3.cell? ⟨w.heap.size, 9, none⟩ = some (.int .i64 0) := g3.cell (by go_simp) (by simp)
  have c3_10 : w3.cell? ⟨w.heap.size, 10, none⟩ = some (.int .i64 0) := g3.cell (by go_simp) (by simp)
  have c3_11 : w3.cell? ⟨w.heap.size, 11, none⟩ = some (.slice ai 0 ci) := g3.cell (by go_simp) (by simp)
  have c3_12 : w3.cell? ⟨w.heap.size, 12, none⟩ = some (.slice ao 0 co) := g3.cell (by go_simp) (by simp)
  clear c2_0 c2_1 c2_2 c2_3 c2_4 c2_5 c2_6 c2_7 c2_8 c2_9 c2_10 c2_11 c2_12
  go_wp2_with fail
  refine Calls.mono (refThing_any i _) ?_
  rintro e w4 ⟨rfl, g4⟩
  have G4 := Hid.mk' (G3.out.trans g4)
  have c4_0 : w4.cell? ⟨w.heap.size, 0, none⟩ = some (.int .i64 4) := g4.cell (by go_simp) (by simp)
  have c4_1 : w4.cell? ⟨w.heap.size, 1, none⟩ = some (.int .i64 s) := g4.cell (by go_simp) (by simp)
  have c4_2 : w4.cell? ⟨w.heap.size, 2, none⟩ = some (.int .i64 i.sh) := g4.cell (by go_simp) (by simp)
  have c4_3 : w4.cell? ⟨w.heap.size, 3, none⟩ = some (.int .i64 i.nu) := g4.cell (by go_simp) (by simp)
  have c4_4 : w4.cell? ⟨w.heap.size, 4, none⟩ = some (.float .f32 i.pl) := g4.cell (by go_simp) (by simp)
  have c4_5 : w4.cell? ⟨w.heap.size, 5, none⟩ = some (.float .f32 i.sp) := g4.cell (by go_simp) (by simp)
  have c4_6 : w4.cell? ⟨w.heap.size, 6, none⟩ = some (.int .i64 0) := g4.cell (by go_simp) (by simp)
  have c4_7 : w4.cell? ⟨w.heap.size, 7, none⟩ = some (.int .i64 0) := g4.cell (by go_simp) (by simp)
  have c4_8 : w4.cell? ⟨w.heap.size, 8, none⟩ = some (.int .i64 0) := g4.cell (by go_simp) (by simp)
  have c4_9 : w4.cell? ⟨w.heap.size, 9, none⟩ = some (.int .i64 0) := g4.cell (by go_simp) (by simp)
  have c4_10 : w4.cell? ⟨w.heap.size, 10, none⟩ = some (.int .i64 0) := g4.cell (by go_simp) (by simp)
  have c4_11 : w4.cell? ⟨w.heap.size, 11, none⟩ = some (.slice ai 0 ci) := g4.cell (by go_simp) (by simp)
  have c4_12 : w4.cell? ⟨w.heap.size, 12, none⟩ = some (.slice ao 0 co) := g4.cell (by go_simp) (by simp)
  clear c3_0 c3_1 c3_2 c3_3 c3_4 c3_5 c3_6 c3_7 c3_8 c3_9 c3_10 c3_11 c3_12
  cases h5 : itB i
  · go_wp2_with fail
    go_ret
    exact ⟨ret_bool (by simp [mayB, h5]), G4.out⟩
  · go_wp2_with (first | (go_at_call 44; refine (refMay_any s 1 _).mono ?_; rintro e w' ⟨rfl, rfl⟩))
    go_ret
    exact ⟨ret_bool (by rw [one_isN]; simp [mayB, nobB, mkZ, h5]), G4.out⟩

set_option maxHeartbeats 4000000 in
theorem refMay_7 (s : Int) (i : It) (ai ao : Option Addr) (ci co : Nat) (w : World) (hp : i.pl < 4294967296) (hs : i.sp < 4294967296) (fp : fin32 i.pl = true) (fs : fin32 i.sp = true) :
    Calls Try.prog 25 #[rv 7 s i mk0 (.slice ai 0 ci) (.slice ao 0 co)] w fun e w' => e = .returned (.bool (mayB ⟨7, s, i, mk0, [], []⟩)) ∧ w.grownBy w' none := by
  unfold rv mk0
  go_enter Try.func25, Try.ntmps25
  go_wp2_with fail
  refine Calls.mono (num_of i.pl _ _ fp) ?_
  rintro e w1 ⟨rfl, g1⟩
  have G1 := Hid.mk' ((World.grownBy_alloc w _ none).trans g1)
  have c1_0 : w1.cell? ⟨w.heap.size, 0, none⟩ = some (.int .i64 7) := g1.cell (by go_simp) (by simp)
  have c1_1 : w1.cell? ⟨w.heap.size, 1, none⟩ = some (.int .i64 s) := g1.cell (by go_simp) (by simp)
  have c1_2 : w1.cell? ⟨w.heap.size, 2, none⟩ = some (.int .i64 i.sh) := g1.cell (by go_simp) (by simp)
  have c1_3 : w1.cell? ⟨w.heap.size, 3, none⟩ = some (.int .i64 i.nu) := g1.cell (by go_simp) (by simp)
  have c1_4 : w1.cell? ⟨w.heap.size, 4, none⟩ = some (.float .f32 i.pl) := g1.cell (by go_simp) (by simp)
  have c1_5 : w1.cell? ⟨w.heap.size, 5, none⟩ = some (.float .f32 i.sp) := g1.cell (by go_simp) (by simp)
  have c1_6 : w1.cell? ⟨w.heap.size, 6, none⟩ = some (.int .i64 0) := g1.cell (by go_simp) (by simp)
  have c1_7 : w1.cell? ⟨w.heap.size, 7, none⟩ = some (.int .i64 0) := g1.cell (by go_simp) (by simp)
  have c1_8 : w1.cell? ⟨w.heap.size, 8, none⟩ = some (.int .i64 0) := g1.cell (by go_simp) (by simp)
  have c1_9 : w1.cell? ⟨w.heap.size, 9, none⟩ = some (.int .i64 0) := g1.cell (by go_simp) (by simp)
  have c1_10 : w1.cell? ⟨w.heap.size, 10, none⟩ = some (.int .i64 0) := g1.cell (by go_simp) (by simp)
  have c1_11 : w1.cell? ⟨w.heap.size, 11, none⟩ = some (.slice ai 0 ci) := g1.cell (by go_simp) (by simp)
  have c1_12 : w1.cell? ⟨w.heap.size, 12, none⟩ = some (.slice ao 0 co) := g1.cell (by go_simp) (by simp)
  go_wp2_with fail
  refine Calls.mono (num_of i.sp _ _ fs) ?_
  rintro e w2 ⟨rfl, g2⟩
  have G2 := Hid.mk' (G1.out.trans g2)
  have c2_0 : w2.cell? ⟨w.heap.size, 0, none⟩ = some (.int .i64 7) := g2.cell (by go_simp) (by simp)
  have c2_1 : w2.cell? ⟨w.heap.size, 1, none⟩ = some (.int .i64 s) := g2.cell (by go_simp) (by simp)
  have c2_2 : w2.cell? ⟨w.heap.size, 2, none⟩ = some (.int .i64 i.sh) := g2.cell (by go_simp) (by simp)
  have c2_3 : w2.cell? ⟨w.heap.size, 3, none⟩ = some (.int .i64 i.nu) := g2.cell (by go_simp) (by simp)
  have c2_4 : w2.cell? ⟨w.heap.size, 4, none⟩ = some (.float .f32 i.pl) := g2.cell (by go_simp) (by simp)
  have c2_5 : w2.cell? ⟨w.heap.size, 5, none⟩ = some (.float .f32 i.sp) := g2.cell (by go_simp) (by simp)
  have c2_6 : w2.cell? ⟨w.heap.size, 6, none⟩ = some (.int .i64 0) := g2.cell (by go_simp) (by simp)
  have c2_7 : w2.cell? ⟨w.heap.size, 7, none⟩ = some (.int .i64 0) := g2.cell (by go_simp) (by simp)
  have c2_8 : w2.cell? ⟨w.heap.size, 8, none⟩ = some (.int .i64 0) := g2.cell (by go_simp) (by simp)
  have c2_9 : w2.cell? ⟨w.heap.size, 9, none⟩ = some (.int .i64 0) := g2.cell (by go_simp) (by simp)
  have c2_10 : w2.cell? ⟨w.heap.size, 10, none⟩ = some (.int .i64 0) := g2.cell (by go_simp) (by simp)
  have c2_11 : w2.cell? ⟨w.heap.size, 11, none⟩ = some (.slice ai 0 ci) := g2.cell (by go_simp) (by simp)
  have c2_12 : w2.cell? ⟨w.heap.size, 12, none⟩ = some (.slice ao 0 co) := g2.cell (by go_simp) (by simp)
  clear c1_0 c1_1 c1_2 c1_3 c1_4 c1_5 c1_6 c1_7 c1_8 c1_9 c1_10 c1_11 c1_12
  go_wp2_with fail
  refine Calls.mono (refNothing_any i false _ hp hs fp fs) ?_
  rintro e w3 ⟨rfl, g3⟩
  have G3 := Hid.mk' (G2.out.trans g3)
  have c3_0 : w3.cell? ⟨w.heap.size, 0, none⟩ = some (.int .i64 7) := g3.cell (by go_simp) (by simp)
  have c3_1 : w3.cell? ⟨w.heap.size, 1, none⟩ = some (.int .i64 s) := g3.cell (by go_simp) (by simp)
  have c3_2 : w3.cell? ⟨w.heap.size, 2, none⟩ = some (.int .i64 i.sh) := g3.cell (by go_simp) (by simp)
  have c3_3 : w3.cell? ⟨w.heap.size, 3, none⟩ = some (.int .i64 i.nu) := g3.cell (by go_simp) (by simp)
  have c3_4 : w3.cell? ⟨w.heap.size, 4, none⟩ = some (.float .f32 i.pl) := g3.cell (by go_simp) (by simp)
  have c3_5 : w3.cell? ⟨w.heap.size, 5, none⟩ = some (.float .f32 i.sp) := g3.cell (by go_simp) (by simp)
  have c3_6 : w3.cell? ⟨w.heap.size, 6, none⟩ = some (.int .i64 0) := g3.cell (by go_simp) (by simp)
  have c3_7 : w3.cell? ⟨w.heap.size, 7, none⟩ = some (.int .i64 0) := g3.cell (by go_simp) (by simp)
  have c3_8 : w3.cell? ⟨w.heap.size, 8, none⟩ = some (.int .i64 0) := g3.cell (by go_simp) (by simp)
  have c3_9 : w3.cell? ⟨w.heap.size, 9, none⟩ = some (.int .i64 0) := g3.cell (by go_simp) (by simp)
  have c3_10 : w3.cell? ⟨w.heap.size, 10, none⟩ = some (.int .i64 0) := g3.cell (by go_simp) (by simp)
  have c3_11 : w3.cell? ⟨w.heap.size, 11, none⟩ = some (.slice ai 0 ci) := g3.cell (by go_simp) (by simp)
  have c3_12 : w3.cell? ⟨w.heap.size, 12, none⟩ = some (.slice ao 0 co) := g3.cell (by go_simp) (by simp)
  clear c2_0 c2_1 c2_2 c2_3 c2_4 c2_5 c2_6 c2_7 c2_8 c2_9 c2_10 c2_11 c2_12
  go_wp2_with fail
  refine Calls.mono (refThing_any i _) ?_
  rintro e w4 ⟨rfl, g4⟩
  have G4 := Hid.mk' (G3.out.trans g4)
  have c4_0 : w4.cell? ⟨w.heap.size, 0, none⟩ = some (.int .i64 7) := g4.cell (by go_simp) (by simp)
  have c4_1 : w4.cell? ⟨w.heap.size, 1, none⟩ = some (.int .i64 s) := g4.cell (by go_simp) (by simp)
  have c4_2 : w4.cell? ⟨w.heap.size, 2, none⟩ = some (.int .i64 i.sh) := g4.cell (by go_simp) (by simp)
  have c4_3 : w4.cell? ⟨w.heap.size, 3, none⟩ = some (.int .i64 i.nu) := g4.cell (by go_simp) (by simp)
  have c4_4 : w4.cell? ⟨w.heap.size, 4, none⟩ = some (.float .f32 i.pl) := g4.cell (by go_simp) (by simp)
  have c4_5 : w4.cell? ⟨w.heap.size, 5, none⟩ = some (.float .f32 i.sp) := g4.cell (by go_simp) (by simp)
  have c4_6 : w4.cell? ⟨w.heap.size, 6, none⟩ = some (.int .i64 0) := g4.cell (by go_simp) (by simp)
  have c4_7 : w4.cell? ⟨w.heap.size, 7, none⟩ = some (.int .i64 0) := g4.cell (by go_simp) (by simp)
  have c4_8 : w4.cell? ⟨w.heap.size, 8, none⟩ = some (.int .i64 0) := g4.cell (by go_simp) (by simp)
  have c4_9 : w4.cell? ⟨w.heap.size, 9, none⟩ = some (.int .i64 0) := g4.cell (by go_simp) (by simp)
  have c4_10 : w4.cell? ⟨w.heap.size, 10, none⟩ = some (.int .i64 0) := g4.cell (by go_simp) (by simp)
  have c4_11 : w4.cell? ⟨w.heap.size, 11, none⟩ = some (.slice ai 0 ci) := g4.cell (by go_simp) (by simp)
  have c4_12 : w4.cell? ⟨w.heap.size, 12, none⟩ = some (.slice ao 0 co) := g4.cell (by go_simp) (by simp)
  clear c3_0 c3_1 c3_2 c3_3 c3_4 c3_5 c3_6 c3_7 c3_8 c3_9 c3_10 c3_11 c3_12
  cases h5 : itB i
  · go_wp2_with fail
    go_ret
    exact ⟨ret_bool (by simp [mayB, h5]), G4.out⟩
  · go_wp2_with (first | (go_at_call 44; refine (refMay_any s 1 _).mono ?_; rintro e w' ⟨rfl, rfl⟩))
    go_ret
    exact ⟨ret_bool (by rw [one_isN]; simp [mayB, nobB, mkZ, h5]), G4.out⟩

set_option maxHeartbeats 4000000 in
theorem refMay_5 (s : Int) (i : It) (ai ao : Option Addr) (ci co : Nat) (w : World) (hp : i.pl < 4294967296) (hs : i.sp < 4294967296) (fp : fin32 i.pl = true) (fs : fin32 i.sp = true) :
    Calls Try.prog 25 #[rv 5 s i mk0 (.slice ai 0 ci) (.slice ao 0 co)] w fun e w' => e = .returned (.bool (mayB ⟨5, s, i, mk0, [], []⟩)) ∧ w.grownBy w' none := by
  unfold rv mk0
  go_enter Try.func25, Try.ntmps25
  go_wp2_with fail
  refine Calls.mono (num_of i.pl _ _ fp) ?_
  rintro e w1 ⟨rfl, g1⟩
  have G1 := Hid.mk' ((World.grownBy_alloc w _ none).trans g1)
  have c1_0 : w1.cell? ⟨w.heap.size, 0, none⟩ = some (.int .i64 5) := g1.cell (by go_simp) (by simp)
  have c1_1 : w1.cell? ⟨w.heap.size, 1, none⟩ = some (.int .i64 s) := g1.cell (by go_simp) (by simp)
  have c1_2 : w1.cell? ⟨w.heap.size, 2, none⟩ = some (.int .i64 i.sh) := g1.cell (by go_simp) (by simp)
  have c1_3 : w1.cell? ⟨w.heap.size, 3, none⟩ = some (.int .i64 i.nu) := g1.cell (by go_simp) (by simp)
  have c1_4 : w1.cell? ⟨w.heap.size, 4, none⟩ = some (.float .f32 i.pl) := g1.cell (by go_simp) (by simp)
  have c1_5 : w1.cell? ⟨w.heap.size, 5, none⟩ = some (.float .f32 i.sp) := g1.cell (by go_simp) (by simp)
  have c1_6 : w1.cell? ⟨w.heap.size, 6, none⟩ = some (.int .i64 0) := g1.cell (by go_simp) (by simp)
  have c1_7 : w1.cell? ⟨w.heap.size, 7, none⟩ = some (.int .i64 0) := g1.cell (by go_simp) (by simp)
  have c1_8 : w1.cell? ⟨w.heap.size, 8, none⟩ = some (.int .i64 0) := g1.cell (by go_simp) (by simp)
  have c1_9 : w1.cell? ⟨w.heap.size, 9, none⟩ = some (.int .i64 0) := g1.cell (by go_simp) (by simp)
  have c1_10 : w1.cell? ⟨w.heap.size, 10, none⟩ = some (.int .i64 0) := g1.cell (by go_simp) (by simp)
  have c1_11 : w1.cell? ⟨w.heap.size, 11, none⟩ = some (.slice ai 0 ci) := g1.cell (by go_simp) (by simp)
  have c1_12 : w1.cell? ⟨w.heap.size, 12, none⟩ = some (.slice ao 0 co) := g1.cell (by go_simp) (by simp)
  go_wp2_with fail
  refine Calls.mono (num_of i.sp _ _ fs) ?_
  rintro e w2 ⟨rfl, g2⟩
  have G2 := Hid.mk' (G1.out.trans g2)
  have c2_0 : w2.cell? ⟨w.heap.size, 0, none⟩ = some (.int .i64 5) := g2.cell (by go_simp) (by simp)
  have c2_1 : w2.cell? ⟨w.heap.size, 1, none⟩ = some (.int .i64 s) := g2.cell (by go_simp) (by simp)
  have c2_2 : w2.cell? ⟨w.heap.size, 2, none⟩ = some (.int .i64 i.sh) := g2.cell (by go_simp) (by simp)
  have c2_3 : w2.cell? ⟨w.heap.size, 3, none⟩ = some (.int .i64 i.nu) := g2.cell (by go_simp) (by simp)
  have c2_4 : w2.cell? ⟨w.heap.size, 4, none⟩ = some (.float .f32 i.pl) := g2.cell (by go_simp) (by simp)
  have c2_5 : w2.cell? ⟨w.heap.size, 5, none⟩ = some (.float .f32 i.sp) := g2.cell (by go_simp) (by simp)
  have c2_6 : w2.cell? ⟨w.heap.size, 6, none⟩ = some (.int .i64 0) := g2.cell (by go_simp) (by simp)
  have c2_7 : w2.cell? ⟨w.heap.size, 7, none⟩ = some (.int .i64 0) := g2.cell (by go_simp) (by simp)
  have c2_8 : w2.cell? ⟨w.heap.size, 8, none⟩ = some (.int .i64 0) := g2.cell (by go_simp) (by simp)
  have c2_9 : w2.cell? ⟨w.heap.size, 9, none⟩ = some (.int .i64 0) := g2.cell (by go_simp) (by simp)
  have c2_10 : w2.cell? ⟨w.heap.size, 10, none⟩ = some (.int .i64 0) := g2.cell (by go_simp) (by simp)
  have c2_11 : w2.cell? ⟨w.heap.size, 11, none⟩ = some (.slice ai 0 ci) := g2.cell (by go_simp) (by simp)
  have c2_12 : w2.cell? ⟨w.heap.size, 12, none⟩ = some (.slice ao 0 co) := g2.cell (by go_simp) (by simp)
  clear c1_0 c1_1 c1_2 c1_3 c1_4 c1_5 c1_6 c1_7 c1_8 c1_9 c1_10 c1_11 c1_12
  go_wp2_with fail
  refine Calls.mono (refNothing_any i false _ hp hs fp fs) ?_
  rintro e w3 ⟨rfl, g3⟩
  have G3 := Hid.mk' (G2.out.trans g3)
  have c3_0 : w3.cell? ⟨w.heap.size, 0, none⟩ = some (.int .i64 5) := g3.cell (by go_simp) (by simp)
  have c3_1 : w3.cell? ⟨w.heap.size, 1, none⟩ = some (.int .i64 s) := g3.cell (by go_simp) (by simp)
  have c3_2 : w3.cell? ⟨w.heap.size, 2, none⟩ = some (.int .i64 i.sh) := g3.cell (by go_simp) (by simp)
  have c3_3 : w3.cell? ⟨w.heap.size, 3, none⟩ = some (.int .i64 i.nu) := g3.cell (by go_simp) (by simp)
  have c3_4 : w3.cell? ⟨w.heap.size, 4, none⟩ = some (.float .f32 i.pl) := g3.cell (by go_simp) (by simp)
  have c3_5 : w3.cell? ⟨w.heap.size, 5, none⟩ = some (.float .f32 i.sp) := g3.cell (by go_simp) (by simp)
  have c3_6 : w3.cell? ⟨w.heap.size, 6, none⟩ = some (.int .i64 0) := g3.cell (by go_simp) (by simp)
  have c3_7 : w3.cell? ⟨w.heap.size, 7, none⟩ = some (.int .i64 0) := g3.cell (by go_simp) (by simp)
  have c3_8 : w3.cell? ⟨w.heap.size, 8, none⟩ = some (.int .i64 0) := g3.cell (by go_simp) (by simp)
  have c3_9 : w3.cell? ⟨w.heap.size, 9, none⟩ = some (.int .i64 0) := g3.cell (by go_simp) (by simp)
  have c3_10 : w3.cell? ⟨w.heap.size, 10, none⟩ = some (.int .i64 0) := g3.cell (by go_simp) (by simp)
  have c3_11 : w3.cell? ⟨w.heap.size, 11, none⟩ = some (.slice ai 0 ci) := g3.cell (by go_simp) (by simp)
  have c3_12 : w3.cell? ⟨w.heap.size, 12, none⟩ = some (.slice ao 0 co) := g3.cell (by go_simp) (by simp)
  clear c2_0 c2_1 c2_2 c2_3 c2_4 c2_5 c2_6 c2_7 c2_8 c2_9 c2_10 c2_11 c2_12
  go_wp2_with fail
  refine Calls.mono (refThing_any i _) ?_
  rintro e w4 ⟨rfl, g4⟩
  have G4 := Hid.mk' (G3.out.trans g4)
  have c4_0 : w4.cell? ⟨w.heap.size, 0, none⟩ = some (.int .i64 5) := g4.cell (by go_simp) (by simp)
  have c4_1 : w4.cell? ⟨w.heap.size, 1, none⟩ = some (.int .i64 s) := g4.cell (by go_simp) (by simp)
  have c4_2 : w4.cell? ⟨w.heap.size, 2, none⟩ = some (.int .i64 i.sh) := g4.cell (by go_simp) (by simp)
  have c4_3 : w4.cell? ⟨w.heap.size, 3, none⟩ = some (.int .i64 i.nu) := g4.cell (by go_simp) (by simp)
  have c4_4 : w4.cell? ⟨w.heap.size, 4, none⟩ = some (.float .f32 i.pl) := g4.cell (by go_simp) (by simp)
  have c4_5 : w4.cell? ⟨w.heap.size, 5, none⟩ = some (.float .f32 i.sp) := g4.cell (by go_simp) (by simp)
  have c4_6 : w4.cell? ⟨w.heap.size, 6, none⟩ = some (.int .i64 0) := g4.cell (by go_simp) (by simp)
  have c4_7 : w4.cell? ⟨w.heap.size, 7, none⟩ = some (.int .i64 0) := g4.cell (by go_simp) (by simp)
  have c4_8 : w4.cell? ⟨w.heap.size, 8, none⟩ = some (.int .i64 0) := g4.cell (by go_simp) (by simp)
  have c4_9 : w4.cell? ⟨w.heap.size, 9, none⟩ = some (.int .i64 0) := g4.cell (by go_simp) (by simp)
  have c4_10 : w4.cell? ⟨w.heap.size, 10, none⟩ = some (.int .i64 0) := g4.cell (by go_simp) (by simp)
  have c4_11 : w4.cell? ⟨w.heap.size, 11, none⟩ = some (.slice ai 0 ci) := g4.cell (by go_simp) (by simp)
  have c4_12 : w4.cell? ⟨w.heap.size, 12, none⟩ = some (.slice ao 0 co) := g4.cell (by go_simp) (by simp)
  clear c3_0 c3_1 c3_2 c3_3 c3_4 c3_5 c3_6 c3_7 c3_8 c3_9 c3_10 c3_11 c3_12
  cases h5 : noB i false
  · go_wp2_with fail
    go_ret
    exact ⟨ret_bool (by rw [no_false] at h5; simp [mayB, h5]), G4.out⟩
  · go_wp2_with (first | (go_at_call 44; refine (refMay_any s 0 _).mono ?_; rintro e w' ⟨rfl, rfl⟩))
    go_ret
    exact ⟨ret_bool (by rw [no_false] at h5; simp [mayB, nobB, mkZ, h5, isN]), G4.out⟩

set_option maxHeartbeats 4000000 in
theorem refMay_8 (s : Int) (i : It) (ai ao : Option Addr) (ci co : Nat) (w : World) (hp : i.pl < 4294967296) (hs : i.sp < 4294967296) (fp : fin32 i.pl = true) (fs : fin32 i.sp = true) :
    Calls Try.prog 25 #[rv 8 s i mk0 (.slice ai 0 ci) (.slice ao 0 co)] w fun e w' => e = .returned (.bool (mayB ⟨8, s, i, mk0, [], []⟩)) ∧ w.grownBy w' none := by
  unfold rv mk0
  go_enter Try.func25, Try.ntmps25
  go_wp2_with fail
  refine Calls.mono (num_of i.pl _ _ fp) ?_
  rintro e w1 ⟨rfl, g1⟩
  have G1 := Hid.mk' ((World.grownBy_alloc w _ none).trans g1)
  have c1_0 : w1.cell? ⟨w.heap.size, 0, none⟩ = some (.int .i64 8) := g1.cell (by go_simp) (by simp)
  have c1_1 : w1.cell? ⟨w.heap.size, 1, none⟩ = some (.int .i64 s) := g1.cell (by go_simp) (by simp)
  have c1_2 : w1.cell? ⟨w.heap.size, 2, none⟩ = some (.int .i64 i.sh) := g1.cell (by go_simp) (by simp)
  have c1_3 : w1.cell? ⟨w.heap.size, 3, none⟩ = some (.int .i64 i.nu) := g1.cell (by go_simp) (by simp)
  have c1_4 : w1.cell? ⟨w.heap.size, 4, none⟩ = some (.float .f32 i.pl) := g1.cell (by go_simp) (by simp)
  have c1_5 : w1.cell? ⟨w.heap.size, 5, none⟩ = some (.float .f32 i.sp) := g1.cell (by go_simp) (by simp)
  have c1_6 : w1.cell? ⟨w.heap.size, 6, none⟩ = some (.int .i64 0) := g1.cell (by go_simp) (by simp)
  have c1_7 : w1.cell? ⟨w.heap.size, 7, none⟩ = some (.int .i64 0) := g1.cell (by go_simp) (by simp)
  have c1_8 : w1.cell? ⟨w.heap.size, 8, none⟩ = some (.int .i64 0) := g1.cell (by go_simp) (by simp)
  have c1_9 : w1.cell? ⟨w.heap.size, 9, none⟩ = some (.int .i64 0) := g1.cell (by go_simp) (by simp)
  have c1_10 : w1.cell? ⟨w.heap.size, 10, none⟩ = some (.int .i64 0) := g1.cell (by go_simp) (by simp)
  have c1_11 : w1.cell? ⟨w.heap.size, 11, none⟩ = some (.slice ai 0 ci) := g1.cell (by go_simp) (by simp)
  have c1_12 : w1.cell? ⟨w.heap.size, 12, none⟩ = some (.slice ao 0 co) := g1.cell (by go_simp) (by simp)
  go_wp2_with fail
  refine Calls.mono (num_of i.sp _ _ fs) ?_
  rintro e w2 ⟨rfl, g2⟩
  have G2 := Hid.mk' (G1.out.trans g2)
  have c2_0 : w2.cell? ⟨w.heap.size, 0, none⟩ = some (.int .i64 8) := g2.cell (by go_simp) (by simp)
  have c2_1 : w2.cell? ⟨w.heap.size, 1, none⟩ = some (.int .i64 s) := g2.cell (by go_simp) (by simp)
  have c2_2 : w2.cell? ⟨w.heap.size, 2, none⟩ = some (.int .i64 i.sh) := g2.cell (by go_simp) (by simp)
  have c2_3 : w2.cell? ⟨w.heap.size, 3, none⟩ = some (.int .i64 i.nu) := g2.cell (by go_simp) (by simp)
  have c2_4 : w2.cell? ⟨w.heap.size, 4, none⟩ = some (.float .f32 i.pl) := g2.cell (by go_simp) (by simp)
  have c2_5 : w2.cell? ⟨w.heap.size, 5, none⟩ = some (.float .f32 i.sp) := g2.cell (by go_simp) (by simp)
  have c2_6 : w2.cell? ⟨w.heap.size, 6, none⟩ = some (.int .i64 0) := g2.cell (by go_simp) (by simp)
  have c2_7 : w2.cell? ⟨w.heap.size, 7, none⟩ = some (.int .i64 0) := g2.cell (by go_simp) (by simp)
  have c2_8 : w2.cell? ⟨w.heap.size, 8, none⟩ = some (.int .i64 0) := g2.cell (by go_simp) (by simp)
  have c2_9 : w2.cell? ⟨w.heap.size, 9, none⟩ = some (.int .i64 0) := g2.cell (by go_simp) (by simp)
  have c2_10 : w2.cell? ⟨w.heap.size, 10, none⟩ = some (.int .i64 0) := g2.cell (by go_simp) (by simp)
  have c2_11 : w2.cell? ⟨w.heap.size, 11, none⟩ = some (.slice ai 0 ci) := g2.cell (by go_simp) (by simp)
  have c2_12 : w2.cell? ⟨w.heap.size, 12, none⟩ = some (.slice ao 0 co) := g2.cell (by go_simp) (by simp)
  clear c1_0 c1_1 c1_2 c1_3 c1_4 c1_5 c1_6 c1_7 c1_8 c1_9 c1_10 c1_11 c1_12
  go_wp2_with fail
  refine Calls.mono (refNothing_any i false _ hp hs fp fs) ?_
  rintro e w3 ⟨rfl, g3⟩
  have G3 := Hid.mk' (G2.out.trans g3)
  have c3_0 : w3.cell? ⟨w.heap.size, 0, none⟩ = some (.int .i64 8) := g3.cell (by go_simp) (by simp)
  have c3_1 : w3.cell? ⟨w.heap.size, 1, none⟩ = some (.int .i64 s) := g3.cell (by go_simp) (by simp)
  have c3_2 : w3.cell? ⟨w.heap.size, 2, none⟩ = some (.int .i64 i.sh) := g3.cell (by go_simp) (by simp)
  have c3_3 : w3.cell? ⟨w.heap.size, 3, none⟩ = some (.int .i64 i.nu) := g3.cell (by go_simp) (by simp)
  have c3_4 : w3.cell? ⟨w.heap.size, 4, none⟩ = some (.float .f32 i.pl) := g3.cell (by go_simp) (by simp)
  have c3_5 : w3.cell? ⟨w.heap.size, 5, none⟩ = some (.float .f32 i.sp) := g3.cell (by go_simp) (by simp)
  have c3_6 : w3.cell? ⟨w.heap.size, 6, none⟩ = some (.int .i64 0) := g3.cell (by go_simp) (by simp)
  have c3_7 : w3.cell? ⟨w.heap.size, 7, none⟩ = some (.int .i64 0) := g3.cell (by go_simp) (by simp)
  have c3_8 : w3.cell? ⟨w.heap.size, 8, none⟩ = some (.int .i64 0) := g3.cell (by go_simp) (by simp)
  have c3_9 : w3.cell? ⟨w.heap.size, 9, none⟩ = some (.int .i64 0) := g3.cell (by go_simp) (by simp)
  have c3_10 : w3.cell? ⟨w.heap.size, 10, none⟩ = some (.int .i64 0) := g3.cell (by go_simp) (by simp)
  have c3_11 : w3.cell? ⟨w.heap.size, 11, none⟩ = some (.slice ai 0 ci) := g3.cell (by go_simp) (by simp)
  have c3_12 : w3.cell? ⟨w.heap.size, 12, none⟩ = some (.slice ao 0 co) := g3.cell (by go_simp) (by simp)
  clear c2_0 c2_1 c2_2 c2_3 c2_4 c2_5 c2_6 c2_7 c2_8 c2_9 c2_10 c2_11 c2_12
  go_wp2_with fail
  refine Calls.mono (refThing_any i _) ?_
  rintro e w4 ⟨rfl, g4⟩
  have G4 := Hid.mk' (G3.out.trans g4)
  have c4_0 : w4.cell? ⟨w.heap.size, 0, none⟩ = some (.int .i64 8) := g4.cell (by go_simp) (by simp)
  have c4_1 : w4.cell? ⟨w.heap.size, 1, none⟩ = some (.int .i64 s) := g4.cell (by go_simp) (by simp)
  have c4_2 : w4.cell? ⟨w.heap.size, 2, none⟩ = some (.int .i64 i.sh) := g4.cell (by go_simp) (by simp)
  have c4_3 : w4.cell? ⟨w.heap.size, 3, none⟩ = some (.int .i64 i.nu) := g4.cell (by go_simp) (by simp)
  have c4_4 : w4.cell? ⟨w.heap.size, 4, none⟩ = some (.float .f32 i.pl) := g4.cell (by go_simp) (by simp)
  have c4_5 : w4.cell? ⟨w.heap.size, 5, none⟩ = some (.float .f32 i.sp) := g4.cell (by go_simp) (by simp)
  have c4_6 : w4.cell? ⟨w.heap.size, 6, none⟩ = some (.int .i64 0) := g4.cell (by go_simp) (by simp)
  have c4_7 : w4.cell? ⟨w.heap.size, 7, none⟩ = some (.int .i64 0) := g4.cell (by go_simp) (by simp)
  have c4_8 : w4.cell? ⟨w.heap.size, 8, none⟩ = some (.int .i64 0) := g4.cell (by go_simp) (by simp)
  have c4_9 : w4.cell? ⟨w.heap.size, 9, none⟩ = some (.int .i64 0) := g4.cell (by go_simp) (by simp)
  have c4_10 : w4.cell? ⟨w.heap.size, 10, none⟩ = some (.int .i64 0) := g4.cell (by go_simp) (by simp)
  have c4_11 : w4.cell? ⟨w.heap.size, 11, none⟩ = some (.slice ai 0 ci) := g4.cell (by go_simp) (by simp)
  have c4_12 : w4.cell? ⟨w.heap.size, 12, none⟩ = some (.slice ao 0 co) := g4.cell (by go_simp) (by simp)
  clear c3_0 c3_1 c3_2 c3_3 c3_4 c3_5 c3_6 c3_7 c3_8 c3_9 c3_10 c3_11 c3_12
  cases h5 : noB i false
  · go_wp2_with fail
    go_ret
    exact ⟨ret_bool (by rw [no_false] at h5; simp [mayB, h5]), G4.out⟩
  · go_wp2_with (first | (go_at_call 44; refine (refMay_any s 0 _).mono ?_; rintro e w' ⟨rfl, rfl⟩))
    go_ret
    exact ⟨ret_bool (by rw [no_false] at h5; simp [mayB, nobB, mkZ, h5, isN]), G4.out⟩

end Go.Proofs.Ytammnaafdhhjaaa
