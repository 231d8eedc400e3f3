/- Ytammnaafdhhjaaa: mayBe, kind by kind. -/
import Derived.Test.YtammnaafdhhjaaaW8
namespace Go.Proofs.Ytammnaafdhhjaaa
open Go.RowKit

theorem isNumber_g (n : Int) (w : World) :
    Calls Try.prog 52 #[.int .i64 n] w fun e w' => e = .returned (.bool (isN n)) ∧ w.grownBy w' none := by
  refine (isNumber_any n w).mono ?_
  rintro e w' ⟨he, rfl⟩
  exact ⟨he, grownBy_refl _ _⟩

set_option maxHeartbeats 2000000 in
theorem may_1 (s : Int) (i : It) (m : Mk) (is : List It) (es : List En) (vi vo : Value) (w : World) (hi : LiesI w vi is) (ho : LiesE w vo es) :
    Calls Try.prog 28 #[rv 1 s i m vi vo] w fun e w' => e = .returned (.bool (mayB ⟨1, s, i, m, is, es⟩)) ∧ w.grownBy w' none := by
  have HI := Hid.mk' hi
  have HO := Hid.mk' ho
  clear hi ho
  unfold rv
  obtain ⟨ai, ci, rfl, _⟩ := HI.out
  obtain ⟨ao, co, rfl, _⟩ := HO.out
  by_cases hs : ¬ s = 0
  · have hs' : (s == 0) = false := by simp [hs]
    have E : mayB ⟨1, s, i, m, is, es⟩ = false := by simp [mayB, hs]
    rw [E]
    clear E hs
    go_enter Try.func28, Try.ntmps28
    go_wp2_with fail
    go_ret
    exact ⟨rfl, World.grownBy_alloc _ _ _⟩
  replace hs : s = 0 := by omega
  subst hs
  go_enter Try.func28, Try.ntmps28
  go_wp2_with fail
  refine Calls.mono (itMay_any i _) ?_
  rintro e w1 ⟨rfl, g1⟩
  have G1 := Hid.mk' ((World.grownBy_alloc w _ none).trans g1)
  have c1_0 : w1.cell? ⟨w.heap.size, 0, none⟩ = some (.int .i64 1) := g1.cell (by go_simp) (by simp)
  have c1_1 : w1.cell? ⟨w.heap.size, 1, none⟩ = some (.int .i64 0) := g1.cell (by go_simp) (by simp)
  have c1_2 : w1.cell? ⟨w.heap.size, 2, none⟩ = some (.int .i64 i.sh) := g1.cell (by go_simp) (by simp)
  have c1_3 : w1.cell? ⟨w.heap.size, 3, none⟩ = some (.int .i64 i.nu) := g1.cell (by go_simp) (by simp)
  have c1_4 : w1.cell? ⟨w.heap.size, 4, none⟩ = some (.float .f32 i.pl) := g1.cell (by go_simp) (by simp)
  have c1_5 : w1.cell? ⟨w.heap.size, 5, none⟩ = some (.float .f32 i.sp) := g1.cell (by go_simp) (by simp)
  have c1_6 : w1.cell? ⟨w.heap.size, 6, none⟩ = some (.int .i64 m.g) := g1.cell (by go_simp) (by simp)
  have c1_7 : w1.cell? ⟨w.heap.size, 7, none⟩ = some (.int .i64 m.m) := g1.cell (by go_simp) (by simp)
  have c1_8 : w1.cell? ⟨w.heap.size, 8, none⟩ = some (.int .i64 m.s) := g1.cell (by go_simp) (by simp)
  have c1_9 : w1.cell? ⟨w.heap.size, 9, none⟩ = some (.int .i64 m.a) := g1.cell (by go_simp) (by simp)
  have c1_10 : w1.cell? ⟨w.heap.size, 10, none⟩ = some (.int .i64 m.n) := g1.cell (by go_simp) (by simp)
  have c1_11 : w1.cell? ⟨w.heap.size, 11, none⟩ = some (.slice ai is.length ci) := g1.cell (by go_simp) (by simp)
  have c1_12 : w1.cell? ⟨w.heap.size, 12, none⟩ = some (.slice ao es.length co) := g1.cell (by go_simp) (by simp)
  cases h1 : itB i
  · go_wp2_with fail
    go_ret
    exact ⟨ret_bool (by simp [mayB, h1]), G1.out⟩
  go_wp2_with fail
  refine Calls.mono (noBase_any 1 0 i m ai ao is.length ci es.length co _) ?_
  rintro e w2 ⟨rfl, g2⟩
  have G2 := Hid.mk' (G1.out.trans g2)
  go_wp2_with fail
  go_ret
  exact ⟨ret_bool (by simp [mayB, nobB, h1]), G2.out⟩

set_option maxHeartbeats 2000000 in
theorem may_2 (s : Int) (i : It) (m : Mk) (is : List It) (es : List En) (vi vo : Value) (w : World) (hi : LiesI w vi is) (ho : LiesE w vo es) :
    Calls Try.prog 28 #[rv 2 s i m vi vo] w fun e w' => e = .returned (.bool (mayB ⟨2, s, i, m, is, es⟩)) ∧ w.grownBy w' none := by
  have HI := Hid.mk' hi
  have HO := Hid.mk' ho
  clear hi ho
  unfold rv
  obtain ⟨ai, ci, rfl, _⟩ := HI.out
  obtain ⟨ao, co, rfl, _⟩ := HO.out
  by_cases hs : ¬ s = 0
  · have hs' : (s == 0) = false := by simp [hs]
    have E : mayB ⟨2, s, i, m, is, es⟩ = false := by simp [mayB, hs]
    rw [E]
    clear E hs
    go_enter Try.func28, Try.ntmps28
    go_wp2_with fail
    go_ret
    exact ⟨rfl, World.grownBy_alloc _ _ _⟩
  replace hs : s = 0 := by omega
  subst hs
  go_enter Try.func28, Try.ntmps28
  go_wp2_with fail
  refine Calls.mono (idMay_any i.sh i.nu _) ?_
  rintro e w1 ⟨rfl, g1⟩
  have G1 := Hid.mk' ((World.grownBy_alloc w _ none).trans g1)
  have c1_0 : w1.cell? ⟨w.heap.size, 0, none⟩ = some (.int .i64 2) := g1.cell (by go_simp) (by simp)
  have c1_1 : w1.cell? ⟨w.heap.size, 1, none⟩ = some (.int .i64 0) := g1.cell (by go_simp) (by simp)
  have c1_2 : w1.cell? ⟨w.heap.size, 2, none⟩ = some (.int .i64 i.sh) := g1.cell (by go_simp) (by simp)
  have c1_3 : w1.cell? ⟨w.heap.size, 3, none⟩ = some (.int .i64 i.nu) := g1.cell (by go_simp) (by simp)
  have c1_4 : w1.cell? ⟨w.heap.size, 4, none⟩ = some (.float .f32 i.pl) := g1.cell (by go_simp) (by simp)
  have c1_5 : w1.cell? ⟨w.heap.size, 5, none⟩ = some (.float .f32 i.sp) := g1.cell (by go_simp) (by simp)
  have c1_6 : w1.cell? ⟨w.heap.size, 6, none⟩ = some (.int .i64 m.g) := g1.cell (by go_simp) (by simp)
  have c1_7 : w1.cell? ⟨w.heap.size, 7, none⟩ = some (.int .i64 m.m) := g1.cell (by go_simp) (by simp)
  have c1_8 : w1.cell? ⟨w.heap.size, 8, none⟩ = some (.int .i64 m.s) := g1.cell (by go_simp) (by simp)
  have c1_9 : w1.cell? ⟨w.heap.size, 9, none⟩ = some (.int .i64 m.a) := g1.cell (by go_simp) (by simp)
  have c1_10 : w1.cell? ⟨w.heap.size, 10, none⟩ = some (.int .i64 m.n) := g1.cell (by go_simp) (by simp)
  have c1_11 : w1.cell? ⟨w.heap.size, 11, none⟩ = some (.slice ai is.length ci) := g1.cell (by go_simp) (by simp)
  have c1_12 : w1.cell? ⟨w.heap.size, 12, none⟩ = some (.slice ao es.length co) := g1.cell (by go_simp) (by simp)
  cases h1 : idB i.sh i.nu
  · go_wp2_with fail
    go_ret
    exact ⟨ret_bool (by simp [mayB, h1]), G1.out⟩
  go_wp2_with fail
  refine Calls.mono (still_any i _) ?_
  rintro e w2 ⟨rfl, g2⟩
  have G2 := Hid.mk' (G1.out.trans g2)
  have c2_0 : w2.cell? ⟨w.heap.size, 0, none⟩ = some (.int .i64 2) := g2.cell (by go_simp) (by simp)
  have c2_1 : w2.cell? ⟨w.heap.size, 1, none⟩ = some (.int .i64 0) := g2.cell (by go_simp) (by simp)
  have c2_2 : w2.cell? ⟨w.heap.size, 2, none⟩ = some (.int .i64 i.sh) := g2.cell (by go_simp) (by simp)
  have c2_3 : w2.cell? ⟨w.heap.size, 3, none⟩ = some (.int .i64 i.nu) := g2.cell (by go_simp) (by simp)
  have c2_4 : w2.cell? ⟨w.heap.size, 4, none⟩ = some (.float .f32 i.pl) := g2.cell (by go_simp) (by simp)
  have c2_5 : w2.cell? ⟨w.heap.size, 5, none⟩ = some (.float .f32 i.sp) := g2.cell (by go_simp) (by simp)
  have c2_6 : w2.cell? ⟨w.heap.size, 6, none⟩ = some (.int .i64 m.g) := g2.cell (by go_simp) (by simp)
  have c2_7 : w2.cell? ⟨w.heap.size, 7, none⟩ = some (.int .i64 m.m) := g2.cell (by go_simp) (by simp)
  have c2_8 : w2.cell? ⟨w.heap.size, 8, none⟩ = some (.int .i64 m.s) := g2.cell (by go_simp) (by simp)
  have c2_9 : w2.cell? ⟨w.heap.size, 9, none⟩ = some (.int .i64 m.a) := g2.cell (by go_simp) (by simp)
  have c2_10 : w2.cell? ⟨w.heap.size, 10, none⟩ = some (.int .i64 m.n) := g2.cell (by go_simp) (by simp)
  have c2_11 : w2.cell? ⟨w.heap.size, 11, none⟩ = some (.slice ai is.length ci) := g2.cell (by go_simp) (by simp)
  have c2_12 : w2.cell? ⟨w.heap.size, 12, none⟩ = some (.slice ao es.length co) := g2.cell (by go_simp) (by simp)
  clear c1_0 c1_1 c1_2 c1_3 c1_4 c1_5 c1_6 c1_7 c1_8 c1_9 c1_10 c1_11 c1_12
  cases h2 : stB i
  · go_wp2_with fail
    go_ret
    exact ⟨ret_bool (by simp [mayB, h2]), G2.out⟩
  go_wp2_with fail
  refine Calls.mono (noBase_any 2 0 i m ai ao is.length ci es.length co _) ?_
  rintro e w3 ⟨rfl, g3⟩
  have G3 := Hid.mk' (G2.out.trans g3)
  go_wp2_with fail
  go_ret
  exact ⟨ret_bool (by simp [mayB, nobB, h1, h2]), G3.out⟩

set_option maxHeartbeats 2000000 in
theorem may_3 (s : Int) (i : It) (m : Mk) (is : List It) (es : List En) (vi vo : Value) (w : World) (hi : LiesI w vi is) (ho : LiesE w vo es) :
    Calls Try.prog 28 #[rv 3 s i m vi vo] w fun e w' => e = .returned (.bool (mayB ⟨3, s, i, m, is, es⟩)) ∧ w.grownBy w' none := by
  have HI := Hid.mk' hi
  have HO := Hid.mk' ho
  clear hi ho
  unfold rv
  obtain ⟨ai, ci, rfl, _⟩ := HI.out
  obtain ⟨ao, co, rfl, _⟩ := HO.out
  by_cases hs : ¬ s = 0
  · have hs' : (s == 0) = false := by simp [hs]
    have E : mayB ⟨3, s, i, m, is, es⟩ = false := by simp [mayB, hs]
    rw [E]
    clear E hs
    go_enter Try.func28, Try.ntmps28
    go_wp2_with fail
    go_ret
    exact ⟨rfl, World.grownBy_alloc _ _ _⟩
  replace hs : s = 0 := by omega
  subst hs
  go_enter Try.func28, Try.ntmps28
  go_wp2_with fail
  refine Calls.mono (noThing_any i _) ?_
  rintro e w1 ⟨rfl, g1⟩
  have G1 := Hid.mk' ((World.grownBy_alloc w _ none).trans g1)
  have c1_0 : w1.cell? ⟨w.heap.size, 0, none⟩ = some (.int .i64 3) := g1.cell (by go_simp) (by simp)
  have c1_1 : w1.cell? ⟨w.heap.size, 1, none⟩ = some (.int .i64 0) := g1.cell (by go_simp) (by simp)
  have c1_2 : w1.cell? ⟨w.heap.size, 2, none⟩ = some (.int .i64 i.sh) := g1.cell (by go_simp) (by simp)
  have c1_3 : w1.cell? ⟨w.heap.size, 3, none⟩ = some (.int .i64 i.nu) := g1.cell (by go_simp) (by simp)
  have c1_4 : w1.cell? ⟨w.heap.size, 4, none⟩ = some (.float .f32 i.pl) := g1.cell (by go_simp) (by simp)
  have c1_5 : w1.cell? ⟨w.heap.size, 5, none⟩ = some (.float .f32 i.sp) := g1.cell (by go_simp) (by simp)
  have c1_6 : w1.cell? ⟨w.heap.size, 6, none⟩ = some (.int .i64 m.g) := g1.cell (by go_simp) (by simp)
  have c1_7 : w1.cell? ⟨w.heap.size, 7, none⟩ = some (.int .i64 m.m) := g1.cell (by go_simp) (by simp)
  have c1_8 : w1.cell? ⟨w.heap.size, 8, none⟩ = some (.int .i64 m.s) := g1.cell (by go_simp) (by simp)
  have c1_9 : w1.cell? ⟨w.heap.size, 9, none⟩ = some (.int .i64 m.a) := g1.cell (by go_simp) (by simp)
  have c1_10 : w1.cell? ⟨w.heap.size, 10, none⟩ = some (.int .i64 m.n) := g1.cell (by go_simp) (by simp)
  have c1_11 : w1.cell? ⟨w.heap.size, 11, none⟩ = some (.slice ai is.length ci) := g1.cell (by go_simp) (by simp)
  have c1_12 : w1.cell? ⟨w.heap.size, 12, none⟩ = some (.slice ao es.length co) := g1.cell (by go_simp) (by simp)
  cases h1 : noIt i
  · go_wp2_with fail
    go_ret
    exact ⟨ret_bool (by simp [mayB, h1]), G1.out⟩
  go_wp2_with fail
  refine Calls.mono (noBase_any 3 0 i m ai ao is.length ci es.length co _) ?_
  rintro e w2 ⟨rfl, g2⟩
  have G2 := Hid.mk' (G1.out.trans g2)
  go_wp2_with fail
  go_ret
  exact ⟨ret_bool (by simp [mayB, nobB, h1]), G2.out⟩

set_option maxHeartbeats 2000000 in
theorem may_4 (s : Int) (i : It) (m : Mk) (is : List It) (es : List En) (vi vo : Value) (w : World) (hi : LiesI w vi is) (ho : LiesE w vo es) :
    Calls Try.prog 28 #[rv 4 s i m vi vo] w fun e w' => e = .returned (.bool (mayB ⟨4, s, i, m, is, es⟩)) ∧ w.grownBy w' none := by
  have HI := Hid.mk' hi
  have HO := Hid.mk' ho
  clear hi ho
  unfold rv
  obtain ⟨ai, ci, rfl, _⟩ := HI.out
  obtain ⟨ao, co, rfl, _⟩ := HO.out
  by_cases hs : ¬ 1 ≤ s
  · have hs' : decide (1 ≤ s) = false := by simp; omega
    have E : mayB ⟨4, s, i, m, is, es⟩ = false := by simp [mayB, hs']
    rw [E]
    clear E hs
    go_enter Try.func28, Try.ntmps28
    go_wp2_with fail
    go_ret
    exact ⟨rfl, World.grownBy_alloc _ _ _⟩
  have hs' : decide (1 ≤ s) = true := by simp; omega
  go_enter Try.func28, Try.ntmps28
  go_wp2_with fail
  refine Calls.mono (isNumber_g s _) ?_
  rintro e w1 ⟨rfl, g1⟩
  have G1 := Hid.mk' ((World.grownBy_alloc w _ none).trans g1)
  have c1_0 : w1.cell? ⟨w.heap.size, 0, none⟩ = some (.int .i64 4) := g1.cell (by go_simp) (by simp)
  have c1_1 : w1.cell? ⟨w.heap.size, 1, none⟩ = some (.int .i64 s) := g1.cell (by go_simp) (by simp)
  have c1_2 : w1.cell? ⟨w.heap.size, 2, none⟩ = some (.int .i64 i.sh) := g1.cell (by go_simp) (by simp)
  have c1_3 : w1.cell? ⟨w.heap.size, 3, none⟩ = some (.int .i64 i.nu) := g1.cell (by go_simp) (by simp)
  have c1_4 : w1.cell? ⟨w.heap.size, 4, none⟩ = some (.float .f32 i.pl) := g1.cell (by go_simp) (by simp)
  have c1_5 : w1.cell? ⟨w.heap.size, 5, none⟩ = some (.float .f32 i.sp) := g1.cell (by go_simp) (by simp)
  have c1_6 : w1.cell? ⟨w.heap.size, 6, none⟩ = some (.int .i64 m.g) := g1.cell (by go_simp) (by simp)
  have c1_7 : w1.cell? ⟨w.heap.size, 7, none⟩ = some (.int .i64 m.m) := g1.cell (by go_simp) (by simp)
  have c1_8 : w1.cell? ⟨w.heap.size, 8, none⟩ = some (.int .i64 m.s) := g1.cell (by go_simp) (by simp)
  have c1_9 : w1.cell? ⟨w.heap.size, 9, none⟩ = some (.int .i64 m.a) := g1.cell (by go_simp) (by simp)
  have c1_10 : w1.cell? ⟨w.heap.size, 10, none⟩ = some (.int .i64 m.n) := g1.cell (by go_simp) (by simp)
  have c1_11 : w1.cell? ⟨w.heap.size, 11, none⟩ = some (.slice ai is.length ci) := g1.cell (by go_simp) (by simp)
  have c1_12 : w1.cell? ⟨w.heap.size, 12, none⟩ = some (.slice ao es.length co) := g1.cell (by go_simp) (by simp)
  cases h1 : isN s
  · go_wp2_with fail
    go_ret
    exact ⟨ret_bool (by simp [mayB, h1]), G1.out⟩
  go_wp2_with fail
  refine Calls.mono (itMay_any i _) ?_
  rintro e w2 ⟨rfl, g2⟩
  have G2 := Hid.mk' (G1.out.trans g2)
  have c2_0 : w2.cell? ⟨w.heap.size, 0, none⟩ = some (.int .i64 4) := g2.cell (by go_simp) (by simp)
  have c2_1 : w2.cell? ⟨w.heap.size, 1, none⟩ = some (.int .i64 s) := g2.cell (by go_simp) (by simp)
  have c2_2 : w2.cell? ⟨w.heap.size, 2, none⟩ = some (.int .i64 i.sh) := g2.cell (by go_simp) (by simp)
  have c2_3 : w2.cell? ⟨w.heap.size, 3, none⟩ = some (.int .i64 i.nu) := g2.cell (by go_simp) (by simp)
  have c2_4 : w2.cell? ⟨w.heap.size, 4, none⟩ = some (.float .f32 i.pl) := g2.cell (by go_simp) (by simp)
  have c2_5 : w2.cell? ⟨w.heap.size, 5, none⟩ = some (.float .f32 i.sp) := g2.cell (by go_simp) (by simp)
  have c2_6 : w2.cell? ⟨w.heap.size, 6, none⟩ = some (.int .i64 m.g) := g2.cell (by go_simp) (by simp)
  have c2_7 : w2.cell? ⟨w.heap.size, 7, none⟩ = some (.int .i64 m.m) := g2.cell (by go_simp) (by simp)
  have c2_8 : w2.cell? ⟨w.heap.size, 8, none⟩ = some (.int .i64 m.s) := g2.cell (by go_simp) (by simp)
  have c2_9 : w2.cell? ⟨w.heap.size, 9, none⟩ = some (.int .i64 m.a) := g2.cell (by go_simp) (by simp)
  have c2_10 : w2.cell? ⟨w.heap.size, 10, none⟩ = some (.int .i64 m.n) := g2.cell (by go_simp) (by simp)
  have c2_11 : w2.cell? ⟨w.heap.size, 11, none⟩ = some (.slice ai is.length ci) := g2.cell (by go_simp) (by simp)
  have c2_12 : w2.cell? ⟨w.heap.size, 12, none⟩ = some (.slice ao es.length co) := g2.cell (by go_simp) (by simp)
  clear c1_0 c1_1 c1_2 c1_3 c1_4 c1_5 c1_6 c1_7 c1_8 c1_9 c1_10 c1_11 c1_12
  cases h2 : itB i
  · go_wp2_with fail
    go_ret
    exact ⟨ret_bool (by simp [mayB, h2]), G2.out⟩
  go_wp2_with fail
  refine Calls.mono (noBase_any 4 s i m ai ao is.length ci es.length co _) ?_
  rintro e w3 ⟨rfl, g3⟩
  have G3 := Hid.mk' (G2.out.trans g3)
  go_wp2_with fail
  go_ret
  exact ⟨ret_bool (by simp [mayB, nobB, h1, h2, hs']), G3.out⟩

set_option maxHeartbeats 2000000 in
theorem may_7 (s : Int) (i : It) (m : Mk) (is : List It) (es : List En) (vi vo : Value) (w : World) (hi : LiesI w vi is) (ho : LiesE w vo es) :
    Calls Try.prog 28 #[rv 7 s i m vi vo] w fun e w' => e = .returned (.bool (mayB ⟨7, s, i, m, is, es⟩)) ∧ w.grownBy w' none := by
  have HI := Hid.mk' hi
  have HO := Hid.mk' ho
  clear hi ho
  unfold rv
  obtain ⟨ai, ci, rfl, _⟩ := HI.out
  obtain ⟨ao, co, rfl, _⟩ := HO.out
  by_cases hs : ¬ 1 ≤ s
  · have hs' : decide (1 ≤ s) = false := by simp; omega
    have E : mayB ⟨7, s, i, m, is, es⟩ = false := by simp [mayB, hs']
    rw [E]
    clear E hs
    go_enter Try.func28, Try.ntmps28
    go_wp2_with fail
    go_ret
    exact ⟨rfl, World.grownBy_alloc _ _ _⟩
  have hs' : decide (1 ≤ s) = true := by simp; omega
  go_enter Try.func28, Try.ntmps28
  go_wp2_with fail
  refine Calls.mono (isNumber_g s _) ?_
  rintro e w1 ⟨rfl, g1⟩
  have G1 := Hid.mk' ((World.grownBy_alloc w _ none).trans g1)
  have c1_0 : w1.cell? ⟨w.heap.size, 0, none⟩ = some (.int .i64 7) := g1.cell (by go_simp) (by simp)
  have c1_1 : w1.cell? ⟨w.heap.size, 1, none⟩ = some (.int .i64 s) := g1.cell (by go_simp) (by simp)
  have c1_2 : w1.cell? ⟨w.heap.size, 2, none⟩ = some (.int .i64 i.sh) := g1.cell (by go_simp) (by simp)
  have c1_3 : w1.cell? ⟨w.heap.size, 3, none⟩ = some (.int .i64 i.nu) := g1.cell (by go_simp) (by simp)
  have c1_4 : w1.cell? ⟨w.heap.size, 4, none⟩ = some (.float .f32 i.pl) := g1.cell (by go_simp) (by simp)
  have c1_5 : w1.cell? ⟨w.heap.size, 5, none⟩ = some (.float .f32 i.sp) := g1.cell (by go_simp) (by simp)
  have c1_6 : w1.cell? ⟨w.heap.size, 6, none⟩ = some (.int .i64 m.g) := g1.cell (by go_simp) (by simp)
  have c1_7 : w1.cell? ⟨w.heap.size, 7, none⟩ = some (.int .i64 m.m) := g1.cell (by go_simp) (by simp)
  have c1_8 : w1.cell? ⟨w.heap.size, 8, none⟩ = some (.int .i64 m.s) := g1.cell (by go_simp) (by simp)
  have c1_9 : w1.cell? ⟨w.heap.size, 9, none⟩ = some (.int .i64 m.a) := g1.cell (by go_simp) (by simp)
  have c1_10 : w1.cell? ⟨w.heap.size, 10, none⟩ = some (.int .i64 m.n) := g1.cell (by go_simp) (by simp)
  have c1_11 : w1.cell? ⟨w.heap.size, 11, none⟩ = some (.slice ai is.length ci) := g1.cell (by go_simp) (by simp)
  have c1_12 : w1.cell? ⟨w.heap.size, 12, none⟩ = some (.slice ao es.length co) := g1.cell (by go_simp) (by simp)
  cases h1 : isN s
  · go_wp2_with fail
    go_ret
    exact ⟨ret_bool (by simp [mayB, h1]), G1.out⟩
  go_wp2_with fail
  refine Calls.mono (itMay_any i _) ?_
  rintro e w2 ⟨rfl, g2⟩
  have G2 := Hid.mk' (G1.out.trans g2)
  have c2_0 : w2.cell? ⟨w.heap.size, 0, none⟩ = some (.int .i64 7) := g2.cell (by go_simp) (by simp)
  have c2_1 : w2.cell? ⟨w.heap.size, 1, none⟩ = some (.int .i64 s) := g2.cell (by go_simp) (by simp)
  have c2_2 : w2.cell? ⟨w.heap.size, 2, none⟩ = some (.int .i64 i.sh) := g2.cell (by go_simp) (by simp)
  have c2_3 : w2.cell? ⟨w.heap.size, 3, none⟩ = some (.int .i64 i.nu) := g2.cell (by go_simp) (by simp)
  have c2_4 : w2.cell? ⟨w.heap.size, 4, none⟩ = some (.float .f32 i.pl) := g2.cell (by go_simp) (by simp)
  have c2_5 : w2.cell? ⟨w.heap.size, 5, none⟩ = some (.float .f32 i.sp) := g2.cell (by go_simp) (by simp)
  have c2_6 : w2.cell? ⟨w.heap.size, 6, none⟩ = some (.int .i64 m.g) := g2.cell (by go_simp) (by simp)
  have c2_7 : w2.cell? ⟨w.heap.size, 7, none⟩ = some (.int .i64 m.m) := g2.cell (by go_simp) (by simp)
  have c2_8 : w2.cell? ⟨w.heap.size, 8, none⟩ = some (.int .i64 m.s) := g2.cell (by go_simp) (by simp)
  have c2_9 : w2.cell? ⟨w.heap.size, 9, none⟩ = some (.int .i64 m.a) := g2.cell (by go_simp) (by simp)
  have c2_10 : w2.cell? ⟨w.heap.size, 10, none⟩ = some (.int .i64 m.n) := g2.cell (by go_simp) (by simp)
  have c2_11 : w2.cell? ⟨w.heap.size, 11, none⟩ = some (.slice ai is.length ci) := g2.cell (by go_simp) (by simp)
  have c2_12 : w2.cell? ⟨w.heap.size, 12, none⟩ = some (.slice ao es.length co) := g2.cell (by go_simp) (by simp)
  clear c1_0 c1_1 c1_2 c1_3 c1_4 c1_5 c1_6 c1_7 c1_8 c1_9 c1_10 c1_11 c1_12
  cases h2 : itB i
  · go_wp2_with fail
    go_ret
    exact ⟨ret_bool (by simp [mayB, h2]), G2.out⟩
  go_wp2_with fail
  refine Calls.mono (noBase_any 7 s i m ai ao is.length ci es.length co _) ?_
  rintro e w3 ⟨rfl, g3⟩
  have G3 := Hid.mk' (G2.out.trans g3)
  go_wp2_with fail
  go_ret
  exact ⟨ret_bool (by simp [mayB, nobB, h1, h2, hs']), G3.out⟩

set_option maxHeartbeats 2000000 in
theorem may_5 (s : Int) (i : It) (m : Mk) (is : List It) (es : List En) (vi vo : Value) (w : World) (hi : LiesI w vi is) (ho : LiesE w vo es) :
    Calls Try.prog 28 #[rv 5 s i m vi vo] w fun e w' => e = .returned (.bool (mayB ⟨5, s, i, m, is, es⟩)) ∧ w.grownBy w' none := by
  have HI := Hid.mk' hi
  have HO := Hid.mk' ho
  clear hi ho
  unfold rv
  obtain ⟨ai, ci, rfl, _⟩ := HI.out
  obtain ⟨ao, co, rfl, _⟩ := HO.out
  go_enter Try.func28, Try.ntmps28
  go_wp2_with fail
  refine Calls.mono (isNumber_g s _) ?_
  rintro e w1 ⟨rfl, g1⟩
  have G1 := Hid.mk' ((World.grownBy_alloc w _ none).trans g1)
  have c1_0 : w1.cell? ⟨w.heap.size, 0, none⟩ = some (.int .i64 5) := g1.cell (by go_simp) (by simp)
  have c1_1 : w1.cell? ⟨w.heap.size, 1, none⟩ = some (.int .i64 s) := g1.cell (by go_simp) (by simp)
  have c1_2 : w1.cell? ⟨w.heap.size, 2, none⟩ = some (.int .i64 i.sh) := g1.cell (by go_simp) (by simp)
  have c1_3 : w1.cell? ⟨w.heap.size, 3, none⟩ = some (.int .i64 i.nu) := g1.cell (by go_simp) (by simp)
  have c1_4 : w1.cell? ⟨w.heap.size, 4, none⟩ = some (.float .f32 i.pl) := g1.cell (by go_simp) (by simp)
  have c1_5 : w1.cell? ⟨w.heap.size, 5, none⟩ = some (.float .f32 i.sp) := g1.cell (by go_simp) (by simp)
  have c1_6 : w1.cell? ⟨w.heap.size, 6, none⟩ = some (.int .i64 m.g) := g1.cell (by go_simp) (by simp)
  have c1_7 : w1.cell? ⟨w.heap.size, 7, none⟩ = some (.int .i64 m.m) := g1.cell (by go_simp) (by simp)
  have c1_8 : w1.cell? ⟨w.heap.size, 8, none⟩ = some (.int .i64 m.s) := g1.cell (by go_simp) (by simp)
  have c1_9 : w1.cell? ⟨w.heap.size, 9, none⟩ = some (.int .i64 m.a) := g1.cell (by go_simp) (by simp)
  have c1_10 : w1.cell? ⟨w.heap.size, 10, none⟩ = some (.int .i64 m.n) := g1.cell (by go_simp) (by simp)
  have c1_11 : w1.cell? ⟨w.heap.size, 11, none⟩ = some (.slice ai is.length ci) := g1.cell (by go_simp) (by simp)
  have c1_12 : w1.cell? ⟨w.heap.size, 12, none⟩ = some (.slice ao es.length co) := g1.cell (by go_simp) (by simp)
  cases h1 : isN s
  · go_wp2_with fail
    go_ret
    exact ⟨ret_bool (by simp [mayB, h1]), G1.out⟩
  go_wp2_with fail
  refine Calls.mono (noThing_any i _) ?_
  rintro e w2 ⟨rfl, g2⟩
  have G2 := Hid.mk' (G1.out.trans g2)
  have c2_0 : w2.cell? ⟨w.heap.size, 0, none⟩ = some (.int .i64 5) := g2.cell (by go_simp) (by simp)
  have c2_1 : w2.cell? ⟨w.heap.size, 1, none⟩ = some (.int .i64 s) := g2.cell (by go_simp) (by simp)
  have c2_2 : w2.cell? ⟨w.heap.size, 2, none⟩ = some (.int .i64 i.sh) := g2.cell (by go_simp) (by simp)
  have c2_3 : w2.cell? ⟨w.heap.size, 3, none⟩ = some (.int .i64 i.nu) := g2.cell (by go_simp) (by simp)
  have c2_4 : w2.cell? ⟨w.heap.size, 4, none⟩ = some (.float .f32 i.pl) := g2.cell (by go_simp) (by simp)
  have c2_5 : w2.cell? ⟨w.heap.size, 5, none⟩ = some (.float .f32 i.sp) := g2.cell (by go_simp) (by simp)
  have c2_6 : w2.cell? ⟨w.heap.size, 6, none⟩ = some (.int .i64 m.g) := g2.cell (by go_simp) (by simp)
  have c2_7 : w2.cell? ⟨w.heap.size, 7, none⟩ = some (.int .i64 m.m) := g2.cell (by go_simp) (by simp)
  have c2_8 : w2.cell? ⟨w.heap.size, 8, none⟩ = some (.int .i64 m.s) := g2.cell (by go_simp) (by simp)
  have c2_9 : w2.cell? ⟨w.heap.size, 9, none⟩ = some (.int .i64 m.a) := g2.cell (by go_simp) (by simp)
  have c2_10 : w2.cell? ⟨w.heap.size, 10, none⟩ = some (.int .i64 m.n) := g2.cell (by go_simp) (by simp)
  have c2_11 : w2.cell? ⟨w.heap.size, 11, none⟩ = some (.slice ai is.length ci) := g2.cell (by go_simp) (by simp)
  have c2_12 : w2.cell? ⟨w.heap.size, 12, none⟩ = some (.slice ao es.length co) := g2.cell (by go_simp) (by simp)
  clear c1_0 c1_1 c1_2 c1_3 c1_4 c1_5 c1_6 c1_7 c1_8 c1_9 c1_10 c1_11 c1_12
  cases h2 : noIt i
  · go_wp2_with fail
    go_ret
    exact ⟨ret_bool (by simp [mayB, h2]), G2.out⟩
  go_wp2_with fail
  refine Calls.mono (noBase_any 5 s i m ai ao is.length ci es.length co _) ?_
  rintro e w3 ⟨rfl, g3⟩
  have G3 := Hid.mk' (G2.out.trans g3)
  go_wp2_with fail
  go_ret
  exact ⟨ret_bool (by simp [mayB, nobB, h1, h2]), G3.out⟩

set_option maxHeartbeats 2000000 in
theorem may_8 (s : Int) (i : It) (m : Mk) (is : List It) (es : List En) (vi vo : Value) (w : World) (hi : LiesI w vi is) (ho : LiesE w vo es) :
    Calls Try.prog 28 #[rv 8 s i m vi vo] w fun e w' => e = .returned (.bool (mayB ⟨8, s, i, m, is, es⟩)) ∧ w.grownBy w' none := by
  have HI := Hid.mk' hi
  have HO := Hid.mk' ho
  clear hi ho
  unfold rv
  obtain ⟨ai, ci, rfl, _⟩ := HI.out
  obtain ⟨ao, co, rfl, _⟩ := HO.out
  go_enter Try.func28, Try.ntmps28
  go_wp2_with fail
  refine Calls.mono (isNumber_g s _) ?_
  rintro e w1 ⟨rfl, g1⟩
  have G1 := Hid.mk' ((World.grownBy_alloc w _ none).trans g1)
  have c1_0 : w1.cell? ⟨w.heap.size, 0, none⟩ = some (.int .i64 8) := g1.cell (by go_simp) (by simp)
  have c1_1 : w1.cell? ⟨w.heap.size, 1, none⟩ = some (.int .i64 s) := g1.cell (by go_simp) (by simp)
  have c1_2 : w1.cell? ⟨w.heap.size, 2, none⟩ = some (.int .i64 i.sh) := g1.cell (by go_simp) (by simp)
  have c1_3 : w1.cell? ⟨w.heap.size, 3, none⟩ = some (.int .i64 i.nu) := g1.cell (by go_simp) (by simp)
  have c1_4 : w1.cell? ⟨w.heap.size, 4, none⟩ = some (.float .f32 i.pl) := g1.cell (by go_simp) (by simp)
  have c1_5 : w1.cell? ⟨w.heap.size, 5, none⟩ = some (.float .f32 i.sp) := g1.cell (by go_simp) (by simp)
  have c1_6 : w1.cell? ⟨w.heap.size, 6, none⟩ = some (.int .i64 m.g) := g1.cell (by go_simp) (by simp)
  have c1_7 : w1.cell? ⟨w.heap.size, 7, none⟩ = some (.int .i64 m.m) := g1.cell (by go_simp) (by simp)
  have c1_8 : w1.cell? ⟨w.heap.size, 8, none⟩ = some (.int .i64 m.s) := g1.cell (by go_simp) (by simp)
  have c1_9 : w1.cell? ⟨w.heap.size, 9, none⟩ = some (.int .i64 m.a) := g1.cell (by go_simp) (by simp)
  have c1_10 : w1.cell? ⟨w.heap.size, 10, none⟩ = some (.int .i64 m.n) := g1.cell (by go_simp) (by simp)
  have c1_11 : w1.cell? ⟨w.heap.size, 11, none⟩ = some (.slice ai is.length ci) := g1.cell (by go_simp) (by simp)
  have c1_12 : w1.cell? ⟨w.heap.size, 12, none⟩ = some (.slice ao es.length co) := g1.cell (by go_simp) (by simp)
  cases h1 : isN s
  · go_wp2_with fail
    go_ret
    exact ⟨ret_bool (by simp [mayB, h1]), G1.out⟩
  go_wp2_with fail
  refine Calls.mono (noThing_any i _) ?_
  rintro e w2 ⟨rfl, g2⟩
  have G2 := Hid.mk' (G1.out.trans g2)
  have c2_0 : w2.cell? ⟨w.heap.size, 0, none⟩ = some (.int .i64 8) := g2.cell (by go_simp) (by simp)
  have c2_1 : w2.cell? ⟨w.heap.size, 1, none⟩ = some (.int .i64 s) := g2.cell (by go_simp) (by simp)
  have c2_2 : w2.cell? ⟨w.heap.size, 2, none⟩ = some (.int .i64 i.sh) := g2.cell (by go_simp) (by simp)
  have c2_3 : w2.cell? ⟨w.heap.size, 3, none⟩ = some (.int .i64 i.nu) := g2.cell (by go_simp) (by simp)
  have c2_4 : w2.cell? ⟨w.heap.size, 4, none⟩ = some (.float .f32 i.pl) := g2.cell (by go_simp) (by simp)
  have c2_5 : w2.cell? ⟨w.heap.size, 5, none⟩ = some (.float .f32 i.sp) := g2.cell (by go_simp) (by simp)
  have c2_6 : w2.cell? ⟨w.heap.size, 6, none⟩ = some (.int .i64 m.g) := g2.cell (by go_simp) (by simp)
  have c2_7 : w2.cell? ⟨w.heap.size, 7, none⟩ = some (.int .i64 m.m) := g2.cell (by go_simp) (by simp)
  have c2_8 : w2.cell? ⟨w.heap.size, 8, none⟩ = some (.int .i64 m.s) := g2.cell (by go_simp) (by simp)
  have c2_9 : w2.cell? ⟨w.heap.size, 9, none⟩ = some (.int .i64 m.a) := g2.cell (by go_simp) (by simp)
  have c2_10 : w2.cell? ⟨w.heap.size, 10, none⟩ = some (.int .i64 m.n) := g2.cell (by go_simp) (by simp)
  have c2_11 : w2.cell? ⟨w.heap.size, 11, none⟩ = some (.slice ai is.length ci) := g2.cell (by go_simp) (by simp)
  have c2_12 : w2.cell? ⟨w.heap.size, 12, none⟩ = some (.slice ao es.length co) := g2.cell (by go_simp) (by simp)
  clear c1_0 c1_1 c1_2 c1_3 c1_4 c1_5 c1_6 c1_7 c1_8 c1_9 c1_10 c1_11 c1_12
  cases h2 : noIt i
  · go_wp2_with fail
    go_ret
    exact ⟨ret_bool (by simp [mayB, h2]), G2.out⟩
  go_wp2_with fail
  refine Calls.mono (noBase_any 8 s i m ai ao is.length ci es.length co _) ?_
  rintro e w3 ⟨rfl, g3⟩
  have G3 := Hid.mk' (G2.out.trans g3)
  go_wp2_with fail
  go_ret
  exact ⟨ret_bool (by simp [mayB, nobB, h1, h2]), G3.out⟩

set_option maxHeartbeats 2000000 in
theorem may_6 (s : Int) (i : It) (m : Mk) (is : List It) (es : List En) (vi vo : Value) (w : World) (hi : LiesI w vi is) (ho : LiesE w vo es) :
    Calls Try.prog 28 #[rv 6 s i m vi vo] w fun e w' => e = .returned (.bool (mayB ⟨6, s, i, m, is, es⟩)) ∧ w.grownBy w' none := by
  have HI := Hid.mk' hi
  have HO := Hid.mk' ho
  clear hi ho
  unfold rv
  obtain ⟨ai, ci, rfl, _⟩ := HI.out
  obtain ⟨ao, co, rfl, _⟩ := HO.out
  by_cases hs : ¬ s = 0
  · have hs' : (s == 0) = false := by simp [hs]
    have E : mayB ⟨6, s, i, m, is, es⟩ = false := by simp [mayB, hs]
    rw [E]
    clear E hs
    go_enter Try.func28, Try.ntmps28
    go_wp2_with fail
    go_ret
    exact ⟨rfl, World.grownBy_alloc _ _ _⟩
  replace hs : s = 0 := by omega
  subst hs
  go_enter Try.func28, Try.ntmps28
  go_wp2_with fail
  refine Calls.mono (noThing_any i _) ?_
  rintro e w1 ⟨rfl, g1⟩
  have G1 := Hid.mk' ((World.grownBy_alloc w _ none).trans g1)
  have c1_0 : w1.cell? ⟨w.heap.size, 0, none⟩ = some (.int .i64 6) := g1.cell (by go_simp) (by simp)
  have c1_1 : w1.cell? ⟨w.heap.size, 1, none⟩ = some (.int .i64 0) := g1.cell (by go_simp) (by simp)
  have c1_2 : w1.cell? ⟨w.heap.size, 2, none⟩ = some (.int .i64 i.sh) := g1.cell (by go_simp) (by simp)
  have c1_3 : w1.cell? ⟨w.heap.size, 3, none⟩ = some (.int .i64 i.nu) := g1.cell (by go_simp) (by simp)
  have c1_4 : w1.cell? ⟨w.heap.size, 4, none⟩ = some (.float .f32 i.pl) := g1.cell (by go_simp) (by simp)
  have c1_5 : w1.cell? ⟨w.heap.size, 5, none⟩ = some (.float .f32 i.sp) := g1.cell (by go_simp) (by simp)
  have c1_6 : w1.cell? ⟨w.heap.size, 6, none⟩ = some (.int .i64 m.g) := g1.cell (by go_simp) (by simp)
  have c1_7 : w1.cell? ⟨w.heap.size, 7, none⟩ = some (.int .i64 m.m) := g1.cell (by go_simp) (by simp)
  have c1_8 : w1.cell? ⟨w.heap.size, 8, none⟩ = some (.int .i64 m.s) := g1.cell (by go_simp) (by simp)
  have c1_9 : w1.cell? ⟨w.heap.size, 9, none⟩ = some (.int .i64 m.a) := g1.cell (by go_simp) (by simp)
  have c1_10 : w1.cell? ⟨w.heap.size, 10, none⟩ = some (.int .i64 m.n) := g1.cell (by go_simp) (by simp)
  have c1_11 : w1.cell? ⟨w.heap.size, 11, none⟩ = some (.slice ai is.length ci) := g1.cell (by go_simp) (by simp)
  have c1_12 : w1.cell? ⟨w.heap.size, 12, none⟩ = some (.slice ao es.length co) := g1.cell (by go_simp) (by simp)
  cases h1 : noIt i
  · go_wp2_with fail
    go_ret
    exact ⟨ret_bool (by simp [mayB, h1]), G1.out⟩
  go_wp2_with fail
  refine Calls.mono (baseMay_any ⟨6, 0, i, m, is, es⟩ _ _ _ (HI.out.grown G1.out) (HO.out.grown G1.out)) ?_
  rintro e w2 ⟨rfl, g2⟩
  have G2 := Hid.mk' (G1.out.trans g2)
  go_wp2_with fail
  go_ret
  exact ⟨ret_bool (by simp [mayB, h1]), G2.out⟩

set_option maxHeartbeats 2000000 in
theorem may_other (K s : Int) (i : It) (m : Mk) (is : List It) (es : List En) (ai ao : Option Addr) (ni ci no co : Nat) (w : World) (hk : K < 1 ∨ 8 < K) :
    Calls Try.prog 28 #[rv K s i m (.slice ai ni ci) (.slice ao no co)] w fun e w' => e = .returned (.bool (mayB ⟨K, s, i, m, is, es⟩)) ∧ w.grownBy w' none := by
  have E : mayB ⟨K, s, i, m, is, es⟩ = false := by
    unfold mayB
    rw [if_neg (by simp; omega), if_neg (by simp; omega), if_neg (by simp; omega), if_neg (by simp; omega), if_neg (by simp; omega), if_neg (by simp; omega)]
  rw [E]
  clear E
  have k1 : (K == 1) = false := by simp; omega
  have k2 : (K == 2) = false := by simp; omega
  have k3 : (K == 3) = false := by simp; omega
  have k4 : (K == 4) = false := by simp; omega
  have k5 : (K == 5) = false := by simp; omega
  have k6 : (K == 6) = false := by simp; omega
  have k7 : (K == 7) = false := by simp; omega
  have k8 : (K == 8) = false := by simp; omega
  clear hk
  unfold rv
  go_enter Try.func28, Try.ntmps28
  go_wp2_with fail
  go_ret
  exact ⟨rfl, World.grownBy_alloc _ _ _⟩

theorem may_any (r : Rc) (vi vo : Value) (w : World) (hi : LiesI w vi r.items) (ho : LiesE w vo r.outs) :
    Calls Try.prog 28 #[rv r.kind r.seq r.it r.mks vi vo] w fun e w' => e = .returned (.bool (mayB r)) ∧ w.grownBy w' none := by
  obtain ⟨K, s, i, m, is, es⟩ := r
  by_cases hk : K < 1 ∨ 8 < K
  · obtain ⟨ai, ci, rfl, _⟩ := hi
    obtain ⟨ao, co, rfl, _⟩ := ho
    exact may_other K s i m is es ai ao _ ci _ co w hk
  · have : K = 1 ∨ K = 2 ∨ K = 3 ∨ K = 4 ∨ K = 5 ∨ K = 6 ∨ K = 7 ∨ K = 8 := by omega
    rcases this with rfl | rfl | rfl | rfl | rfl | rfl | rfl | rfl
    · exact may_1 s i m is es vi vo w hi ho
    · exact may_2 s i m is es vi vo w hi ho
    · exact may_3 s i m is es vi vo w hi ho
    · exact may_4 s i m is es vi vo w hi ho
    · exact may_5 s i m is es vi vo w hi ho
    · exact may_6 s i m is es vi vo w hi ho
    · exact may_7 s i m is es vi vo w hi ho
    · exact may_8 s i m is es vi vo w hi ho
end Go.Proofs.Ytammnaafdhhjaaa
