/- Ytammnaafdhhjaaa: which Bases may be, by the document; all kinds. -/
import Derived.Test.YtammnaafdhhjaaaR6
namespace Go.Proofs.Ytammnaafdhhjaaa
open Go.RowKit

set_option maxHeartbeats 8000000 in
set_option maxRecDepth 100000 in
theorem refMay_6 (s : Int) (i : It) (m : Mk) (is : List It) (es : List En) (vi vo : Value) (w : World) (hi : LiesI w vi is) (ho : LiesE w vo es) (hp : i.pl < 4294967296) (hs : i.sp < 4294967296) (fp : fin32 i.pl = true) (fs : fin32 i.sp = true) (hni : is.length ≤ 1000000000) (hno : es.length ≤ 1000000000) :
    Calls Try.prog 25 #[rv 6 s i m vi vo] w fun e w' => e = .returned (.bool (mayB ⟨6, s, i, m, is, es⟩)) ∧ w.grownBy w' none := by
  have HI := Hid.mk' hi
  have HO := Hid.mk' ho
  clear hi ho
  unfold rv
  obtain ⟨ai, ci, rfl, _⟩ := HI.out
  obtain ⟨ao, co, rfl, _⟩ := HO.out
  obtain ⟨ni, hN⟩ : ∃ n, is.length = n := ⟨_, rfl⟩
  obtain ⟨no, hO⟩ : ∃ n, es.length = n := ⟨_, rfl⟩
  rw [hN] at HI hni ⊢
  rw [hO] at HO hno ⊢
  clear hN hO
  go_enter Try.func25, Try.ntmps25
  go_wp2_with fail
  refine Calls.mono (num_of i.pl _ _ fp) ?_
  rintro e w1 ⟨rfl, g1⟩
  have G1 := Hid.mk' ((World.grownBy_alloc w _ none).trans g1)
  have c1_0 : w1.cell? ⟨w.heap.size, 0, none⟩ = some (.int .i64 6) := g1.cell (by go_simp) (by simp)
  have c1_1 : w1.cell? ⟨w.heap.size, 1, none⟩ = some (.int .i64 s) := g1.cell (by go_simp) (by simp)
  have c1_2 : w1.cell? ⟨w.heap.size, 2, none⟩ = some (.int .i64 i.sh) := g1.cell (by go_simp) (by simp)
  have c1_3 : w1.cell? ⟨w.heap.size, 3, none⟩ = some (.int .i64 i.nu) := g1.cell (by go_simp) (by simp)
  have c1_4 : w1.cell? ⟨w.heap.size, 4, none⟩ = some (.float .f32 i.pl) := g1.cell (by go_simp) (by simp)
  have c1_5 : w1.cell? ⟨w.heap.size, 5, none⟩ = some (.float .f32 i.sp) := g1.cell (by go_simp) (by simp)
  have c1_6 : w1.cell? ⟨w.heap.size, 6, none⟩ = some (.int .i64 m.g) := g1.cell (by go_simp) (by simp)
  have c1_7 : w1.cell? ⟨w.heap.size, 7, none⟩ = some (.int .i64 m.m) := g1.cell (by go_simp) (by simp)
  have c1_8 : w1.cell? ⟨w.heap.size, 8, none⟩ = some (.int .i64 m.s) := g1.cell (by go_simp) (by simp)
  have c1_9 : w1.cell? ⟨w.heap.size, 9, none⟩ = some (.int .i64 m.a) := g1.cell (by go_simp) (by simp)
  have c1_10 : w1.cell? ⟨w.heap.size, 10, none⟩ = some (.int .i64 m.n) := g1.cell (by go_simp) (by simp)
  have c1_11 : w1.cell? ⟨w.heap.size, 11, none⟩ = some (.slice ai ni ci) := g1.cell (by go_simp) (by simp)
  have c1_12 : w1.cell? ⟨w.heap.size, 12, none⟩ = some (.slice ao no co) := g1.cell (by go_simp) (by simp)
  go_wp2_with fail
  refine Calls.mono (num_of i.sp _ _ fs) ?_
  rintro e w2 ⟨rfl, g2⟩
  have G2 := Hid.mk' (G1.out.trans g2)
  have c2_0 : w2.cell? ⟨w.heap.size, 0, none⟩ = some (.int .i64 6) := g2.cell (by go_simp) (by simp)
  have c2_1 : w2.cell? ⟨w.heap.size, 1, none⟩ = some (.int .i64 s) := g2.cell (by go_simp) (by simp)
  have c2_2 : w2.cell? ⟨w.heap.size, 2, none⟩ = some (.int .i64 i.sh) := g2.cell (by go_simp) (by simp)
  have c2_3 : w2.cell? ⟨w.heap.size, 3, none⟩ = some (.int .i64 i.nu) := g2.cell (by go_simp) (by simp)
  have c2_4 : w2.cell? ⟨w.heap.size, 4, none⟩ = some (.float .f32 i.pl) := g2.cell (by go_simp) (by simp)
  have c2_5 : w2.cell? ⟨w.heap.size, 5, none⟩ = some (.float .f32 i.sp) := g2.cell (by go_simp) (by simp)
  have c2_6 : w2.cell? ⟨w.heap.size, 6, none⟩ = some (.int .i64 m.g) := g2.cell (by go_simp) (by simp)
  have c2_7 : w2.cell? ⟨w.heap.size, 7, none⟩ = some (.int .i64 m.m) := g2.cell (by go_simp) (by simp)
  have c2_8 : w2.cell? ⟨w.heap.size, 8, none⟩ = some (.int .i64 m.s) := g2.cell (by go_simp) (by simp)
  have c2_9 : w2.cell? ⟨w.heap.size, 9, none⟩ = some (.int .i64 m.a) := g2.cell (by go_simp) (by simp)
  have c2_10 : w2.cell? ⟨w.heap.size, 10, none⟩ = some (.int .i64 m.n) := g2.cell (by go_simp) (by simp)
  have c2_11 : w2.cell? ⟨w.heap.size, 11, none⟩ = some (.slice ai ni ci) := g2.cell (by go_simp) (by simp)
  have c2_12 : w2.cell? ⟨w.heap.size, 12, none⟩ = some (.slice ao no co) := g2.cell (by go_simp) (by simp)
  clear c1_0 c1_1 c1_2 c1_3 c1_4 c1_5 c1_6 c1_7 c1_8 c1_9 c1_10 c1_11 c1_12
  by_cases h0 : ni + no = 0
  · have e1 : ni = 0 := by omega
    have e2 : no = 0 := by omega
    subst e1 e2
    clear h0
    obtain ⟨a, b, c, d, f⟩ := m
    simp only at c2_6 c2_7 c2_8 c2_9 c2_10 ⊢
    by_cases ha : ¬ a = 0
    · go_wp2_with fail
      refine Calls.mono (refNothing_any i false _ hp hs fp fs) ?_
      rintro e w3 ⟨rfl, g3⟩
      have G3 := Hid.mk' (G2.out.trans g3)
      have c3_0 : w3.cell? ⟨w.heap.size, 0, none⟩ = some (.int .i64 6) := g3.cell (by go_simp) (by simp)
      have c3_1 : w3.cell? ⟨w.heap.size, 1, none⟩ = some (.int .i64 s) := g3.cell (by go_simp) (by simp)
      have c3_2 : w3.cell? ⟨w.heap.size, 2, none⟩ = some (.int .i64 i.sh) := g3.cell (by go_simp) (by simp)
      have c3_3 : w3.cell? ⟨w.heap.size, 3, none⟩ = some (.int .i64 i.nu) := g3.cell (by go_simp) (by simp)
      have c3_4 : w3.cell? ⟨w.heap.size, 4, none⟩ = some (.float .f32 i.pl) := g3.cell (by go_simp) (by simp)
      have c3_5 : w3.cell? ⟨w.heap.size, 5, none⟩ = some (.float .f32 i.sp) := g3.cell (by go_simp) (by simp)
      have c3_6 : w3.cell? ⟨w.heap.size, 6, none⟩ = some (.int .i64 a) := g3.cell (by go_simp) (by simp)
      have c3_7 : w3.cell? ⟨w.heap.size, 7, none⟩ = some (.int .i64 b) := g3.cell (by go_simp) (by simp)
      have c3_8 : w3.cell? ⟨w.heap.size, 8, none⟩ = some (.int .i64 c) := g3.cell (by go_simp) (by simp)
      have c3_9 : w3.cell? ⟨w.heap.size, 9, none⟩ = some (.int .i64 d) := g3.cell (by go_simp) (by simp)
      have c3_10 : w3.cell? ⟨w.heap.size, 10, none⟩ = some (.int .i64 f) := g3.cell (by go_simp) (by simp)
      have c3_11 : w3.cell? ⟨w.heap.size, 11, none⟩ = some (.slice ai 0 ci) := g3.cell (by go_simp) (by simp)
      have c3_12 : w3.cell? ⟨w.heap.size, 12, none⟩ = some (.slice ao 0 co) := g3.cell (by go_simp) (by simp)
      go_wp2_with fail
      refine Calls.mono (refThing_any i _) ?_
      rintro e w4 ⟨rfl, g4⟩
      have G4 := Hid.mk' (G3.out.trans g4)
      have c4_0 : w4.cell? ⟨w.heap.size, 0, none⟩ = some (.int .i64 6) := g4.cell (by go_simp) (by simp)
      have c4_1 : w4.cell? ⟨w.heap.size, 1, none⟩ = some (.int .i64 s) := g4.cell (by go_simp) (by simp)
      have c4_2 : w4.cell? ⟨w.heap.size, 2, none⟩ = some (.int .i64 i.sh) := g4.cell (by go_simp) (by simp)
      have c4_3 : w4.cell? ⟨w.heap.size, 3, none⟩ = some (.int .i64 i.nu) := g4.cell (by go_simp) (by simp)
      have c4_4 : w4.cell? ⟨w.heap.size, 4, none⟩ = some (.float .f32 i.pl) := g4.cell (by go_simp) (by simp)
      have c4_5 : w4.cell? ⟨w.heap.size, 5, none⟩ = some (.float .f32 i.sp) := g4.cell (by go_simp) (by simp)
      have c4_6 : w4.cell? ⟨w.heap.size, 6, none⟩ = some (.int .i64 a) := g4.cell (by go_simp) (by simp)
      have c4_7 : w4.cell? ⟨w.heap.size, 7, none⟩ = some (.int .i64 b) := g4.cell (by go_simp) (by simp)
      have c4_8 : w4.cell? ⟨w.heap.size, 8, none⟩ = some (.int .i64 c) := g4.cell (by go_simp) (by simp)
      have c4_9 : w4.cell? ⟨w.heap.size, 9, none⟩ = some (.int .i64 d) := g4.cell (by go_simp) (by simp)
      have c4_10 : w4.cell? ⟨w.heap.size, 10, none⟩ = some (.int .i64 f) := g4.cell (by go_simp) (by simp)
      have c4_11 : w4.cell? ⟨w.heap.size, 11, none⟩ = some (.slice ai 0 ci) := g4.cell (by go_simp) (by simp)
      have c4_12 : w4.cell? ⟨w.heap.size, 12, none⟩ = some (.slice ao 0 co) := g4.cell (by go_simp) (by simp)
      clear c3_0 c3_1 c3_2 c3_3 c3_4 c3_5 c3_6 c3_7 c3_8 c3_9 c3_10 c3_11 c3_12
      cases h5 : noB i false
      · go_wp2_with fail
        go_ret
        exact ⟨ret_bool (by rw [no_false] at h5; simp [mayB, h5]), G4.out⟩
      · by_cases hs0 : s = 0
        · subst hs0
          go_wp2_with fail
          refine Calls.mono (refBase_any ⟨6, 0, i, ⟨a, b, c, d, f⟩, is, es⟩ (.slice ai 0 ci) (.slice ao 0 co) _ (HI.out.grown G4.out) (HO.out.grown G4.out)) ?_
          rintro e w5 ⟨rfl, g5⟩
          go_wp2_with fail
          go_ret
          exact ⟨ret_bool (by rw [no_false] at h5; simp [mayB, h5]), G4.out.trans g5⟩
        · have hs1 : (s == 0) = false := by simpa using hs0
          go_wp2_with fail
          go_ret
          exact ⟨ret_bool (by simp [mayB, hs0]), G4.out⟩
    obtain rfl : a = 0 := by omega
    clear ha
    by_cases hb : ¬ b = 0
    · go_wp2_with fail
      refine Calls.mono (refNothing_any i false _ hp hs fp fs) ?_
      rintro e w3 ⟨rfl, g3⟩
      have G3 := Hid.mk' (G2.out.trans g3)
      have c3_0 : w3.cell? ⟨w.heap.size, 0, none⟩ = some (.int .i64 6) := g3.cell (by go_simp) (by simp)
      have c3_1 : w3.cell? ⟨w.heap.size, 1, none⟩ = some (.int .i64 s) := g3.cell (by go_simp) (by simp)
      have c3_2 : w3.cell? ⟨w.heap.size, 2, none⟩ = some (.int .i64 i.sh) := g3.cell (by go_simp) (by simp)
      have c3_3 : w3.cell? ⟨w.heap.size, 3, none⟩ = some (.int .i64 i.nu) := g3.cell (by go_simp) (by simp)
      have c3_4 : w3.cell? ⟨w.heap.size, 4, none⟩ = some (.float .f32 i.pl) := g3.cell (by go_simp) (by simp)
      have c3_5 : w3.cell? ⟨w.heap.size, 5, none⟩ = some (.float .f32 i.sp) := g3.cell (by go_simp) (by simp)
      have c3_6 : w3.cell? ⟨w.heap.size, 6, none⟩ = some (.int .i64 0) := g3.cell (by go_simp) (by simp)
      have c3_7 : w3.cell? ⟨w.heap.size, 7, none⟩ = some (.int .i64 b) := g3.cell (by go_simp) (by simp)
      have c3_8 : w3.cell? ⟨w.heap.size, 8, none⟩ = some (.int .i64 c) := g3.cell (by go_simp) (by simp)
      have c3_9 : w3.cell? ⟨w.heap.size, 9, none⟩ = some (.int .i64 d) := g3.cell (by go_simp) (by simp)
      have c3_10 : w3.cell? ⟨w.heap.size, 10, none⟩ = some (.int .i64 f) := g3.cell (by go_simp) (by simp)
      have c3_11 : w3.cell? ⟨w.heap.size, 11, none⟩ = some (.slice ai 0 ci) := g3.cell (by go_simp) (by simp)
      have c3_12 : w3.cell? ⟨w.heap.size, 12, none⟩ = some (.slice ao 0 co) := g3.cell (by go_simp) (by simp)
      go_wp2_with fail
      refine Calls.mono (refThing_any i _) ?_
      rintro e w4 ⟨rfl, g4⟩
      have G4 := Hid.mk' (G3.out.trans g4)
      have c4_0 : w4.cell? ⟨w.heap.size, 0, none⟩ = some (.int .i64 6) := g4.cell (by go_simp) (by simp)
      have c4_1 : w4.cell? ⟨w.heap.size, 1, none⟩ = some (.int .i64 s) := g4.cell (by go_simp) (by simp)
      have c4_2 : w4.cell? ⟨w.heap.size, 2, none⟩ = some (.int .i64 i.sh) := g4.cell (by go_simp) (by simp)
      have c4_3 : w4.cell? ⟨w.heap.size, 3, none⟩ = some (.int .i64 i.nu) := g4.cell (by go_simp) (by simp)
      have c4_4 : w4.cell? ⟨w.heap.size, 4, none⟩ = some (.float .f32 i.pl) := g4.cell (by go_simp) (by simp)
      have c4_5 : w4.cell? ⟨w.heap.size, 5, none⟩ = some (.float .f32 i.sp) := g4.cell (by go_simp) (by simp)
      have c4_6 : w4.cell? ⟨w.heap.size, 6, none⟩ = some (.int .i64 0) := g4.cell (by go_simp) (by simp)
      have c4_7 : w4.cell? ⟨w.heap.size, 7, none⟩ = some (.int .i64 b) := g4.cell (by go_simp) (by simp)
      have c4_8 : w4.cell? ⟨w.heap.size, 8, none⟩ = some (.int .i64 c) := g4.cell (by go_simp) (by simp)
      have c4_9 : w4.cell? ⟨w.heap.size, 9, none⟩ = some (.int .i64 d) := g4.cell (by go_simp) (by simp)
      have c4_10 : w4.cell? ⟨w.heap.size, 10, none⟩ = some (.int .i64 f) := g4.cell (by go_simp) (by simp)
      have c4_11 : w4.cell? ⟨w.heap.size, 11, none⟩ = some (.slice ai 0 ci) := g4.cell (by go_simp) (by simp)
      have c4_12 : w4.cell? ⟨w.heap.size, 12, none⟩ = some (.slice ao 0 co) := g4.cell (by go_simp) (by simp)
      clear c3_0 c3_1 c3_2 c3_3 c3_4 c3_5 c3_6 c3_7 c3_8 c3_9 c3_10 c3_11 c3_12
      cases h5 : noB i false
      · go_wp2_with fail
        go_ret
        exact ⟨ret_bool (by rw [no_false] at h5; simp [mayB, h5]), G4.out⟩
      · by_cases hs0 : s = 0
        · subst hs0
          go_wp2_with fail
          refine Calls.mono (refBase_any ⟨6, 0, i, ⟨0, b, c, d, f⟩, is, es⟩ (.slice ai 0 ci) (.slice ao 0 co) _ (HI.out.grown G4.out) (HO.out.grown G4.out)) ?_
          rintro e w5 ⟨rfl, g5⟩
          go_wp2_with fail
          go_ret
          exact ⟨ret_bool (by rw [no_false] at h5; simp [mayB, h5]), G4.out.trans g5⟩
        · have hs1 : (s == 0) = false := by simpa using hs0
          go_wp2_with fail
          go_ret
          exact ⟨ret_bool (by simp [mayB, hs0]), G4.out⟩
    obtain rfl : b = 0 := by omega
    clear hb
    by_cases hc : ¬ c = 0
    · go_wp2_with fail
      refine Calls.mono (refNothing_any i false _ hp hs fp fs) ?_
      rintro e w3 ⟨rfl, g3⟩
      have G3 := Hid.mk' (G2.out.trans g3)
      have c3_0 : w3.cell? ⟨w.heap.size, 0, none⟩ = some (.int .i64 6) := g3.cell (by go_simp) (by simp)
      have c3_1 : w3.cell? ⟨w.heap.size, 1, none⟩ = some (.int .i64 s) := g3.cell (by go_simp) (by simp)
      have c3_2 : w3.cell? ⟨w.heap.size, 2, none⟩ = some (.int .i64 i.sh) := g3.cell (by go_simp) (by simp)
      have c3_3 : w3.cell? ⟨w.heap.size, 3, none⟩ = some (.int .i64 i.nu) := g3.cell (by go_simp) (by simp)
      have c3_4 : w3.cell? ⟨w.heap.size, 4, none⟩ = some (.float .f32 i.pl) := g3.cell (by go_simp) (by simp)
      have c3_5 : w3.cell? ⟨w.heap.size, 5, none⟩ = some (.float .f32 i.sp) := g3.cell (by go_simp) (by simp)
      have c3_6 : w3.cell? ⟨w.heap.size, 6, none⟩ = some (.int .i64 0) := g3.cell (by go_simp) (by simp)
      have c3_7 : w3.cell? ⟨w.heap.size, 7, none⟩ = some (.int .i64 0) := g3.cell (by go_simp) (by simp)
      have c3_8 : w3.cell? ⟨w.heap.size, 8, none⟩ = some (.int .i64 c) := g3.cell (by go_simp) (by simp)
      have c3_9 : w3.cell? ⟨w.heap.size, 9, none⟩ = some (.int .i64 d) := g3.cell (by go_simp) (by simp)
      have c3_10 : w3.cell? ⟨w.heap.size, 10, none⟩ = some (.int .i64 f) := g3.cell (by go_simp) (by simp)
      have c3_11 : w3.cell? ⟨w.heap.size, 11, none⟩ = some (.slice ai 0 ci) := g3.cell (by go_simp) (by simp)
      have c3_12 : w3.cell? ⟨w.heap.size, 12, none⟩ = some (.slice ao 0 co) := g3.cell (by go_simp) (by simp)
      go_wp2_with fail
      refine Calls.mono (refThing_any i _) ?_
      rintro e w4 ⟨rfl, g4⟩
      have G4 := Hid.mk' (G3.out.trans g4)
      have c4_0 : w4.cell? ⟨w.heap.size, 0, none⟩ = some (.int .i64 6) := g4.cell (by go_simp) (by simp)
      have c4_1 : w4.cell? ⟨w.heap.size, 1, none⟩ = some (.int .i64 s) := g4.cell (by go_simp) (by simp)
      have c4_2 : w4.cell? ⟨w.heap.size, 2, none⟩ = some (.int .i64 i.sh) := g4.cell (by go_simp) (by simp)
      have c4_3 : w4.cell? ⟨w.heap.size, 3, none⟩ = some (.int .i64 i.nu) := g4.cell (by go_simp) (by simp)
      have c4_4 : w4.cell? ⟨w.heap.size, 4, none⟩ = some (.float .f32 i.pl) := g4.cell (by go_simp) (by simp)
      have c4_5 : w4.cell? ⟨w.heap.size, 5, none⟩ = some (.float .f32 i.sp) := g4.cell (by go_simp) (by simp)
      have c4_6 : w4.cell? ⟨w.heap.size, 6, none⟩ = some (.int .i64 0) := g4.cell (by go_simp) (by simp)
      have c4_7 : w4.cell? ⟨w.heap.size, 7, none⟩ = some (.int .i64 0) := g4.cell (by go_simp) (by simp)
      have c4_8 : w4.cell? ⟨w.heap.size, 8, none⟩ = some (.int .i64 c) := g4.cell (by go_simp) (by simp)
      have c4_9 : w4.cell? ⟨w.heap.size, 9, none⟩ = some (.int .i64 d) := g4.cell (by go_simp) (by simp)
      have c4_10 : w4.cell? ⟨w.heap.size, 10, none⟩ = some (.int .i64 f) := g4.cell (by go_simp) (by simp)
      have c4_11 : w4.cell? ⟨w.heap.size, 11, none⟩ = some (.slice ai 0 ci) := g4.cell (by go_simp) (by simp)
      have c4_12 : w4.cell? ⟨w.heap.size, 12, none⟩ = some (.slice ao 0 co) := g4.cell (by go_simp) (by simp)
      clear c3_0 c3_1 c3_2 c3_3 c3_4 c3_5 c3_6 c3_7 c3_8 c3_9 c3_10 c3_11 c3_12
      cases h5 : noB i false
      · go_wp2_with fail
        go_ret
        exact ⟨ret_bool (by rw [no_false] at h5; simp [mayB, h5]), G4.out⟩
      · by_cases hs0 : s = 0
        · subst hs0
          go_wp2_with fail
          refine Calls.mono (refBase_any ⟨6, 0, i, ⟨0, 0, c, d, f⟩, is, es⟩ (.slice ai 0 ci) (.slice ao 0 co) _ (HI.out.grown G4.out) (HO.out.grown G4.out)) ?_
          rintro e w5 ⟨rfl, g5⟩
          go_wp2_with fail
          go_ret
          exact ⟨ret_bool (by rw [no_false] at h5; simp [mayB, h5]), G4.out.trans g5⟩
        · have hs1 : (s == 0) = false := by simpa using hs0
          go_wp2_with fail
          go_ret
          exact ⟨ret_bool (by simp [mayB, hs0]), G4.out⟩
    obtain rfl : c = 0 := by omega
    clear hc
    by_cases hd : ¬ d = 0
    · go_wp2_with fail
      refine Calls.mono (refNothing_any i false _ hp hs fp fs) ?_
      rintro e w3 ⟨rfl, g3⟩
      have G3 := Hid.mk' (G2.out.trans g3)
      have c3_0 : w3.cell? ⟨w.heap.size, 0, none⟩ = some (.int .i64 6) := g3.cell (by go_simp) (by simp)
      have c3_1 : w3.cell? ⟨w.heap.size, 1, none⟩ = some (.int .i64 s) := g3.cell (by go_simp) (by simp)
      have c3_2 : w3.cell? ⟨w.heap.size, 2, none⟩ = some (.int .i64 i.sh) := g3.cell (by go_simp) (by simp)
      have c3_3 : w3.cell? ⟨w.heap.size, 3, none⟩ = some (.int .i64 i.nu) := g3.cell (by go_simp) (by simp)
      have c3_4 : w3.cell? ⟨w.heap.size, 4, none⟩ = some (.float .f32 i.pl) := g3.cell (by go_simp) (by simp)
      have c3_5 : w3.cell? ⟨w.heap.size, 5, none⟩ = some (.float .f32 i.sp) := g3.cell (by go_simp) (by simp)
      have c3_6 : w3.cell? ⟨w.heap.size, 6, none⟩ = some (.int .i64 0) := g3.cell (by go_simp) (by simp)
      have c3_7 : w3.cell? ⟨w.heap.size, 7, none⟩ = some (.int .i64 0) := g3.cell (by go_simp) (by simp)
      have c3_8 : w3.cell? ⟨w.heap.size, 8, none⟩ = some (.int .i64 0) := g3.cell (by go_simp) (by simp)
      have c3_9 : w3.cell? ⟨w.heap.size, 9, none⟩ = some (.int .i64 d) := g3.cell (by go_simp) (by simp)
      have c3_10 : w3.cell? ⟨w.heap.size, 10, none⟩ = some (.int .i64 f) := g3.cell (by go_simp) (by simp)
      have c3_11 : w3.cell? ⟨w.heap.size, 11, none⟩ = some (.slice ai 0 ci) := g3.cell (by go_simp) (by simp)
      have c3_12 : w3.cell? ⟨w.heap.size, 12, none⟩ = some (.slice ao 0 co) := g3.cell (by go_simp) (by simp)
      go_wp2_with fail
      refine Calls.mono (refThing_any i _) ?_
      rintro e w4 ⟨rfl, g4⟩
      have G4 := Hid.mk' (G3.out.trans g4)
      have c4_0 : w4.cell? ⟨w.heap.size, 0, none⟩ = some (.int .i64 6) := g4.cell (by go_simp) (by simp)
      have c4_1 : w4.cell? ⟨w.heap.size, 1, none⟩ = some (.int .i64 s) := g4.cell (by go_simp) (by simp)
      have c4_2 : w4.cell? ⟨w.heap.size, 2, none⟩ = some (.int .i64 i.sh) := g4.cell (by go_simp) (by simp)
      have c4_3 : w4.cell? ⟨w.heap.size, 3, none⟩ = some (.int .i64 i.nu) := g4.cell (by go_simp) (by simp)
      have c4_4 : w4.cell? ⟨w.heap.size, 4, none⟩ = some (.float .f32 i.pl) := g4.cell (by go_simp) (by simp)
      have c4_5 : w4.cell? ⟨w.heap.size, 5, none⟩ = some (.float .f32 i.sp) := g4.cell (by go_simp) (by simp)
      have c4_6 : w4.cell? ⟨w.heap.size, 6, none⟩ = some (.int .i64 0) := g4.cell (by go_simp) (by simp)
      have c4_7 : w4.cell? ⟨w.heap.size, 7, none⟩ = some (.int .i64 0) := g4.cell (by go_simp) (by simp)
      have c4_8 : w4.cell? ⟨w.heap.size, 8, none⟩ = some (.int .i64 0) := g4.cell (by go_simp) (by simp)
      have c4_9 : w4.cell? ⟨w.heap.size, 9, none⟩ = some (.int .i64 d) := g4.cell (by go_simp) (by simp)
      have c4_10 : w4.cell? ⟨w.heap.size, 10, none⟩ = some (.int .i64 f) := g4.cell (by go_simp) (by simp)
      have c4_11 : w4.cell? ⟨w.heap.size, 11, none⟩ = some (.slice ai 0 ci) := g4.cell (by go_simp) (by simp)
      have c4_12 : w4.cell? ⟨w.heap.size, 12, none⟩ = some (.slice ao 0 co) := g4.cell (by go_simp) (by simp)
      clear c3_0 c3_1 c3_2 c3_3 c3_4 c3_5 c3_6 c3_7 c3_8 c3_9 c3_10 c3_11 c3_12
      cases h5 : noB i false
      · go_wp2_with fail
        go_ret
        exact ⟨ret_bool (by rw [no_false] at h5; simp [mayB, h5]), G4.out⟩
      · by_cases hs0 : s = 0
        · subst hs0
          go_wp2_with fail
          refine Calls.mono (refBase_any ⟨6, 0, i, ⟨0, 0, 0, d, f⟩, is, es⟩ (.slice ai 0 ci) (.slice ao 0 co) _ (HI.out.grown G4.out) (HO.out.grown G4.out)) ?_
          rintro e w5 ⟨rfl, g5⟩
          go_wp2_with fail
          go_ret
          exact ⟨ret_bool (by rw [no_false] at h5; simp [mayB, h5]), G4.out.trans g5⟩
        · have hs1 : (s == 0) = false := by simpa using hs0
          go_wp2_with fail
          go_ret
          exact ⟨ret_bool (by simp [mayB, hs0]), G4.out⟩
    obtain rfl : d = 0 := by omega
    clear hd
    by_cases hf : ¬ f = 0
    · go_wp2_with fail
      refine Calls.mono (refNothing_any i false _ hp hs fp fs) ?_
      rintro e w3 ⟨rfl, g3⟩
      have G3 := Hid.mk' (G2.out.trans g3)
      have c3_0 : w3.cell? ⟨w.heap.size, 0, none⟩ = some (.int .i64 6) := g3.cell (by go_simp) (by simp)
      have c3_1 : w3.cell? ⟨w.heap.size, 1, none⟩ = some (.int .i64 s) := g3.cell (by go_simp) (by simp)
      have c3_2 : w3.cell? ⟨w.heap.size, 2, none⟩ = some (.int .i64 i.sh) := g3.cell (by go_simp) (by simp)
      have c3_3 : w3.cell? ⟨w.heap.size, 3, none⟩ = some (.int .i64 i.nu) := g3.cell (by go_simp) (by simp)
      have c3_4 : w3.cell? ⟨w.heap.size, 4, none⟩ = some (.float .f32 i.pl) := g3.cell (by go_simp) (by simp)
      have c3_5 : w3.cell? ⟨w.heap.size, 5, none⟩ = some (.float .f32 i.sp) := g3.cell (by go_simp) (by simp)
      have c3_6 : w3.cell? ⟨w.heap.size, 6, none⟩ = some (.int .i64 0) := g3.cell (by go_simp) (by simp)
      have c3_7 : w3.cell? ⟨w.heap.size, 7, none⟩ = some (.int .i64 0) := g3.cell (by go_simp) (by simp)
      have c3_8 : w3.cell? ⟨w.heap.size, 8, none⟩ = some (.int .i64 0) := g3.cell (by go_simp) (by simp)
      have c3_9 : w3.cell? ⟨w.heap.size, 9, none⟩ = some (.int .i64 0) := g3.cell (by go_simp) (by simp)
      have c3_10 : w3.cell? ⟨w.heap.size, 10, none⟩ = some (.int .i64 f) := g3.cell (by go_simp) (by simp)
      have c3_11 : w3.cell? ⟨w.heap.size, 11, none⟩ = some (.slice ai 0 ci) := g3.cell (by go_simp) (by simp)
      have c3_12 : w3.cell? ⟨w.heap.size, 12, none⟩ = some (.slice ao 0 co) := g3.cell (by go_simp) (by simp)
      go_wp2_with fail
      refine Calls.mono (refThing_any i _) ?_
      rintro e w4 ⟨rfl, g4⟩
      have G4 := Hid.mk' (G3.out.trans g4)
      have c4_0 : w4.cell? ⟨w.heap.size, 0, none⟩ = some (.int .i64 6) := g4.cell (by go_simp) (by simp)
      have c4_1 : w4.cell? ⟨w.heap.size, 1, none⟩ = some (.int .i64 s) := g4.cell (by go_simp) (by simp)
      have c4_2 : w4.cell? ⟨w.heap.size, 2, none⟩ = some (.int .i64 i.sh) := g4.cell (by go_simp) (by simp)
      have c4_3 : w4.cell? ⟨w.heap.size, 3, none⟩ = some (.int .i64 i.nu) := g4.cell (by go_simp) (by simp)
      have c4_4 : w4.cell? ⟨w.heap.size, 4, none⟩ = some (.float .f32 i.pl) := g4.cell (by go_simp) (by simp)
      have c4_5 : w4.cell? ⟨w.heap.size, 5, none⟩ = some (.float .f32 i.sp) := g4.cell (by go_simp) (by simp)
      have c4_6 : w4.cell? ⟨w.heap.size, 6, none⟩ = some (.int .i64 0) := g4.cell (by go_simp) (by simp)
      have c4_7 : w4.cell? ⟨w.heap.size, 7, none⟩ = some (.int .i64 0) := g4.cell (by go_simp) (by simp)
      have c4_8 : w4.cell? ⟨w.heap.size, 8, none⟩ = some (.int .i64 0) := g4.cell (by go_simp) (by simp)
      have c4_9 : w4.cell? ⟨w.heap.size, 9, none⟩ = some (.int .i64 0) := g4.cell (by go_simp) (by simp)
      have c4_10 : w4.cell? ⟨w.heap.size, 10, none⟩ = some (.int .i64 f) := g4.cell (by go_simp) (by simp)
      have c4_11 : w4.cell? ⟨w.heap.size, 11, none⟩ = some (.slice ai 0 ci) := g4.cell (by go_simp) (by simp)
      have c4_12 : w4.cell? ⟨w.heap.size, 12, none⟩ = some (.slice ao 0 co) := g4.cell (by go_simp) (by simp)
      clear c3_0 c3_1 c3_2 c3_3 c3_4 c3_5 c3_6 c3_7 c3_8 c3_9 c3_10 c3_11 c3_12
      cases h5 : noB i false
      · go_wp2_with fail
        go_ret
        exact ⟨ret_bool (by rw [no_false] at h5; simp [mayB, h5]), G4.out⟩
      · by_cases hs0 : s = 0
        · subst hs0
          go_wp2_with fail
          refine Calls.mono (refBase_any ⟨6, 0, i, ⟨0, 0, 0, 0, f⟩, is, es⟩ (.slice ai 0 ci) (.slice ao 0 co) _ (HI.out.grown G4.out) (HO.out.grown G4.out)) ?_
          rintro e w5 ⟨rfl, g5⟩
          go_wp2_with fail
          go_ret
          exact ⟨ret_bool (by rw [no_false] at h5; simp [mayB, h5]), G4.out.trans g5⟩
        · have hs1 : (s == 0) = false := by simpa using hs0
          go_wp2_with fail
          go_ret
          exact ⟨ret_bool (by simp [mayB, hs0]), G4.out⟩
    obtain rfl : f = 0 := by omega
    clear hf
    go_wp2_with fail
    refine Calls.mono (refNothing_any i false _ hp hs fp fs) ?_
    rintro e w3 ⟨rfl, g3⟩
    have G3 := Hid.mk' (G2.out.trans g3)
    have c3_0 : w3.cell? ⟨w.heap.size, 0, none⟩ = some (.int .i64 6) := g3.cell (by go_simp) (by simp)
    have c3_1 : w3.cell? ⟨w.heap.size, 1, none⟩ = some (.int .i64 s) := g3.cell (by go_simp) (by simp)
    have c3_2 : w3.cell? ⟨w.heap.size, 2, none⟩ = some (.int .i64 i.sh) := g3.cell (by go_simp) (by simp)
    have c3_3 : w3.cell? ⟨w.heap.size, 3, none⟩ = some (.int .i64 i.nu) := g3.cell (by go_simp) (by simp)
    have c3_4 : w3.cell? ⟨w.heap.size, 4, none⟩ = some (.float .f32 i.pl) := g3.cell (by go_simp) (by simp)
    have c3_5 : w3.cell? ⟨w.heap.size, 5, none⟩ = some (.float .f32 i.sp) := g3.cell (by go_simp) (by simp)
    have c3_6 : w3.cell? ⟨w.heap.size, 6, none⟩ = some (.int .i64 0) := g3.cell (by go_simp) (by simp)
    have c3_7 : w3.cell? ⟨w.heap.size, 7, none⟩ = some (.int .i64 0) := g3.cell (by go_simp) (by simp)
    have c3_8 : w3.cell? ⟨w.heap.size, 8, none⟩ = some (.int .i64 0) := g3.cell (by go_simp) (by simp)
    have c3_9 : w3.cell? ⟨w.heap.size, 9, none⟩ = some (.int .i64 0) := g3.cell (by go_simp) (by simp)
    have c3_10 : w3.cell? ⟨w.heap.size, 10, none⟩ = some (.int .i64 0) := g3.cell (by go_simp) (by simp)
    have c3_11 : w3.cell? ⟨w.heap.size, 11, none⟩ = some (.slice ai 0 ci) := g3.cell (by go_simp) (by simp)
    have c3_12 : w3.cell? ⟨w.heap.size, 12, none⟩ = some (.slice ao 0 co) := g3.cell (by go_simp) (by simp)
    go_wp2_with fail
    refine Calls.mono (refThing_any i _) ?_
    rintro e w4 ⟨rfl, g4⟩
    have G4 := Hid.mk' (G3.out.trans g4)
    have c4_0 : w4.cell? ⟨w.heap.size, 0, none⟩ = some (.int .i64 6) := g4.cell (by go_simp) (by simp)
    have c4_1 : w4.cell? ⟨w.heap.size, 1, none⟩ = some (.int .i64 s) := g4.cell (by go_simp) (by simp)
    have c4_2 : w4.cell? ⟨w.heap.size, 2, none⟩ = some (.int .i64 i.sh) := g4.cell (by go_simp) (by simp)
    have c4_3 : w4.cell? ⟨w.heap.size, 3, none⟩ = some (.int .i64 i.nu) := g4.cell (by go_simp) (by simp)
    have c4_4 : w4.cell? ⟨w.heap.size, 4, none⟩ = some (.float .f32 i.pl) := g4.cell (by go_simp) (by simp)
    have c4_5 : w4.cell? ⟨w.heap.size, 5, none⟩ = some (.float .f32 i.sp) := g4.cell (by go_simp) (by simp)
    have c4_6 : w4.cell? ⟨w.heap.size, 6, none⟩ = some (.int .i64 0) := g4.cell (by go_simp) (by simp)
    have c4_7 : w4.cell? ⟨w.heap.size, 7, none⟩ = some (.int .i64 0) := g4.cell (by go_simp) (by simp)
    have c4_8 : w4.cell? ⟨w.heap.size, 8, none⟩ = some (.int .i64 0) := g4.cell (by go_simp) (by simp)
    have c4_9 : w4.cell? ⟨w.heap.size, 9, none⟩ = some (.int .i64 0) := g4.cell (by go_simp) (by simp)
    have c4_10 : w4.cell? ⟨w.heap.size, 10, none⟩ = some (.int .i64 0) := g4.cell (by go_simp) (by simp)
    have c4_11 : w4.cell? ⟨w.heap.size, 11, none⟩ = some (.slice ai 0 ci) := g4.cell (by go_simp) (by simp)
    have c4_12 : w4.cell? ⟨w.heap.size, 12, none⟩ = some (.slice ao 0 co) := g4.cell (by go_simp) (by simp)
    clear c3_0 c3_1 c3_2 c3_3 c3_4 c3_5 c3_6 c3_7 c3_8 c3_9 c3_10 c3_11 c3_12
    cases h5 : noB i false
    · go_wp2_with fail
      go_ret
      exact ⟨ret_bool (by rw [no_false] at h5; simp [mayB, h5]), G4.out⟩
    · by_cases hs0 : s = 0
      · subst hs0
        go_wp2_with fail
        refine Calls.mono (refBase_any ⟨6, 0, i, ⟨0, 0, 0, 0, 0⟩, is, es⟩ (.slice ai 0 ci) (.slice ao 0 co) _ (HI.out.grown G4.out) (HO.out.grown G4.out)) ?_
        rintro e w5 ⟨rfl, g5⟩
        go_wp2_with fail
        go_ret
        exact ⟨ret_bool (by rw [no_false] at h5; simp [mayB, h5]), G4.out.trans g5⟩
      · have hs1 : (s == 0) = false := by simpa using hs0
        go_wp2_with fail
        go_ret
        exact ⟨ret_bool (by simp [mayB, hs0]), G4.out⟩
  · have d0 : decide ((0 : Int) < (ni : Int) + (no : Int)) = true := by simp; omega
    go_wp2_with fail
    refine Calls.mono (refNothing_any i false _ hp hs fp fs) ?_
    rintro e w3 ⟨rfl, g3⟩
    have G3 := Hid.mk' (G2.out.trans g3)
    have c3_0 : w3.cell? ⟨w.heap.size, 0, none⟩ = some (.int .i64 6) := g3.cell (by go_simp) (by simp)
    have c3_1 : w3.cell? ⟨w.heap.size, 1, none⟩ = some (.int .i64 s) := g3.cell (by go_simp) (by simp)
    have c3_2 : w3.cell? ⟨w.heap.size, 2, none⟩ = some (.int .i64 i.sh) := g3.cell (by go_simp) (by simp)
    have c3_3 : w3.cell? ⟨w.heap.size, 3, none⟩ = some (.int .i64 i.nu) := g3.cell (by go_simp) (by simp)
    have c3_4 : w3.cell? ⟨w.heap.size, 4, none⟩ = some (.float .f32 i.pl) := g3.cell (by go_simp) (by simp)
    have c3_5 : w3.cell? ⟨w.heap.size, 5, none⟩ = some (.float .f32 i.sp) := g3.cell (by go_simp) (by simp)
    have c3_6 : w3.cell? ⟨w.heap.size, 6, none⟩ = some (.int .i64 m.g) := g3.cell (by go_simp) (by simp)
    have c3_7 : w3.cell? ⟨w.heap.size, 7, none⟩ = some (.int .i64 m.m) := g3.cell (by go_simp) (by simp)
    have c3_8 : w3.cell? ⟨w.heap.size, 8, none⟩ = some (.int .i64 m.s) := g3.cell (by go_simp) (by simp)
    have c3_9 : w3.cell? ⟨w.heap.size, 9, none⟩ = some (.int .i64 m.a) := g3.cell (by go_simp) (by simp)
    have c3_10 : w3.cell? ⟨w.heap.size, 10, none⟩ = some (.int .i64 m.n) := g3.cell (by go_simp) (by simp)
    have c3_11 : w3.cell? ⟨w.heap.size, 11, none⟩ = some (.slice ai ni ci) := g3.cell (by go_simp) (by simp)
    have c3_12 : w3.cell? ⟨w.heap.size, 12, none⟩ = some (.slice ao no co) := g3.cell (by go_simp) (by simp)
    go_wp2_with fail
    refine Calls.mono (refThing_any i _) ?_
    rintro e w4 ⟨rfl, g4⟩
    have G4 := Hid.mk' (G3.out.trans g4)
    have c4_0 : w4.cell? ⟨w.heap.size, 0, none⟩ = some (.int .i64 6) := g4.cell (by go_simp) (by simp)
    have c4_1 : w4.cell? ⟨w.heap.size, 1, none⟩ = some (.int .i64 s) := g4.cell (by go_simp) (by simp)
    have c4_2 : w4.cell? ⟨w.heap.size, 2, none⟩ = some (.int .i64 i.sh) := g4.cell (by go_simp) (by simp)
    have c4_3 : w4.cell? ⟨w.heap.size, 3, none⟩ = some (.int .i64 i.nu) := g4.cell (by go_simp) (by simp)
    have c4_4 : w4.cell? ⟨w.heap.size, 4, none⟩ = some (.float .f32 i.pl) := g4.cell (by go_simp) (by simp)
    have c4_5 : w4.cell? ⟨w.heap.size, 5, none⟩ = some (.float .f32 i.sp) := g4.cell (by go_simp) (by simp)
    have c4_6 : w4.cell? ⟨w.heap.size, 6, none⟩ = some (.int .i64 m.g) := g4.cell (by go_simp) (by simp)
    have c4_7 : w4.cell? ⟨w.heap.size, 7, none⟩ = some (.int .i64 m.m) := g4.cell (by go_simp) (by simp)
    have c4_8 : w4.cell? ⟨w.heap.size, 8, none⟩ = some (.int .i64 m.s) := g4.cell (by go_simp) (by simp)
    have c4_9 : w4.cell? ⟨w.heap.size, 9, none⟩ = some (.int .i64 m.a) := g4.cell (by go_simp) (by simp)
    have c4_10 : w4.cell? ⟨w.heap.size, 10, none⟩ = some (.int .i64 m.n) := g4.cell (by go_simp) (by simp)
    have c4_11 : w4.cell? ⟨w.heap.size, 11, none⟩ = some (.slice ai ni ci) := g4.cell (by go_simp) (by simp)
    have c4_12 : w4.cell? ⟨w.heap.size, 12, none⟩ = some (.slice ao no co) := g4.cell (by go_simp) (by simp)
    clear c3_0 c3_1 c3_2 c3_3 c3_4 c3_5 c3_6 c3_7 c3_8 c3_9 c3_10 c3_11 c3_12
    cases h5 : noB i false
    · go_wp2_with fail
      go_ret
      exact ⟨ret_bool (by rw [no_false] at h5; simp [mayB, h5]), G4.out⟩
    · by_cases hs0 : s = 0
      · subst hs0
        go_wp2_with fail
        refine Calls.mono (refBase_any ⟨6, 0, i, m, is, es⟩ (.slice ai ni ci) (.slice ao no co) _ (HI.out.grown G4.out) (HO.out.grown G4.out)) ?_
        rintro e w5 ⟨rfl, g5⟩
        go_wp2_with fail
        go_ret
        exact ⟨ret_bool (by rw [no_false] at h5; simp [mayB, h5]), G4.out.trans g5⟩
      · have hs1 : (s == 0) = false := by simpa using hs0
        go_wp2_with fail
        go_ret
        exact ⟨ret_bool (by simp [mayB, hs0]), G4.out⟩

theorem near_fin {x : Nat} (h : nearB x = true) : fin32 x = true := by
  cases hf : fin32 x
  · exfalso
    have hf' : ¬ x % 2147483648 < 2139095040 := of_decide_eq_false hf
    simp only [nearB, Bool.and_eq_true, Bool.or_eq_true, beq_iff_eq, Ieee.Format.order] at h
    obtain ⟨s1, m1, e1, r1⟩ : ∃ s m e, FloatKind.f32.format.read 3296329728 = .number s m e := ⟨_, _, _, rfl⟩
    obtain ⟨s2, m2, e2, r2⟩ : ∃ s m e, FloatKind.f32.format.read 1148846080 = .number s m e := ⟨_, _, _, rfl⟩
    rw [r1, r2] at h
    rcases Fl.read32_no x hf' with ⟨s, hr⟩ | ⟨s, f, hr⟩
    · have hr' : FloatKind.f32.format.read x = .infinity s := hr
      rw [hr'] at h
      cases s <;> simp [Ieee.Datum.order] at h
    · have hr' : FloatKind.f32.format.read x = .nan s f := hr
      rw [hr'] at h
      simp [Ieee.Datum.order] at h
  · rfl
theorem mayB_fin {r : Rc} (h : mayB r = true) : fin32 r.it.pl = true ∧ fin32 r.it.sp = true := by
  have hi : itB r.it = true → fin32 r.it.pl = true ∧ fin32 r.it.sp = true := fun h => by
    simp [itB] at h
    exact ⟨near_fin h.1.2, near_fin h.2⟩
  have hz : stB r.it = true → fin32 r.it.pl = true ∧ fin32 r.it.sp = true := fun h => by
    simp [stB] at h
    rw [h.1, h.2]; exact ⟨by decide, by decide⟩
  have hn : noIt r.it = true → fin32 r.it.pl = true ∧ fin32 r.it.sp = true := fun h => by
    simp only [noIt, Bool.and_eq_true] at h; exact hz h.2
  unfold mayB at h
  split at h
  · simp only [Bool.and_eq_true] at h; exact hi h.1.2
  split at h
  · simp only [Bool.and_eq_true] at h; exact hz h.1.2
  split at h
  · simp only [Bool.and_eq_true] at h; exact hn h.1.2
  split at h
  · simp only [Bool.and_eq_true] at h; exact hi h.1.2
  split at h
  · simp only [Bool.and_eq_true] at h; exact hn h.1.2
  split at h
  · simp only [Bool.and_eq_true] at h; exact hn h.1.2
  · exact absurd h (by decide)
theorem mayB_nob {r : Rc} (h : mayB r = true) (h6 : r.kind ≠ 6) : nobB r = true := by
  unfold mayB at h
  split at h
  · simp only [Bool.and_eq_true] at h; exact h.2
  split at h
  · simp only [Bool.and_eq_true] at h; exact h.2
  split at h
  · simp only [Bool.and_eq_true] at h; exact h.2
  split at h
  · simp only [Bool.and_eq_true] at h; exact h.2
  split at h
  · simp only [Bool.and_eq_true] at h; exact h.2
  · exact absurd h (by simp)

/-- WHICH RECORDS MAY BE, by the document. -/
theorem mayRef_any (r : Rc) (vi vo : Value) (w : World) (hi : LiesI w vi r.items) (ho : LiesE w vo r.outs) (wf : WfIt r.it) (hni : r.items.length ≤ 1000000000) (hno : r.outs.length ≤ 1000000000) :
    Calls Try.prog 25 #[rv r.kind r.seq r.it r.mks vi vo] w fun e w' => e = .returned (.bool (mayB r)) ∧ w.grownBy w' none := by
  have hfl : ∀ b, mayB r = false → b = false → (Calls Try.prog 25 #[rv r.kind r.seq r.it r.mks vi vo] w fun e w' => e = .returned (.bool b) ∧ w.grownBy w' none) → Calls Try.prog 25 #[rv r.kind r.seq r.it r.mks vi vo] w fun e w' => e = .returned (.bool (mayB r)) ∧ w.grownBy w' none := fun b h hb hc => by
    rw [h]; rw [hb] at hc; exact hc
  by_cases hK : r.kind < 1 ∨ 8 < r.kind
  · refine hfl false ?_ rfl ?_
    · rw [Bool.eq_false_iff]; intro h; have := may_kind h; omega
    · obtain ⟨ai, ci, rfl, _⟩ := hi
      obtain ⟨ao, co, rfl, _⟩ := ho
      exact refMay_kind _ _ _ _ _ _ _ _ _ _ w hK
  cases fp : fin32 r.it.pl
  · refine hfl false ?_ rfl ?_
    · rw [Bool.eq_false_iff]; intro h; have := (mayB_fin h).1; rw [fp] at this; exact absurd this (by decide)
    · obtain ⟨ai, ci, rfl, _⟩ := hi
      obtain ⟨ao, co, rfl, _⟩ := ho
      exact refMay_pl _ _ _ _ _ _ _ _ _ _ w (by omega) (by omega) fp
  cases fs : fin32 r.it.sp
  · refine hfl false ?_ rfl ?_
    · rw [Bool.eq_false_iff]; intro h; have := (mayB_fin h).2; rw [fs] at this; exact absurd this (by decide)
    · obtain ⟨ai, ci, rfl, _⟩ := hi
      obtain ⟨ao, co, rfl, _⟩ := ho
      exact refMay_sp _ _ _ _ _ _ _ _ _ _ w (by omega) (by omega) fp fs
  by_cases h6 : r.kind = 6
  · obtain ⟨K, s, i, m, is, es⟩ := r
    subst h6
    exact refMay_6 s i m is es vi vo w hi ho wf.p wf.s fp fs hni hno
  cases hb : nobB r
  · refine hfl false ?_ rfl ?_
    · rw [Bool.eq_false_iff]; intro h; have := mayB_nob h h6; rw [hb] at this; exact absurd this (by decide)
    · obtain ⟨ai, ci, rfl, _⟩ := hi
      obtain ⟨ao, co, rfl, _⟩ := ho
      exact refMay_lists _ _ _ _ _ _ _ _ _ _ w (by omega) (by omega) h6 fp fs hni hno hb
  obtain ⟨e1, e2, e3⟩ := nobB_eq hb
  obtain ⟨K, s, i, m, is, es⟩ := r
  obtain rfl : m = mk0 := e1
  obtain rfl : is = [] := e2
  obtain rfl : es = [] := e3
  obtain ⟨ai, ci, rfl, _⟩ := hi
  obtain ⟨ao, co, rfl, _⟩ := ho
  have hK' : K = 1 ∨ K = 2 ∨ K = 3 ∨ K = 4 ∨ K = 5 ∨ K = 7 ∨ K = 8 := by
    simp only at hK h6
    omega
  rcases hK' with rfl | rfl | rfl | rfl | rfl | rfl | rfl
  · exact refMay_1 s i ai ao ci co w wf.p wf.s fp fs
  · exact refMay_2 s i ai ao ci co w wf.p wf.s fp fs
  · exact refMay_3 s i ai ao ci co w wf.p wf.s fp fs
  · exact refMay_4 s i ai ao ci co w wf.p wf.s fp fs
  · exact refMay_5 s i ai ao ci co w wf.p wf.s fp fs
  · exact refMay_7 s i ai ao ci co w wf.p wf.s fp fs
  · exact refMay_8 s i ai ao ci co w wf.p wf.s fp fs

end Go.Proofs.Ytammnaafdhhjaaa
