import Derived.Test.YtammnaafdhhjaaaR61
/- Ytammnaafdhhjaaa: the bytes of a record, by the document: all kinds but the Base. -/
namespace Go.Proofs.Ytammnaafdhhjaaa
open Go.RowKit

theorem num2_5 (n : Int) (w : World) (h0 : 0 ≤ n) (h1 : n ≤ 4294967295) (p0 p1 p2 p3 p4 : Addr) (v0 v1 v2 v3 v4 : Value) (h : w.cell? p0 = some v0 ∧ w.cell? p1 = some v1 ∧ w.cell? p2 = some v2 ∧ w.cell? p3 = some v3 ∧ w.cell? p4 = some v4) :
    Calls Try.prog 27 #[.int .i64 n, .int .i64 2] w fun e w' => e = .returned (.string (S (beN 2 n))) ∧ w.grownBy w' none ∧ w'.cell? p0 = some v0 ∧ w'.cell? p1 = some v1 ∧ w'.cell? p2 = some v2 ∧ w'.cell? p3 = some v3 ∧ w'.cell? p4 = some v4 := by
  refine (refNumber_any n 2 w h0 h1 (by omega)).mono ?_
  rintro e w' ⟨he, g⟩
  exact ⟨he, g, g.cell h.1 (by simp), g.cell h.2.1 (by simp), g.cell h.2.2.1 (by simp), g.cell h.2.2.2.1 (by simp), g.cell h.2.2.2.2 (by simp)⟩
theorem num1_7 (n : Int) (w : World) (h0 : 0 ≤ n) (h1 : n ≤ 4294967295) (p0 p1 p2 p3 p4 p5 p6 : Addr) (v0 v1 v2 v3 v4 v5 v6 : Value) (h : w.cell? p0 = some v0 ∧ w.cell? p1 = some v1 ∧ w.cell? p2 = some v2 ∧ w.cell? p3 = some v3 ∧ w.cell? p4 = some v4 ∧ w.cell? p5 = some v5 ∧ w.cell? p6 = some v6) :
    Calls Try.prog 27 #[.int .i64 n, .int .i64 1] w fun e w' => e = .returned (.string (S (beN 1 n))) ∧ w.grownBy w' none ∧ w'.cell? p0 = some v0 ∧ w'.cell? p1 = some v1 ∧ w'.cell? p2 = some v2 ∧ w'.cell? p3 = some v3 ∧ w'.cell? p4 = some v4 ∧ w'.cell? p5 = some v5 ∧ w'.cell? p6 = some v6 := by
  refine (refNumber_any n 1 w h0 h1 (by omega)).mono ?_
  rintro e w' ⟨he, g⟩
  exact ⟨he, g, g.cell h.1 (by simp), g.cell h.2.1 (by simp), g.cell h.2.2.1 (by simp), g.cell h.2.2.2.1 (by simp), g.cell h.2.2.2.2.1 (by simp), g.cell h.2.2.2.2.2.1 (by simp), g.cell h.2.2.2.2.2.2 (by simp)⟩
theorem num2_7 (n : Int) (w : World) (h0 : 0 ≤ n) (h1 : n ≤ 4294967295) (p0 p1 p2 p3 p4 p5 p6 : Addr) (v0 v1 v2 v3 v4 v5 v6 : Value) (h : w.cell? p0 = some v0 ∧ w.cell? p1 = some v1 ∧ w.cell? p2 = some v2 ∧ w.cell? p3 = some v3 ∧ w.cell? p4 = some v4 ∧ w.cell? p5 = some v5 ∧ w.cell? p6 = some v6) :
    Calls Try.prog 27 #[.int .i64 n, .int .i64 2] w fun e w' => e = .returned (.string (S (beN 2 n))) ∧ w.grownBy w' none ∧ w'.cell? p0 = some v0 ∧ w'.cell? p1 = some v1 ∧ w'.cell? p2 = some v2 ∧ w'.cell? p3 = some v3 ∧ w'.cell? p4 = some v4 ∧ w'.cell? p5 = some v5 ∧ w'.cell? p6 = some v6 := by
  refine (refNumber_any n 2 w h0 h1 (by omega)).mono ?_
  rintro e w' ⟨he, g⟩
  exact ⟨he, g, g.cell h.1 (by simp), g.cell h.2.1 (by simp), g.cell h.2.2.1 (by simp), g.cell h.2.2.2.1 (by simp), g.cell h.2.2.2.2.1 (by simp), g.cell h.2.2.2.2.2.1 (by simp), g.cell h.2.2.2.2.2.2 (by simp)⟩
theorem num2_6 (n : Int) (w : World) (h0 : 0 ≤ n) (h1 : n ≤ 4294967295) (p0 p1 p2 p3 p4 p5 : Addr) (v0 v1 v2 v3 v4 v5 : Value) (h : w.cell? p0 = some v0 ∧ w.cell? p1 = some v1 ∧ w.cell? p2 = some v2 ∧ w.cell? p3 = some v3 ∧ w.cell? p4 = some v4 ∧ w.cell? p5 = some v5) :
    Calls Try.prog 27 #[.int .i64 n, .int .i64 2] w fun e w' => e = .returned (.string (S (beN 2 n))) ∧ w.grownBy w' none ∧ w'.cell? p0 = some v0 ∧ w'.cell? p1 = some v1 ∧ w'.cell? p2 = some v2 ∧ w'.cell? p3 = some v3 ∧ w'.cell? p4 = some v4 ∧ w'.cell? p5 = some v5 := by
  refine (refNumber_any n 2 w h0 h1 (by omega)).mono ?_
  rintro e w' ⟨he, g⟩
  exact ⟨he, g, g.cell h.1 (by simp), g.cell h.2.1 (by simp), g.cell h.2.2.1 (by simp), g.cell h.2.2.2.1 (by simp), g.cell h.2.2.2.2.1 (by simp), g.cell h.2.2.2.2.2 (by simp)⟩
theorem item_5 (i : It) (w : World) (hk : ItOk i) (fp : fin32 i.pl = true) (fs : fin32 i.sp = true) (p0 p1 p2 p3 p4 : Addr) (v0 v1 v2 v3 v4 : Value) (h : w.cell? p0 = some v0 ∧ w.cell? p1 = some v1 ∧ w.cell? p2 = some v2 ∧ w.cell? p3 = some v3 ∧ w.cell? p4 = some v4) :
    Calls Try.prog 46 #[.agg #[.int .i64 i.sh, .int .i64 i.nu, .float .f32 i.pl, .float .f32 i.sp]] w fun e w' => e = .returned (.string (S (eIt i))) ∧ w.grownBy w' none ∧ w'.cell? p0 = some v0 ∧ w'.cell? p1 = some v1 ∧ w'.cell? p2 = some v2 ∧ w'.cell? p3 = some v3 ∧ w'.cell? p4 = some v4 := by
  refine (refItem_any i w hk fp fs).mono ?_
  rintro e w' ⟨he, g⟩
  exact ⟨he, g, g.cell h.1 (by simp), g.cell h.2.1 (by simp), g.cell h.2.2.1 (by simp), g.cell h.2.2.2.1 (by simp), g.cell h.2.2.2.2 (by simp)⟩
theorem item_6 (i : It) (w : World) (hk : ItOk i) (fp : fin32 i.pl = true) (fs : fin32 i.sp = true) (p0 p1 p2 p3 p4 p5 : Addr) (v0 v1 v2 v3 v4 v5 : Value) (h : w.cell? p0 = some v0 ∧ w.cell? p1 = some v1 ∧ w.cell? p2 = some v2 ∧ w.cell? p3 = some v3 ∧ w.cell? p4 = some v4 ∧ w.cell? p5 = some v5) :
    Calls Try.prog 46 #[.agg #[.int .i64 i.sh, .int .i64 i.nu, .float .f32 i.pl, .float .f32 i.sp]] w fun e w' => e = .returned (.string (S (eIt i))) ∧ w.grownBy w' none ∧ w'.cell? p0 = some v0 ∧ w'.cell? p1 = some v1 ∧ w'.cell? p2 = some v2 ∧ w'.cell? p3 = some v3 ∧ w'.cell? p4 = some v4 ∧ w'.cell? p5 = some v5 := by
  refine (refItem_any i w hk fp fs).mono ?_
  rintro e w' ⟨he, g⟩
  exact ⟨he, g, g.cell h.1 (by simp), g.cell h.2.1 (by simp), g.cell h.2.2.1 (by simp), g.cell h.2.2.2.1 (by simp), g.cell h.2.2.2.2.1 (by simp), g.cell h.2.2.2.2.2 (by simp)⟩
theorem refNum1 (n : Int) (w : World) (h0 : 0 ≤ n) (h1 : n ≤ 255) :
    Calls Try.prog 27 #[.int .i64 n, .int .i64 1] w fun e w' => e = .returned (.string (S [u8 n])) ∧ w.grownBy w' none := by
  rw [← beN1 n h0 h1]
  exact refNumber_any n 1 w h0 (by omega) (by omega)
theorem refNum2 (n : Int) (w : World) (h0 : 0 ≤ n) (h1 : n ≤ 65535) :
    Calls Try.prog 27 #[.int .i64 n, .int .i64 2] w fun e w' => e = .returned (.string (S (n2 n))) ∧ w.grownBy w' none := by
  rw [← beN2 n h0 h1]
  exact refNumber_any n 2 w h0 (by omega) (by omega)
set_option maxHeartbeats 2000000 in
theorem refBody_1 (s : Int) (i : It) (m : Mk) (ai ao : Option Addr) (ni ci no co : Nat) (w : World) (hk : ItOk i) (fp : fin32 i.pl = true) (fs : fin32 i.sp = true) :
    Calls Try.prog 26 #[rv 1 s i m (.slice ai ni ci) (.slice ao no co)] w fun e w' => e = .returned (.string (S ([u8 1] ++ eIt i))) ∧ w.grownBy w' none := by
  unfold rv
  have hap := S_app
  have hsz := S_size
  have hln := beN_len
  have h2l := n2_len
  have hil := eIt_len
  go_enter Try.func26, Try.ntmps26
  go_wp2_with fail
  refine (refNum1 1 _ (by omega) (by omega)).mono ?_
  rintro e w1 ⟨rfl, g1⟩
  have G1 := Hid.mk' ((World.grownBy_alloc w _ none).trans g1)
  have c1_0 : w1.cell? ⟨w.heap.size, 0, none⟩ = some (.int .i64 1) := g1.cell (by go_simp) (by simp)
  have c1_1 : w1.cell? ⟨w.heap.size, 1, none⟩ = some (.int .i64 s) := g1.cell (by go_simp) (by simp)
  have c1_2 : w1.cell? ⟨w.heap.size, 2, none⟩ = some (.int .i64 i.sh) := g1.cell (by go_simp) (by simp)
  have c1_3 : w1.cell? ⟨w.heap.size, 3, none⟩ = some (.int .i64 i.nu) := g1.cell (by go_simp) (by simp)
  have c1_4 : w1.cell? ⟨w.heap.size, 4, none⟩ = some (.float .f32 i.pl) := g1.cell (by go_simp) (by simp)
  have c1_5 : w1.cell? ⟨w.heap.size, 5, none⟩ = some (.float .f32 i.sp) := g1.cell (by go_simp) (by simp)
  have c1_6 : w1.cell? ⟨w.heap.size, 6, none⟩ = some (.int .i64 m.g) := g1.cell (by go_simp) (by simp)
  have c1_7 : w1.cell? ⟨w.heap.size, 7, none⟩ = some (.int .i64 m.m) := g1.cell (by go_simp) (by simp)
  have c1_8 : w1.cell? ⟨w.heap.size, 8, none⟩ = some (.int .i64 m.s) := g1.cell (by go_simp) (by simp)
  have c1_9 : w1.cell? ⟨w.heap.size, 9, none⟩ = some (.int .i64 m.a) := g1.cell (by go_simp) (by simp)
  have c1_10 : w1.cell? ⟨w.heap.size, 10, none⟩ = some (.int .i64 m.n) := g1.cell (by go_simp) (by simp)
  have c1_11 : w1.cell? ⟨w.heap.size, 11, none⟩ = some (.slice ai ni ci) := g1.cell (by go_simp) (by simp)
  have c1_12 : w1.cell? ⟨w.heap.size, 12, none⟩ = some (.slice ao no co) := g1.cell (by go_simp) (by simp)
  go_wp2_with fail
  refine (refItem_any i _ hk fp fs).mono ?_
  rintro e w2 ⟨rfl, g2⟩
  go_wp2
  go_ret
  exact ⟨rfl, G1.out.trans g2⟩

set_option maxHeartbeats 2000000 in
theorem refBody_2 (s : Int) (i : It) (m : Mk) (ai ao : Option Addr) (ni ci no co : Nat) (w : World) (h0 : 0 ≤ i.sh) (h1 : i.sh ≤ 255) (h2 : 0 ≤ i.nu) (h3 : i.nu ≤ 65535) :
    Calls Try.prog 26 #[rv 2 s i m (.slice ai ni ci) (.slice ao no co)] w fun e w' => e = .returned (.string (S ([u8 2] ++ ([u8 i.sh] ++ n2 i.nu)))) ∧ w.grownBy w' none := by
  unfold rv
  have hap := S_app
  have hsz := S_size
  have hln := beN_len
  have h2l := n2_len
  have hil := eIt_len
  go_enter Try.func26, Try.ntmps26
  go_wp2_with fail
  refine (refNum1 2 _ (by omega) (by omega)).mono ?_
  rintro e w1 ⟨rfl, g1⟩
  have G1 := Hid.mk' ((World.grownBy_alloc w _ none).trans g1)
  have c1_0 : w1.cell? ⟨w.heap.size, 0, none⟩ = some (.int .i64 2) := g1.cell (by go_simp) (by simp)
  have c1_1 : w1.cell? ⟨w.heap.size, 1, none⟩ = some (.int .i64 s) := g1.cell (by go_simp) (by simp)
  have c1_2 : w1.cell? ⟨w.heap.size, 2, none⟩ = some (.int .i64 i.sh) := g1.cell (by go_simp) (by simp)
  have c1_3 : w1.cell? ⟨w.heap.size, 3, none⟩ = some (.int .i64 i.nu) := g1.cell (by go_simp) (by simp)
  have c1_4 : w1.cell? ⟨w.heap.size, 4, none⟩ = some (.float .f32 i.pl) := g1.cell (by go_simp) (by simp)
  have c1_5 : w1.cell? ⟨w.heap.size, 5, none⟩ = some (.float .f32 i.sp) := g1.cell (by go_simp) (by simp)
  have c1_6 : w1.cell? ⟨w.heap.size, 6, none⟩ = some (.int .i64 m.g) := g1.cell (by go_simp) (by simp)
  have c1_7 : w1.cell? ⟨w.heap.size, 7, none⟩ = some (.int .i64 m.m) := g1.cell (by go_simp) (by simp)
  have c1_8 : w1.cell? ⟨w.heap.size, 8, none⟩ = some (.int .i64 m.s) := g1.cell (by go_simp) (by simp)
  have c1_9 : w1.cell? ⟨w.heap.size, 9, none⟩ = some (.int .i64 m.a) := g1.cell (by go_simp) (by simp)
  have c1_10 : w1.cell? ⟨w.heap.size, 10, none⟩ = some (.int .i64 m.n) := g1.cell (by go_simp) (by simp)
  have c1_11 : w1.cell? ⟨w.heap.size, 11, none⟩ = some (.slice ai ni ci) := g1.cell (by go_simp) (by simp)
  have c1_12 : w1.cell? ⟨w.heap.size, 12, none⟩ = some (.slice ao no co) := g1.cell (by go_simp) (by simp)
  have hb := Hid.mk' (beN1 i.sh h0 h1)
  have hc := Hid.mk' (beN2 i.nu h2 h3)
  go_wp2_with fail
  go_region_held3 (fun w' => w'.cell? ⟨w.heap.size, 2, none⟩ = some (.int .i64 i.sh) ∧ w'.cell? ⟨w.heap.size, 3, none⟩ = some (.int .i64 i.nu) ∧ w'.cell? ⟨w.heap.size, 4, none⟩ = some (.float .f32 i.pl) ∧ w'.cell? ⟨w.heap.size, 5, none⟩ = some (.float .f32 i.sp)) (go_keep)
    (first | (go_at_call_of 27 (Value.int IntKind.i64 i.sh); refine (num1 i.sh _ h0 (by omega) _ _ _ _ _ _ _ _ (by assumption)).mono ?_; rintro e wa ⟨rfl, ga, ka⟩) | (go_at_call_of 27 (Value.int IntKind.i64 i.nu); refine (num2 i.nu _ h2 (by omega) _ _ _ _ _ _ _ _ (by assumption)).mono ?_; rintro e wb ⟨rfl, gb, kb⟩))
  go_wp2
  go_ret
  refine ⟨?_, ((grownBy_drew G1.out).trans ga).trans gb⟩
  show Ending.returned (.string (S (u8 2 :: (beN 1 i.sh ++ beN 2 i.nu)))) = _
  rw [hb.out, hc.out]
  rfl

set_option maxHeartbeats 2000000 in
theorem refBody_3 (s : Int) (i : It) (m : Mk) (ai ao : Option Addr) (ni ci no co : Nat) (w : World)  :
    Calls Try.prog 26 #[rv 3 s i m (.slice ai ni ci) (.slice ao no co)] w fun e w' => e = .returned (.string (S ([u8 3]))) ∧ w.grownBy w' none := by
  unfold rv
  have hap := S_app
  have hsz := S_size
  have hln := beN_len
  have h2l := n2_len
  have hil := eIt_len
  go_enter Try.func26, Try.ntmps26
  go_wp2_with fail
  refine (refNum1 3 _ (by omega) (by omega)).mono ?_
  rintro e w1 ⟨rfl, g1⟩
  have G1 := Hid.mk' ((World.grownBy_alloc w _ none).trans g1)
  have c1_0 : w1.cell? ⟨w.heap.size, 0, none⟩ = some (.int .i64 3) := g1.cell (by go_simp) (by simp)
  have c1_1 : w1.cell? ⟨w.heap.size, 1, none⟩ = some (.int .i64 s) := g1.cell (by go_simp) (by simp)
  have c1_2 : w1.cell? ⟨w.heap.size, 2, none⟩ = some (.int .i64 i.sh) := g1.cell (by go_simp) (by simp)
  have c1_3 : w1.cell? ⟨w.heap.size, 3, none⟩ = some (.int .i64 i.nu) := g1.cell (by go_simp) (by simp)
  have c1_4 : w1.cell? ⟨w.heap.size, 4, none⟩ = some (.float .f32 i.pl) := g1.cell (by go_simp) (by simp)
  have c1_5 : w1.cell? ⟨w.heap.size, 5, none⟩ = some (.float .f32 i.sp) := g1.cell (by go_simp) (by simp)
  have c1_6 : w1.cell? ⟨w.heap.size, 6, none⟩ = some (.int .i64 m.g) := g1.cell (by go_simp) (by simp)
  have c1_7 : w1.cell? ⟨w.heap.size, 7, none⟩ = some (.int .i64 m.m) := g1.cell (by go_simp) (by simp)
  have c1_8 : w1.cell? ⟨w.heap.size, 8, none⟩ = some (.int .i64 m.s) := g1.cell (by go_simp) (by simp)
  have c1_9 : w1.cell? ⟨w.heap.size, 9, none⟩ = some (.int .i64 m.a) := g1.cell (by go_simp) (by simp)
  have c1_10 : w1.cell? ⟨w.heap.size, 10, none⟩ = some (.int .i64 m.n) := g1.cell (by go_simp) (by simp)
  have c1_11 : w1.cell? ⟨w.heap.size, 11, none⟩ = some (.slice ai ni ci) := g1.cell (by go_simp) (by simp)
  have c1_12 : w1.cell? ⟨w.heap.size, 12, none⟩ = some (.slice ao no co) := g1.cell (by go_simp) (by simp)
  clear hap hsz hln h2l hil
  go_wp2
  go_ret
  exact ⟨rfl, G1.out⟩

set_option maxHeartbeats 2000000 in
theorem refBody_4 (s : Int) (i : It) (m : Mk) (ai ao : Option Addr) (ni ci no co : Nat) (w : World) (h0 : 0 ≤ s) (h1 : s ≤ 65535) (hk : ItOk i) (fp : fin32 i.pl = true) (fs : fin32 i.sp = true) :
    Calls Try.prog 26 #[rv 4 s i m (.slice ai ni ci) (.slice ao no co)] w fun e w' => e = .returned (.string (S ([u8 4] ++ n2 s ++ eIt i))) ∧ w.grownBy w' none := by
  unfold rv
  have hap := S_app
  have hsz := S_size
  have hln := beN_len
  have h2l := n2_len
  have hil := eIt_len
  go_enter Try.func26, Try.ntmps26
  go_wp2_with fail
  refine (refNum1 4 _ (by omega) (by omega)).mono ?_
  rintro e w1 ⟨rfl, g1⟩
  have G1 := Hid.mk' ((World.grownBy_alloc w _ none).trans g1)
  have c1_0 : w1.cell? ⟨w.heap.size, 0, none⟩ = some (.int .i64 4) := g1.cell (by go_simp) (by simp)
  have c1_1 : w1.cell? ⟨w.heap.size, 1, none⟩ = some (.int .i64 s) := g1.cell (by go_simp) (by simp)
  have c1_2 : w1.cell? ⟨w.heap.size, 2, none⟩ = some (.int .i64 i.sh) := g1.cell (by go_simp) (by simp)
  have c1_3 : w1.cell? ⟨w.heap.size, 3, none⟩ = some (.int .i64 i.nu) := g1.cell (by go_simp) (by simp)
  have c1_4 : w1.cell? ⟨w.heap.size, 4, none⟩ = some (.float .f32 i.pl) := g1.cell (by go_simp) (by simp)
  have c1_5 : w1.cell? ⟨w.heap.size, 5, none⟩ = some (.float .f32 i.sp) := g1.cell (by go_simp) (by simp)
  have c1_6 : w1.cell? ⟨w.heap.size, 6, none⟩ = some (.int .i64 m.g) := g1.cell (by go_simp) (by simp)
  have c1_7 : w1.cell? ⟨w.heap.size, 7, none⟩ = some (.int .i64 m.m) := g1.cell (by go_simp) (by simp)
  have c1_8 : w1.cell? ⟨w.heap.size, 8, none⟩ = some (.int .i64 m.s) := g1.cell (by go_simp) (by simp)
  have c1_9 : w1.cell? ⟨w.heap.size, 9, none⟩ = some (.int .i64 m.a) := g1.cell (by go_simp) (by simp)
  have c1_10 : w1.cell? ⟨w.heap.size, 10, none⟩ = some (.int .i64 m.n) := g1.cell (by go_simp) (by simp)
  have c1_11 : w1.cell? ⟨w.heap.size, 11, none⟩ = some (.slice ai ni ci) := g1.cell (by go_simp) (by simp)
  have c1_12 : w1.cell? ⟨w.heap.size, 12, none⟩ = some (.slice ao no co) := g1.cell (by go_simp) (by simp)
  have hc := Hid.mk' (beN2 s h0 h1)
  go_wp2_with fail
  go_region_held3 (fun w' => w'.cell? ⟨w.heap.size, 1, none⟩ = some (.int .i64 s) ∧ w'.cell? ⟨w.heap.size, 2, none⟩ = some (.int .i64 i.sh) ∧ w'.cell? ⟨w.heap.size, 3, none⟩ = some (.int .i64 i.nu) ∧ w'.cell? ⟨w.heap.size, 4, none⟩ = some (.float .f32 i.pl) ∧ w'.cell? ⟨w.heap.size, 5, none⟩ = some (.float .f32 i.sp)) (go_keep)
    (first | (go_at_call 27; refine (num2_5 s _ h0 (by omega) _ _ _ _ _ _ _ _ _ _ (by assumption)).mono ?_; rintro e wa ⟨rfl, ga, ka⟩) | (go_at_call 46; refine (item_5 i _ hk fp fs _ _ _ _ _ _ _ _ _ _ (by assumption)).mono ?_; rintro e wb ⟨rfl, gb, kb⟩))
  go_wp2
  go_ret
  refine ⟨?_, ((grownBy_drew G1.out).trans ga).trans gb⟩
  rw [← hc.out]
  simp

set_option maxHeartbeats 2000000 in
theorem refBody_7 (s : Int) (i : It) (m : Mk) (ai ao : Option Addr) (ni ci no co : Nat) (w : World) (h0 : 0 ≤ s) (h1 : s ≤ 65535) (hk : ItOk i) (fp : fin32 i.pl = true) (fs : fin32 i.sp = true) :
    Calls Try.prog 26 #[rv 7 s i m (.slice ai ni ci) (.slice ao no co)] w fun e w' => e = .returned (.string (S ([u8 7] ++ n2 s ++ eIt i))) ∧ w.grownBy w' none := by
  unfold rv
  have hap := S_app
  have hsz := S_size
  have hln := beN_len
  have h2l := n2_len
  have hil := eIt_len
  go_enter Try.func26, Try.ntmps26
  go_wp2_with fail
  refine (refNum1 7 _ (by omega) (by omega)).mono ?_
  rintro e w1 ⟨rfl, g1⟩
  have G1 := Hid.mk' ((World.grownBy_alloc w _ none).trans g1)
  have c1_0 : w1.cell? ⟨w.heap.size, 0, none⟩ = some (.int .i64 7) := g1.cell (by go_simp) (by simp)
  have c1_1 : w1.cell? ⟨w.heap.size, 1, none⟩ = some (.int .i64 s) := g1.cell (by go_simp) (by simp)
  have c1_2 : w1.cell? ⟨w.heap.size, 2, none⟩ = some (.int .i64 i.sh) := g1.cell (by go_simp) (by simp)
  have c1_3 : w1.cell? ⟨w.heap.size, 3, none⟩ = some (.int .i64 i.nu) := g1.cell (by go_simp) (by simp)
  have c1_4 : w1.cell? ⟨w.heap.size, 4, none⟩ = some (.float .f32 i.pl) := g1.cell (by go_simp) (by simp)
  have c1_5 : w1.cell? ⟨w.heap.size, 5, none⟩ = some (.float .f32 i.sp) := g1.cell (by go_simp) (by simp)
  have c1_6 : w1.cell? ⟨w.heap.size, 6, none⟩ = some (.int .i64 m.g) := g1.cell (by go_simp) (by simp)
  have c1_7 : w1.cell? ⟨w.heap.size, 7, none⟩ = some (.int .i64 m.m) := g1.cell (by go_simp) (by simp)
  have c1_8 : w1.cell? ⟨w.heap.size, 8, none⟩ = some (.int .i64 m.s) := g1.cell (by go_simp) (by simp)
  have c1_9 : w1.cell? ⟨w.heap.size, 9, none⟩ = some (.int .i64 m.a) := g1.cell (by go_simp) (by simp)
  have c1_10 : w1.cell? ⟨w.heap.size, 10, none⟩ = some (.int .i64 m.n) := g1.cell (by go_simp) (by simp)
  have c1_11 : w1.cell? ⟨w.heap.size, 11, none⟩ = some (.slice ai ni ci) := g1.cell (by go_simp) (by simp)
  have c1_12 : w1.cell? ⟨w.heap.size, 12, none⟩ = some (.slice ao no co) := g1.cell (by go_simp) (by simp)
  have hc := Hid.mk' (beN2 s h0 h1)
  go_wp2_with fail
  go_region_held3 (fun w' => w'.cell? ⟨w.heap.size, 1, none⟩ = some (.int .i64 s) ∧ w'.cell? ⟨w.heap.size, 2, none⟩ = some (.int .i64 i.sh) ∧ w'.cell? ⟨w.heap.size, 3, none⟩ = some (.int .i64 i.nu) ∧ w'.cell? ⟨w.heap.size, 4, none⟩ = some (.float .f32 i.pl) ∧ w'.cell? ⟨w.heap.size, 5, none⟩ = some (.float .f32 i.sp)) (go_keep)
    (first | (go_at_call 27; refine (num2_5 s _ h0 (by omega) _ _ _ _ _ _ _ _ _ _ (by assumption)).mono ?_; rintro e wa ⟨rfl, ga, ka⟩) | (go_at_call 46; refine (item_5 i _ hk fp fs _ _ _ _ _ _ _ _ _ _ (by assumption)).mono ?_; rintro e wb ⟨rfl, gb, kb⟩))
  go_wp2
  go_ret
  refine ⟨?_, ((grownBy_drew G1.out).trans ga).trans gb⟩
  rw [← hc.out]
  simp

set_option maxHeartbeats 2000000 in
theorem refBody_5 (s : Int) (i : It) (m : Mk) (ai ao : Option Addr) (ni ci no co : Nat) (w : World) (h0 : 0 ≤ s) (h1 : s ≤ 65535) :
    Calls Try.prog 26 #[rv 5 s i m (.slice ai ni ci) (.slice ao no co)] w fun e w' => e = .returned (.string (S ([u8 5] ++ n2 s))) ∧ w.grownBy w' none := by
  unfold rv
  have hap := S_app
  have hsz := S_size
  have hln := beN_len
  have h2l := n2_len
  have hil := eIt_len
  go_enter Try.func26, Try.ntmps26
  go_wp2_with fail
  refine (refNum1 5 _ (by omega) (by omega)).mono ?_
  rintro e w1 ⟨rfl, g1⟩
  have G1 := Hid.mk' ((World.grownBy_alloc w _ none).trans g1)
  have c1_0 : w1.cell? ⟨w.heap.size, 0, none⟩ = some (.int .i64 5) := g1.cell (by go_simp) (by simp)
  have c1_1 : w1.cell? ⟨w.heap.size, 1, none⟩ = some (.int .i64 s) := g1.cell (by go_simp) (by simp)
  have c1_2 : w1.cell? ⟨w.heap.size, 2, none⟩ = some (.int .i64 i.sh) := g1.cell (by go_simp) (by simp)
  have c1_3 : w1.cell? ⟨w.heap.size, 3, none⟩ = some (.int .i64 i.nu) := g1.cell (by go_simp) (by simp)
  have c1_4 : w1.cell? ⟨w.heap.size, 4, none⟩ = some (.float .f32 i.pl) := g1.cell (by go_simp) (by simp)
  have c1_5 : w1.cell? ⟨w.heap.size, 5, none⟩ = some (.float .f32 i.sp) := g1.cell (by go_simp) (by simp)
  have c1_6 : w1.cell? ⟨w.heap.size, 6, none⟩ = some (.int .i64 m.g) := g1.cell (by go_simp) (by simp)
  have c1_7 : w1.cell? ⟨w.heap.size, 7, none⟩ = some (.int .i64 m.m) := g1.cell (by go_simp) (by simp)
  have c1_8 : w1.cell? ⟨w.heap.size, 8, none⟩ = some (.int .i64 m.s) := g1.cell (by go_simp) (by simp)
  have c1_9 : w1.cell? ⟨w.heap.size, 9, none⟩ = some (.int .i64 m.a) := g1.cell (by go_simp) (by simp)
  have c1_10 : w1.cell? ⟨w.heap.size, 10, none⟩ = some (.int .i64 m.n) := g1.cell (by go_simp) (by simp)
  have c1_11 : w1.cell? ⟨w.heap.size, 11, none⟩ = some (.slice ai ni ci) := g1.cell (by go_simp) (by simp)
  have c1_12 : w1.cell? ⟨w.heap.size, 12, none⟩ = some (.slice ao no co) := g1.cell (by go_simp) (by simp)
  go_wp2_with fail
  refine (refNum2 s _ h0 h1).mono ?_
  rintro e w2 ⟨rfl, g2⟩
  go_wp2
  go_ret
  exact ⟨rfl, G1.out.trans g2⟩

set_option maxHeartbeats 2000000 in
theorem refBody_8 (s : Int) (i : It) (m : Mk) (ai ao : Option Addr) (ni ci no co : Nat) (w : World) (h0 : 0 ≤ s) (h1 : s ≤ 65535) :
    Calls Try.prog 26 #[rv 8 s i m (.slice ai ni ci) (.slice ao no co)] w fun e w' => e = .returned (.string (S ([u8 8] ++ n2 s))) ∧ w.grownBy w' none := by
  unfold rv
  have hap := S_app
  have hsz := S_size
  have hln := beN_len
  have h2l := n2_len
  have hil := eIt_len
  go_enter Try.func26, Try.ntmps26
  go_wp2_with fail
  refine (refNum1 8 _ (by omega) (by omega)).mono ?_
  rintro e w1 ⟨rfl, g1⟩
  have G1 := Hid.mk' ((World.grownBy_alloc w _ none).trans g1)
  have c1_0 : w1.cell? ⟨w.heap.size, 0, none⟩ = some (.int .i64 8) := g1.cell (by go_simp) (by simp)
  have c1_1 : w1.cell? ⟨w.heap.size, 1, none⟩ = some (.int .i64 s) := g1.cell (by go_simp) (by simp)
  have c1_2 : w1.cell? ⟨w.heap.size, 2, none⟩ = some (.int .i64 i.sh) := g1.cell (by go_simp) (by simp)
  have c1_3 : w1.cell? ⟨w.heap.size, 3, none⟩ = some (.int .i64 i.nu) := g1.cell (by go_simp) (by simp)
  have c1_4 : w1.cell? ⟨w.heap.size, 4, none⟩ = some (.float .f32 i.pl) := g1.cell (by go_simp) (by simp)
  have c1_5 : w1.cell? ⟨w.heap.size, 5, none⟩ = some (.float .f32 i.sp) := g1.cell (by go_simp) (by simp)
  have c1_6 : w1.cell? ⟨w.heap.size, 6, none⟩ = some (.int .i64 m.g) := g1.cell (by go_simp) (by simp)
  have c1_7 : w1.cell? ⟨w.heap.size, 7, none⟩ = some (.int .i64 m.m) := g1.cell (by go_simp) (by simp)
  have c1_8 : w1.cell? ⟨w.heap.size, 8, none⟩ = some (.int .i64 m.s) := g1.cell (by go_simp) (by simp)
  have c1_9 : w1.cell? ⟨w.heap.size, 9, none⟩ = some (.int .i64 m.a) := g1.cell (by go_simp) (by simp)
  have c1_10 : w1.cell? ⟨w.heap.size, 10, none⟩ = some (.int .i64 m.n) := g1.cell (by go_simp) (by simp)
  have c1_11 : w1.cell? ⟨w.heap.size, 11, none⟩ = some (.slice ai ni ci) := g1.cell (by go_simp) (by simp)
  have c1_12 : w1.cell? ⟨w.heap.size, 12, none⟩ = some (.slice ao no co) := g1.cell (by go_simp) (by simp)
  go_wp2_with fail
  refine (refNum2 s _ h0 h1).mono ?_
  rintro e w2 ⟨rfl, g2⟩
  go_wp2
  go_ret
  exact ⟨rfl, G1.out.trans g2⟩

end Go.Proofs.Ytammnaafdhhjaaa

/- Ytammnaafdhhjaaa: the bytes of a Base, by the document. -/
namespace Go.Proofs.Ytammnaafdhhjaaa
open Go.RowKit

theorem num1_6 (n : Int) (w : World) (h0 : 0 ≤ n) (h1 : n ≤ 4294967295) (p0 p1 p2 p3 p4 p5 : Addr) (v0 v1 v2 v3 v4 v5 : Value) (h : w.cell? p0 = some v0 ∧ w.cell? p1 = some v1 ∧ w.cell? p2 = some v2 ∧ w.cell? p3 = some v3 ∧ w.cell? p4 = some v4 ∧ w.cell? p5 = some v5) :
    Calls Try.prog 27 #[.int .i64 n, .int .i64 1] w fun e w' => e = .returned (.string (S (beN 1 n))) ∧ w.grownBy w' none ∧ w'.cell? p0 = some v0 ∧ w'.cell? p1 = some v1 ∧ w'.cell? p2 = some v2 ∧ w'.cell? p3 = some v3 ∧ w'.cell? p4 = some v4 ∧ w'.cell? p5 = some v5 := by
  refine (refNumber_any n 1 w h0 h1 (by omega)).mono ?_
  rintro e w' ⟨he, g⟩
  exact ⟨he, g, g.cell h.1 (by simp), g.cell h.2.1 (by simp), g.cell h.2.2.1 (by simp), g.cell h.2.2.2.1 (by simp), g.cell h.2.2.2.2.1 (by simp), g.cell h.2.2.2.2.2 (by simp)⟩
theorem flatI_len (is : List It) : (is.flatMap eIt).length = 11 * is.length := by
  induction is with
  | nil => rfl
  | cons a t ih => rw [List.flatMap_cons, List.length_append, ih, eIt_len, List.length_cons]; omega
theorem eEn_len' (e : En) : (eEn e).length = 13 := rfl
theorem flatE_len (es : List En) : (es.flatMap eEn).length = 13 * es.length := by
  induction es with
  | nil => rfl
  | cons a t ih => rw [List.flatMap_cons, List.length_append, ih, eEn_len', List.length_cons]; omega
theorem takeI (is : List It) (k : Nat) (h : k < is.length) : (is.take (k + 1)).flatMap eIt = (is.take k).flatMap eIt ++ eIt is[k] := by
  rw [List.take_succ_eq_append_getElem h, List.flatMap_append, List.flatMap_singleton]
theorem takeE (es : List En) (k : Nat) (h : k < es.length) : (es.take (k + 1)).flatMap eEn = (es.take k).flatMap eEn ++ eEn es[k] := by
  rw [List.take_succ_eq_append_getElem h, List.flatMap_append, List.flatMap_singleton]
structure ItF (i : It) : Prop where
  k : ItOk i
  p : fin32 i.pl = true
  s : fin32 i.sp = true
theorem base_head (m : Mk) (n : Nat) (h : MkOk m) (hn : n ≤ 16) : u8 6 :: (beN 2 m.g ++ (beN 2 m.m ++ (beN 2 m.s ++ (beN 2 m.a ++ (beN 2 m.n ++ beN 1 (n : Int)))))) = [u8 6] ++ eMk m ++ [u8 (n : Int)] := by
  rw [beN2 _ h.g0 h.g1, beN2 _ h.m0 h.m1, beN2 _ h.s0 h.s1, beN2 _ h.a0 h.a1, beN2 _ h.n0 h.n1, beN1 _ (by omega) (by omega)]
  simp [eMk]

set_option maxHeartbeats 4000000 in
set_option maxRecDepth 100000 in
theorem refBody_6 (s : Int) (i : It) (m : Mk) (is : List It) (es : List En) (vi vo : Value) (w : World) (hi : LiesI w vi is) (ho : LiesE w vo es) (hn : is.length ≤ 16) (hno : es.length ≤ 8) (hm : MkOk m) (hI : ∀ i ∈ is, ItF i) (hE : ∀ e ∈ es, 0 ≤ e.sq ∧ e.sq ≤ 65535 ∧ ItF e.it) :
    Calls Try.prog 26 #[rv 6 s i m vi vo] w fun e w' => e = .returned (.string (S ([u8 6] ++ eMk m ++ eIts is ++ eEns es))) ∧ w.grownBy w' none := by
  obtain ⟨ai, ci, rfl, hxi⟩ := hi
  obtain ⟨ao, co, rfl, hxo⟩ := ho
  have HI := Hid.mk' hxi
  have HO := Hid.mk' hxo
  have XI := Hid.mk' hI
  have XE := Hid.mk' hE
  clear hxi hxo hI hE
  obtain ⟨n, hL⟩ : ∃ n, is.length = n := ⟨_, rfl⟩
  obtain ⟨no, hLo⟩ : ∃ n, es.length = n := ⟨_, rfl⟩
  have HR : Hid ([u8 6] ++ eMk m ++ eIts is ++ eEns es = [u8 6] ++ eMk m ++ [u8 n] ++ is.flatMap eIt ++ [u8 no] ++ es.flatMap eEn) := by
    show _ = _
    simp [eIts, eEns, hL, hLo]
  obtain ⟨R, hR⟩ : ∃ R, [u8 6] ++ eMk m ++ eIts is ++ eEns es = R := ⟨_, rfl⟩
  rw [hR] at HR ⊢
  clear hR
  rw [hL] at hn ⊢
  rw [hLo] at hno ⊢
  have HL : Hid (is.length = n) := hL
  have HLo : Hid (es.length = no) := hLo
  clear hL hLo
  unfold rv
  have hap := S_app
  have hsz := S_size
  have hln := beN_len
  have q0 := hm.g0
  have q1 := hm.g1
  have q2 := hm.m0
  have q3 := hm.m1
  have q4 := hm.s0
  have q5 := hm.s1
  have q6 := hm.a0
  have q7 := hm.a1
  have q8 := hm.n0
  have q9 := hm.n1
  have HB := Hid.mk' (base_head m n hm hn)
  go_enter Try.func26, Try.ntmps26
  go_wp2_with fail
  refine (refNum1 6 _ (by omega) (by omega)).mono ?_
  rintro e w1 ⟨rfl, g1⟩
  have G1 := Hid.mk' ((World.grownBy_alloc w _ none).trans g1)
  have z1 := g1.size
  simp at z1
  have c6 : w1.cell? ⟨w.heap.size, 6, none⟩ = some (.int .i64 m.g) := g1.cell (by go_simp) (by simp)
  have c7 : w1.cell? ⟨w.heap.size, 7, none⟩ = some (.int .i64 m.m) := g1.cell (by go_simp) (by simp)
  have c8 : w1.cell? ⟨w.heap.size, 8, none⟩ = some (.int .i64 m.s) := g1.cell (by go_simp) (by simp)
  have c9 : w1.cell? ⟨w.heap.size, 9, none⟩ = some (.int .i64 m.a) := g1.cell (by go_simp) (by simp)
  have c10 : w1.cell? ⟨w.heap.size, 10, none⟩ = some (.int .i64 m.n) := g1.cell (by go_simp) (by simp)
  have c0 : w1.cell? ⟨w.heap.size, 0, none⟩ = some (.int .i64 6) := g1.cell (by go_simp) (by simp)
  have c11 : w1.cell? ⟨w.heap.size, 11, none⟩ = some (.slice ai n ci) := g1.cell (by go_simp) (by simp)
  have c12 : w1.cell? ⟨w.heap.size, 12, none⟩ = some (.slice ao no co) := g1.cell (by go_simp) (by simp)
  have x1 : w.heap.size ≠ w1.heap.size := by omega
  have x2 : w.heap.size < w1.heap.size := by omega
  clear g1
  go_wp2_with fail
  go_region_held3 (fun w' => w'.cell? ⟨w1.heap.size, 0, none⟩ = some (.int .i64 m.g) ∧ w'.cell? ⟨w1.heap.size, 1, none⟩ = some (.int .i64 m.m) ∧ w'.cell? ⟨w1.heap.size, 2, none⟩ = some (.int .i64 m.s) ∧ w'.cell? ⟨w1.heap.size, 3, none⟩ = some (.int .i64 m.a) ∧ w'.cell? ⟨w1.heap.size, 4, none⟩ = some (.int .i64 m.n) ∧ w'.cell? ⟨w.heap.size, 11, none⟩ = some (.slice ai n ci)) (go_keep)
    (first | (go_at_call_of 27 (Value.int IntKind.i64 m.g); refine (num2_6 m.g _ q0 (by omega) _ _ _ _ _ _ _ _ _ _ _ _ (by assumption)).mono ?_; rintro e wa ⟨rfl, ga, ka⟩) | (go_at_call_of 27 (Value.int IntKind.i64 m.m); refine (num2_6 m.m _ q2 (by omega) _ _ _ _ _ _ _ _ _ _ _ _ (by assumption)).mono ?_; rintro e wb ⟨rfl, gb, kb⟩) | (go_at_call_of 27 (Value.int IntKind.i64 m.s); refine (num2_6 m.s _ q4 (by omega) _ _ _ _ _ _ _ _ _ _ _ _ (by assumption)).mono ?_; rintro e wc ⟨rfl, gc, kc⟩) | (go_at_call_of 27 (Value.int IntKind.i64 m.a); refine (num2_6 m.a _ q6 (by omega) _ _ _ _ _ _ _ _ _ _ _ _ (by assumption)).mono ?_; rintro e wd ⟨rfl, gd, kd⟩) | (go_at_call_of 27 (Value.int IntKind.i64 m.n); refine (num2_6 m.n _ q8 (by omega) _ _ _ _ _ _ _ _ _ _ _ _ (by assumption)).mono ?_; rintro e we ⟨rfl, ge, ke⟩) | (go_at_call_of 27 (Value.int IntKind.i64 (n : Int)); refine (num1_6 (n : Int) _ (by omega) (by omega) _ _ _ _ _ _ _ _ _ _ _ _ (by assumption)).mono ?_; rintro e wf ⟨rfl, gf, kf⟩))
  have GF := Hid.mk' ((((((grownBy_drew (World.grownBy_alloc w1 (.cells #[.int .i64 m.g, .int .i64 m.m, .int .i64 m.s, .int .i64 m.a, .int .i64 m.n] 28) none)).trans ga).trans gb).trans gc).trans gd).trans ge |>.trans gf)
  have hA0 : (u8 6 :: (beN 2 m.g ++ (beN 2 m.m ++ (beN 2 m.s ++ (beN 2 m.a ++ (beN 2 m.n ++ beN 1 (n : Int))))))).length = 12 := by simp [beN_len]
  have HA : Hid ((u8 6 :: (beN 2 m.g ++ (beN 2 m.m ++ (beN 2 m.s ++ (beN 2 m.a ++ (beN 2 m.n ++ beN 1 (n : Int)))))) ++ is.flatMap eIt) ++ [u8 no] ++ es.flatMap eEn = R) := by
    show _ = _
    rw [HR.out, HB.out]
  generalize (u8 6 :: (beN 2 m.g ++ (beN 2 m.m ++ (beN 2 m.s ++ (beN 2 m.a ++ (beN 2 m.n ++ beN 1 (n : Int))))))) = A0 at *
  have k11 : ∀ w', wf.grownBy w' none → w'.cell? ⟨w.heap.size, 11, none⟩ = some (.slice ai n ci) ∧ w'.cell? ⟨w.heap.size, 12, none⟩ = some (.slice ao no co) := fun w' g => ⟨(GF.out.trans g).cell c11 (by simp), (GF.out.trans g).cell c12 (by simp)⟩
  have W0 := Hid.mk' (G1.out.trans GF.out)
  clear ka kb kc kd ke kf ga gb gc gd ge gf c0 c6 c7 c8 c9 c10 c11 c12 GF G1 x1 x2 z1 HB HR hm q0 q1 q2 q3 q4 q5 q6 q7 q8 q9 hln
  go_wp2_with fail
  go_loopw [3, 5] (fun t v wr => ∃ k : Nat, k ≤ n ∧ v = .int .i64 k ∧ wf.grownBy wr none ∧ t = .string (S (A0 ++ (is.take k).flatMap eIt))) (fun _ v _ => n - (intOf v).toNat)
  case atStart => exact ⟨0, by omega, rfl, grownBy_refl _ _, by simp⟩
  case round =>
    obtain ⟨k, hk, rfl, gk, rfl⟩ := hrel
    obtain ⟨r11, r12⟩ := k11 _ gk
    have GK := Hid.mk' gk
    clear gk
    have hfl : ((is.take k).flatMap eIt).length = 11 * k := by rw [flatI_len, List.length_take, HL.out, Nat.min_eq_left hk]
    by_cases hlt : k < n
    · have hkl : k < is.length := by rw [HL.out]; exact hlt
      obtain ⟨x, hx⟩ : ∃ x, is[k] = x := ⟨_, rfl⟩
      have HT := Hid.mk' (takeI is k hkl)
      rw [hx] at HT
      have hxF := XI.out x (by rw [← hx]; exact List.getElem_mem _)
      obtain ⟨g, off, rfl, hc⟩ := HI.out (by omega)
      have dd : ∀ j (hj : j < 4) u, x.cells[j]? = some u → wr.cell? ⟨g, off + k * 4 + j, none⟩ = some u := fun j hj u hu => by
        have := hc (4 * k + j) u (by rw [flat_at4 is k j hkl hj, hx]; exact hu)
        rw [show off + (4 * k + j) = off + k * 4 + j by omega] at this
        exact (W0.out.trans GK.out).cell this (by simp)
      clear hc
      have d0 := dd 0 (by omega) _ rfl
      have d1 := dd 1 (by omega) _ rfl
      have d2 := dd 2 (by omega) _ rfl
      have d3 := dd 3 (by omega) _ rfl
      rw [Nat.add_zero] at d0
      clear dd
      have hil := eIt_len x
      generalize (is.take k).flatMap eIt = F at *
      go_wp2_with fail
      refine (refItem_any x _ hxF.k hxF.p hxF.s).mono ?_
      rintro e w2 ⟨rfl, g2⟩
      go_wp2_with fail
      refine ⟨⟨k + 1, by omega, by go_num, GK.out.trans g2, ?_⟩, by simp [intOf]; omega⟩
      rw [HT.out]
    · have HT : Hid ((is.take k).flatMap eIt = is.flatMap eIt) := by show _ = _; rw [List.take_of_length_le (by rw [HL.out]; omega)]
      rw [HT.out] at hfl ⊢
      have hFl : (is.flatMap eIt).length = 11 * n := by omega
      generalize is.flatMap eIt = F at *
      clear hfl HT XI HI
      go_wp2_with fail
      refine (refNum1 (no : Int) _ (by omega) (by omega)).mono ?_
      rintro e w2 ⟨rfl, g2⟩
      obtain ⟨s11, s12⟩ := k11 _ (GK.out.trans g2)
      have G2 := Hid.mk' (GK.out.trans g2)
      clear r11 r12 g2 GK
      go_wp2_with fail
      have hA1 : (A0 ++ (F ++ [u8 (no : Int)])).length = 13 + 11 * n := by simp; omega
      have HA3 : Hid (A0 ++ (F ++ [u8 (no : Int)]) ++ es.flatMap eEn = R) := by show _ = _; rw [← HA.out]; simp
      clear HA hA0 hFl
      generalize A0 ++ (F ++ [u8 (no : Int)]) = A1 at *
      go_loopw [3, 6] (fun t v wr => ∃ k : Nat, k ≤ no ∧ v = .int .i64 k ∧ wf.grownBy wr none ∧ t = .string (S (A1 ++ (es.take k).flatMap eEn))) (fun _ v _ => no - (intOf v).toNat)
      case atStart => exact ⟨0, by omega, rfl, G2.out, by simp⟩
      case round =>
        obtain ⟨k, hk, rfl, gk, rfl⟩ := hrel
        clear s11 s12
        obtain ⟨r11, r12⟩ := k11 _ gk
        have GK := Hid.mk' gk
        clear gk
        have hfl : ((es.take k).flatMap eEn).length = 13 * k := by rw [flatE_len, List.length_take, HLo.out, Nat.min_eq_left hk]
        by_cases hlt : k < no
        · have hkl : k < es.length := by rw [HLo.out]; exact hlt
          obtain ⟨x, hx⟩ : ∃ x, es[k] = x := ⟨_, rfl⟩
          have HT := Hid.mk' (takeE es k hkl)
          rw [hx] at HT
          have hxF := XE.out x (by rw [← hx]; exact List.getElem_mem _)
          obtain ⟨g, off, rfl, hc⟩ := HO.out (by omega)
          have dd : ∀ j (hj : j < 5) u, x.cells[j]? = some u → wr.cell? ⟨g, off + k * 5 + j, none⟩ = some u := fun j hj u hu => by
            have := hc (5 * k + j) u (by rw [flat_at5 es k j hkl hj, hx]; exact hu)
            rw [show off + (5 * k + j) = off + k * 5 + j by omega] at this
            exact (W0.out.trans GK.out).cell this (by simp)
          clear hc
          have d0 := dd 0 (by omega) _ rfl
          have d1 := dd 1 (by omega) _ rfl
          have d2 := dd 2 (by omega) _ rfl
          have d3 := dd 3 (by omega) _ rfl
          have d4 := dd 4 (by omega) _ rfl
          rw [Nat.add_zero] at d0
          clear dd
          obtain ⟨sq, it⟩ := x
          have hil := eIt_len it
          obtain ⟨hs0, hs1, hF⟩ := hxF
          have hb2 := Hid.mk' (beN2 sq hs0 hs1)
          have hln := beN_len 2 sq
          generalize (es.take k).flatMap eEn = F at *
          have hadd1 := fun w => run_string_add_sum (P := Try.prog) w (S (A1 ++ F)) (S (beN 2 sq)) (by rw [S_size, S_size, List.length_append]; omega)
          have hadd2 := fun w => run_string_add_sum (P := Try.prog) w (S (A1 ++ (F ++ beN 2 sq))) (S (eIt it)) (by rw [S_size, S_size, List.length_append, List.length_append]; omega)
          have y0 : (0 : Int) ≤ (k : Int) := by omega
          have y1 : (k : Int) < (no : Int) := by omega
          go_wp2_with fail
          go_region_held3 (fun w' => w'.cell? ⟨w.heap.size, 12, none⟩ = some (.slice (some ⟨g, off, none⟩) no co) ∧ w'.cell? ⟨g, off + k * 5, none⟩ = some (.int .i64 sq) ∧ w'.cell? ⟨g, off + k * 5 + 1, none⟩ = some (.int .i64 it.sh) ∧ w'.cell? ⟨g, off + k * 5 + 2, none⟩ = some (.int .i64 it.nu) ∧ w'.cell? ⟨g, off + k * 5 + 3, none⟩ = some (.float .f32 it.pl) ∧ w'.cell? ⟨g, off + k * 5 + 4, none⟩ = some (.float .f32 it.sp)) (go_keep)
            (first | (go_at_call 27; refine (num2_6 sq _ hs0 (by omega) _ _ _ _ _ _ _ _ _ _ _ _ (by assumption)).mono ?_; rintro e wa ⟨rfl, ga, ka⟩) | (go_at_call 46; refine (item_6 it _ hF.k hF.p hF.s _ _ _ _ _ _ _ _ _ _ _ _ (by assumption)).mono ?_; rintro e wb ⟨rfl, gb, kb⟩))
          all_goals
            go_wp2_with fail
            refine ⟨⟨k + 1, by omega, by go_num, by first | exact ((grownBy_drew GK.out).trans ga).trans gb | exact ((grownBy_drew GK.out).trans gb).trans ga, ?_⟩, by simp [intOf]; omega⟩
            rw [HT.out, eEn, ← hb2.out]
        · have HT : Hid ((es.take k).flatMap eEn = es.flatMap eEn) := by show _ = _; rw [List.take_of_length_le (by rw [HLo.out]; omega)]
          rw [HT.out] at hfl ⊢
          rw [HA3.out]
          go_wp2
          go_ret
          exact ⟨rfl, W0.out.trans GK.out⟩

theorem chkF {p : Option It} {is : List It} (h : chk p is = true) (wf : ∀ i ∈ is, WfIt i) : ∀ i ∈ is, ItF i := fun i hi => by
  have hb := chk_ok h i hi
  refine ⟨itB_ok hb (wf i hi), ?_, ?_⟩
  · simp only [itB, Bool.and_eq_true] at hb; exact near_fin hb.1.2
  · simp only [itB, Bool.and_eq_true] at hb; exact near_fin hb.2
theorem itF_of {i : It} (hb : itB i = true) (wf : WfIt i) : ItF i := by
  refine ⟨itB_ok hb wf, ?_, ?_⟩
  · simp only [itB, Bool.and_eq_true] at hb; exact near_fin hb.1.2
  · simp only [itB, Bool.and_eq_true] at hb; exact near_fin hb.2

/-- THE BYTES OF A RECORD THAT MAY BE. -/
theorem refBody_any (r : Rc) (vi vo : Value) (w : World) (hi : LiesI w vi r.items) (ho : LiesE w vo r.outs) (hm : mayB r = true) (wf : WfR r) :
    Calls Try.prog 26 #[rv r.kind r.seq r.it r.mks vi vo] w fun e w' => e = .returned (.string (S (body r))) ∧ w.grownBy w' none := by
  obtain ⟨K, s, i, m, is, es⟩ := r
  have hk := may_kind hm
  simp only at hk hi ho ⊢
  by_cases h6 : K = 6
  · subst h6
    have hm' := hm
    simp [mayB, baseB, itemsB, outsB] at hm
    obtain ⟨_, ⟨hmk, hn, hci⟩, hno, hce⟩ := hm
    have hE : ∀ e ∈ es, 0 ≤ e.sq ∧ e.sq ≤ 65535 ∧ ItF e.it := fun e he => by
      have h1 := chkE_ok hce e he
      have h2 := isN_iff h1.1
      exact ⟨h2.1, h2.2, itF_of h1.2 (wf.outs e he)⟩
    refine (refBody_6 s i m is es vi vo w hi ho hn hno (mkB_ok hmk) (chkF hci wf.items) hE).mono ?_
    rintro e w' ⟨rfl, g⟩
    exact ⟨rfl, g⟩
  · obtain ⟨ai, ci, rfl, _⟩ := hi
    obtain ⟨ao, co, rfl, _⟩ := ho
    rcases hk with rfl | rfl | rfl | rfl | rfl | rfl | rfl | rfl
    · simp [mayB] at hm
      have hF := itF_of hm.1.2 wf.it
      exact refBody_1 s i m ai ao _ ci _ co w hF.k hF.p hF.s
    · simp [mayB] at hm
      have hh := idB_ok hm.1.1.2
      exact refBody_2 s i m ai ao _ ci _ co w hh.1 (by omega) (by omega) hh.2.2.2
    · exact refBody_3 s i m ai ao _ ci _ co w
    · simp [mayB] at hm
      have hF := itF_of hm.1.2 wf.it
      have hs := isN_iff hm.1.1.2
      exact refBody_4 s i m ai ao _ ci _ co w hs.1 hs.2 hF.k hF.p hF.s
    · simp [mayB] at hm
      have hs := isN_iff hm.1.1
      exact refBody_5 s i m ai ao _ ci _ co w hs.1 hs.2
    · exact absurd rfl h6
    · simp [mayB] at hm
      have hF := itF_of hm.1.2 wf.it
      have hs := isN_iff hm.1.1.2
      exact refBody_7 s i m ai ao _ ci _ co w hs.1 hs.2 hF.k hF.p hF.s
    · simp [mayB] at hm
      have hs := isN_iff hm.1.1
      exact refBody_8 s i m ai ao _ ci _ co w hs.1 hs.2
end Go.Proofs.Ytammnaafdhhjaaa
