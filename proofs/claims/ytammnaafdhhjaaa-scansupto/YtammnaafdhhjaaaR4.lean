/- Ytammnaafdhhjaaa: the document's order of IDs; a thing as bytes. -/
import Derived.Test.YtammnaafdhhjaaaR3
namespace Go.Proofs.Ytammnaafdhhjaaa
open Go.RowKit

theorem cmp_ahead (a b c d : Int) (_h1 : 0 ≤ a) (_h2 : a ≤ 1) (h3 : 1 ≤ b) (h4 : b ≤ 65535) (_k1 : 0 ≤ c) (_k2 : c ≤ 1) (k3 : 1 ≤ d) (k4 : d ≤ 65535) : decide (a * 65536 + b < c * 65536 + d) = decide (cmpID a b c d < 0) := by
  rcases Int.lt_trichotomy a c with h | h | h
  · have e : cmpID a b c d = -1 := by simp [cmpID, orI, cmpI, h]
    rw [e, decide_eq_true (by omega), decide_eq_true (by omega)]
  · subst h
    have e : cmpID a b a d = cmpI b d := by simp [cmpID, orI, cmpI]
    rw [e]
    unfold cmpI
    rw [Bool.eq_iff_iff]
    simp only [decide_eq_true_eq]
    split
    · omega
    · split <;> omega
  · have e : cmpID a b c d = 1 := by
      have h' : ¬ a < c := by omega
      simp [cmpID, orI, cmpI, h, h']
    rw [e, decide_eq_false (by omega), decide_eq_false (by omega)]
set_option maxHeartbeats 400000 in
theorem ahead_any (a b c d : Int) (w : World) (h1 : 0 ≤ a) (h2 : a ≤ 1) (h3 : 1 ≤ b) (h4 : b ≤ 65535) (k1 : 0 ≤ c) (k2 : c ≤ 1) (k3 : 1 ≤ d) (k4 : d ≤ 65535) :
    Calls Try.prog 69 #[.agg #[.int .i64 a, .int .i64 b], .agg #[.int .i64 c, .int .i64 d]] w fun e w' => e = .returned (.bool (decide (cmpID a b c d < 0))) ∧ w.grownBy w' none := by
  have hs := Hid.mk' (cmp_ahead a b c d h1 h2 h3 h4 k1 k2 k3 k4)
  go_enter Try.func69, Try.ntmps69
  go_wp2
  go_ret
  exact ⟨ret_bool hs.out, grownBy_alloc' (World.grownBy_alloc _ _ _) _⟩

theorem refNumber_held (n : Int) (bs : Nat) (w : World) (h0 : 0 ≤ n) (h1 : n ≤ 4294967295) (hb : bs ≤ 4) (p0 p1 p2 p3 : Addr) (v0 v1 v2 v3 : Value) (h : w.cell? p0 = some v0 ∧ w.cell? p1 = some v1 ∧ w.cell? p2 = some v2 ∧ w.cell? p3 = some v3) :
    Calls Try.prog 27 #[.int .i64 n, .int .i64 (bs : Int)] w fun e w' => e = .returned (.string (S (beN bs n))) ∧ w.grownBy w' none ∧ w'.cell? p0 = some v0 ∧ w'.cell? p1 = some v1 ∧ w'.cell? p2 = some v2 ∧ w'.cell? p3 = some v3 := by
  refine (refNumber_any n bs w h0 h1 hb).mono ?_
  rintro e w' ⟨he, g⟩
  exact ⟨he, g, g.cell h.1 (by simp), g.cell h.2.1 (by simp), g.cell h.2.2.1 (by simp), g.cell h.2.2.2 (by simp)⟩

theorem num1 (n : Int) (w : World) (h0 : 0 ≤ n) (h1 : n ≤ 4294967295) (p0 p1 p2 p3 : Addr) (v0 v1 v2 v3 : Value) (h : w.cell? p0 = some v0 ∧ w.cell? p1 = some v1 ∧ w.cell? p2 = some v2 ∧ w.cell? p3 = some v3) :
    Calls Try.prog 27 #[.int .i64 n, .int .i64 1] w fun e w' => e = .returned (.string (S (beN 1 n))) ∧ w.grownBy w' none ∧ w'.cell? p0 = some v0 ∧ w'.cell? p1 = some v1 ∧ w'.cell? p2 = some v2 ∧ w'.cell? p3 = some v3 := refNumber_held n 1 w h0 h1 (by omega) p0 p1 p2 p3 v0 v1 v2 v3 h
theorem num2 (n : Int) (w : World) (h0 : 0 ≤ n) (h1 : n ≤ 4294967295) (p0 p1 p2 p3 : Addr) (v0 v1 v2 v3 : Value) (h : w.cell? p0 = some v0 ∧ w.cell? p1 = some v1 ∧ w.cell? p2 = some v2 ∧ w.cell? p3 = some v3) :
    Calls Try.prog 27 #[.int .i64 n, .int .i64 2] w fun e w' => e = .returned (.string (S (beN 2 n))) ∧ w.grownBy w' none ∧ w'.cell? p0 = some v0 ∧ w'.cell? p1 = some v1 ∧ w'.cell? p2 = some v2 ∧ w'.cell? p3 = some v3 := refNumber_held n 2 w h0 h1 (by omega) p0 p1 p2 p3 v0 v1 v2 v3 h
theorem num4 (n : Int) (w : World) (h0 : 0 ≤ n) (h1 : n ≤ 4294967295) (p0 p1 p2 p3 : Addr) (v0 v1 v2 v3 : Value) (h : w.cell? p0 = some v0 ∧ w.cell? p1 = some v1 ∧ w.cell? p2 = some v2 ∧ w.cell? p3 = some v3) :
    Calls Try.prog 27 #[.int .i64 n, .int .i64 4] w fun e w' => e = .returned (.string (S (beN 4 n))) ∧ w.grownBy w' none ∧ w'.cell? p0 = some v0 ∧ w'.cell? p1 = some v1 ∧ w'.cell? p2 = some v2 ∧ w'.cell? p3 = some v3 := refNumber_held n 4 w h0 h1 (by omega) p0 p1 p2 p3 v0 v1 v2 v3 h
theorem item_bytes (i : It) (h : ItOk i) : beN 1 i.sh ++ (beN 2 i.nu ++ (beN 4 i.pl ++ beN 4 i.sp)) = eIt i := by
  rw [beN1 _ h.a h.b, beN2 _ h.c h.d, beN4 _ h.p, beN4 _ h.s]
  simp [eIt]

set_option maxHeartbeats 2000000 in
theorem refItem_any (i : It) (w : World) (hk : ItOk i) (fp : fin32 i.pl = true) (fs : fin32 i.sp = true) :
    Calls Try.prog 46 #[.agg #[.int .i64 i.sh, .int .i64 i.nu, .float .f32 i.pl, .float .f32 i.sp]] w fun e w' => e = .returned (.string (S (eIt i))) ∧ w.grownBy w' none := by
  have hb := Hid.mk' (item_bytes i hk)
  have q0 := hk.a
  have q1 := hk.b
  have q2 := hk.c
  have q3 := hk.d
  have q4 := hk.p
  have q5 := hk.s
  have hap := S_app
  have hsz := S_size
  have hln := beN_len
  go_enter Try.func46, Try.ntmps46
  go_wp2_with fail
  go_region_held3 (fun w' => w'.cell? ⟨w.heap.size, 0, none⟩ = some (.int .i64 i.sh) ∧ w'.cell? ⟨w.heap.size, 1, none⟩ = some (.int .i64 i.nu) ∧ w'.cell? ⟨w.heap.size, 2, none⟩ = some (.float .f32 i.pl) ∧ w'.cell? ⟨w.heap.size, 3, none⟩ = some (.float .f32 i.sp)) (go_keep)
    (first | (go_at_call_of 67 (Value.float FloatKind.f32 i.pl); refine (pattern_any i.pl q4 fp _).mono ?_; rintro e w2 ⟨rfl, rfl⟩) | (go_at_call_of 67 (Value.float FloatKind.f32 i.sp); refine (pattern_any i.sp q5 fs _).mono ?_; rintro e w2 ⟨rfl, rfl⟩) | (go_at_call_of 27 (Value.int IntKind.i64 i.sh); refine (num1 i.sh _ q0 (by omega) _ _ _ _ _ _ _ _ (by assumption)).mono ?_; rintro e wa ⟨rfl, ga, ka⟩) | (go_at_call_of 27 (Value.int IntKind.i64 i.nu); refine (num2 i.nu _ q2 (by omega) _ _ _ _ _ _ _ _ (by assumption)).mono ?_; rintro e wb ⟨rfl, gb, kb⟩) | (go_at_call_of 27 (Value.int IntKind.i64 (i.pl : Int)); refine (num4 (i.pl : Int) _ (by omega) (by omega) _ _ _ _ _ _ _ _ (by assumption)).mono ?_; rintro e wc ⟨rfl, gc, kc⟩) | (go_at_call_of 27 (Value.int IntKind.i64 (i.sp : Int)); refine (num4 (i.sp : Int) _ (by omega) (by omega) _ _ _ _ _ _ _ _ (by assumption)).mono ?_; rintro e wd ⟨rfl, gd, kd⟩))
  go_wp2
  go_ret
  refine ⟨?_, ((((grownBy_drew (World.grownBy_alloc _ _ _)).trans ga).trans gb).trans gc).trans gd⟩
  rw [← hb.out]
  rfl
end Go.Proofs.Ytammnaafdhhjaaa
