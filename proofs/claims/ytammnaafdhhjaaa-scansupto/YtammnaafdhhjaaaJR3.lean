import Derived.Test.YtammnaafdhhjaaaF5
import Derived.Test.YtammnaafdhhjaaaJF6
import Derived.Test.YtammnaafdhhjaaaJR1
/- Ytammnaafdhhjaaa: which things may be, by the document. -/
namespace Go.Proofs.Ytammnaafdhhjaaa
open Go.RowKit

set_option maxHeartbeats 400000 in
theorem refId_any (s n : Int) (w : World) :
    Calls Try.prog 43 #[.agg #[.int .i64 s, .int .i64 n]] w fun e w' => e = .returned (.bool (idB s n)) ∧ w.grownBy w' none := by
  have hsame : Hid (idB s n = (decide (0 ≤ s) && decide (s ≤ 1) && decide (1 ≤ n) && decide (n ≤ 65535))) := by
    show _ = _
    unfold idB
    have : (s == 0 || s == 1) = (decide (0 ≤ s) && decide (s ≤ 1)) := by rw [Bool.eq_iff_iff]; simp; omega
    rw [this]
  go_enter Try.func43, Try.ntmps43
  go_wp2
  all_goals (go_ret; refine ⟨ret_bool ?_, World.grownBy_alloc _ _ _⟩; rw [hsame.out])
  all_goals (first | (simp [*]; done) | (simp; omega))

set_option maxHeartbeats 400000 in
theorem refMay_any (n k : Int) (w : World) :
    Calls Try.prog 44 #[.int .i64 n, .int .i64 k] w fun e w' => e = .returned (.bool (decide (k ≤ n) && decide (n ≤ 65535))) ∧ w' = w := by
  go_enter Try.func44, Try.ntmps44
  go_wp2
  all_goals (go_ret; refine ⟨ret_bool ?_, rfl⟩)
  all_goals (first | (simp [*]; done) | (simp; omega))

set_option maxHeartbeats 400000 in
theorem refThing_any (i : It) (w : World) :
    Calls Try.prog 42 #[.agg #[.int .i64 i.sh, .int .i64 i.nu, .float .f32 i.pl, .float .f32 i.sp]] w fun e w' => e = .returned (.bool (itB i)) ∧ w.grownBy w' none := by
  go_enter Try.func42, Try.ntmps42
  go_wp2_with fail
  refine (refId_any i.sh i.nu _).mono ?_
  rintro e w1 ⟨rfl, g1⟩
  have c1 : w1.cell? ⟨w.heap.size, 2, none⟩ = some (.float .f32 i.pl) := g1.cell (by go_simp) (by simp)
  have c2 : w1.cell? ⟨w.heap.size, 3, none⟩ = some (.float .f32 i.sp) := g1.cell (by go_simp) (by simp)
  have G := (World.grownBy_alloc w (.cells #[.int .i64 i.sh, .int .i64 i.nu, .float .f32 i.pl, .float .f32 i.sp] 26) none).trans g1
  go_wp2_with (first | (go_at_call 68; refine (refNear_any _ _).mono ?_; rintro e w' ⟨rfl, rfl⟩))
  all_goals (go_ret; refine ⟨ret_bool ?_, G⟩)
  all_goals (simp [itB, *])

/-- Nothing but an ID, or nothing at all. -/
def noB (i : It) (lets : Bool) : Bool := (i.pl == 0) && (i.sp == 0) && (lets || ((i.sh == 0) && (i.nu == 0)))
set_option maxHeartbeats 1000000 in
theorem refNothing_any (i : It) (lets : Bool) (w : World) (hp : i.pl < 4294967296) (hs : i.sp < 4294967296) (fp : fin32 i.pl = true) (fs : fin32 i.sp = true) :
    Calls Try.prog 41 #[.agg #[.int .i64 i.sh, .int .i64 i.nu, .float .f32 i.pl, .float .f32 i.sp], .bool lets] w fun e w' => e = .returned (.bool (noB i lets)) ∧ w.grownBy w' none := by
  obtain ⟨sh, nu, pl, sp⟩ := i
  simp only at hp hs fp fs ⊢
  by_cases h1 : sh = 0
  · by_cases h2 : nu = 0
    · subst h1 h2
      cases lets
      all_goals
        go_enter Try.func41, Try.ntmps41
        go_wp2_with (first | (go_at_call 67; refine (pattern_any _ (by assumption) (by assumption) _).mono ?_; rintro e w' ⟨rfl, rfl⟩))
        all_goals (go_ret; refine ⟨ret_bool ?_, World.grownBy_alloc _ _ _⟩)
        all_goals (first | (simp [noB, *]; done) | (simp [noB, *]; exact nat_beq _) | (simp [noB]; omega))
    · subst h1
      cases lets
      all_goals
        go_enter Try.func41, Try.ntmps41
        go_wp2_with (first | (go_at_call 67; refine (pattern_any _ (by assumption) (by assumption) _).mono ?_; rintro e w' ⟨rfl, rfl⟩))
        all_goals (go_ret; refine ⟨ret_bool ?_, World.grownBy_alloc _ _ _⟩)
        all_goals (first | (simp [noB, *]; done) | (simp [noB, *]; exact nat_beq _) | (simp [noB]; omega))
  · cases lets
    all_goals
      go_enter Try.func41, Try.ntmps41
      go_wp2_with (first | (go_at_call 67; refine (pattern_any _ (by assumption) (by assumption) _).mono ?_; rintro e w' ⟨rfl, rfl⟩))
      all_goals (go_ret; refine ⟨ret_bool ?_, World.grownBy_alloc _ _ _⟩)
      all_goals (first | (simp [noB, *]; done) | (simp [noB, *]; exact nat_beq _) | (simp [noB]; omega))
end Go.Proofs.Ytammnaafdhhjaaa

/- Ytammnaafdhhjaaa: the document's order of IDs; a thing as bytes. -/
namespace Go.Proofs.Ytammnaafdhhjaaa
open Go.RowKit

theorem cmp_ahead (a b c d : Int) (_h1 : 0 ≤ a) (_h2 : a ≤ 1) (h3 : 1 ≤ b) (h4 : b ≤ 65535) (_k1 : 0 ≤ c) (_k2 : c ≤ 1) (k3 : 1 ≤ d) (k4 : d ≤ 65535) : decide (a * 65536 + b < c * 65536 + d) = decide (cmpID a b c d < 0) := by
  rcases Int.lt_trichotomy a c with h | h | h
  · have e : cmpID a b c d = -1 := by simp [cmpID, orI, cmpI, h]
    rw [e, decide_eq_true (by omega), decide_eq_true (by omega)]
  · subst h
    have e : cmpID a b a d = cmpI b d := by simp [cmpID, orI, cmpI]
    rw [e]
    unfold cmpI
    rw [Bool.eq_iff_iff]
    simp only [decide_eq_true_eq]
    split
    · omega
    · split <;> omega
  · have e : cmpID a b c d = 1 := by
      have h' : ¬ a < c := by omega
      simp [cmpID, orI, cmpI, h, h']
    rw [e, decide_eq_false (by omega), decide_eq_false (by omega)]
set_option maxHeartbeats 400000 in
theorem ahead_any (a b c d : Int) (w : World) (h1 : 0 ≤ a) (h2 : a ≤ 1) (h3 : 1 ≤ b) (h4 : b ≤ 65535) (k1 : 0 ≤ c) (k2 : c ≤ 1) (k3 : 1 ≤ d) (k4 : d ≤ 65535) :
    Calls Try.prog 69 #[.agg #[.int .i64 a, .int .i64 b], .agg #[.int .i64 c, .int .i64 d]] w fun e w' => e = .returned (.bool (decide (cmpID a b c d < 0))) ∧ w.grownBy w' none := by
  have hs := Hid.mk' (cmp_ahead a b c d h1 h2 h3 h4 k1 k2 k3 k4)
  go_enter Try.func69, Try.ntmps69
  go_wp2
  go_ret
  exact ⟨ret_bool hs.out, grownBy_alloc' (World.grownBy_alloc _ _ _) _⟩

theorem refNumber_held (n : Int) (bs : Nat) (w : World) (h0 : 0 ≤ n) (h1 : n ≤ 4294967295) (hb : bs ≤ 4) (p0 p1 p2 p3 : Addr) (v0 v1 v2 v3 : Value) (h : w.cell? p0 = some v0 ∧ w.cell? p1 = some v1 ∧ w.cell? p2 = some v2 ∧ w.cell? p3 = some v3) :
    Calls Try.prog 27 #[.int .i64 n, .int .i64 (bs : Int)] w fun e w' => e = .returned (.string (S (beN bs n))) ∧ w.grownBy w' none ∧ w'.cell? p0 = some v0 ∧ w'.cell? p1 = some v1 ∧ w'.cell? p2 = some v2 ∧ w'.cell? p3 = some v3 := by
  refine (refNumber_any n bs w h0 h1 hb).mono ?_
  rintro e w' ⟨he, g⟩
  exact ⟨he, g, g.cell h.1 (by simp), g.cell h.2.1 (by simp), g.cell h.2.2.1 (by simp), g.cell h.2.2.2 (by simp)⟩

theorem num1 (n : Int) (w : World) (h0 : 0 ≤ n) (h1 : n ≤ 4294967295) (p0 p1 p2 p3 : Addr) (v0 v1 v2 v3 : Value) (h : w.cell? p0 = some v0 ∧ w.cell? p1 = some v1 ∧ w.cell? p2 = some v2 ∧ w.cell? p3 = some v3) :
    Calls Try.prog 27 #[.int .i64 n, .int .i64 1] w fun e w' => e = .returned (.string (S (beN 1 n))) ∧ w.grownBy w' none ∧ w'.cell? p0 = some v0 ∧ w'.cell? p1 = some v1 ∧ w'.cell? p2 = some v2 ∧ w'.cell? p3 = some v3 := refNumber_held n 1 w h0 h1 (by omega) p0 p1 p2 p3 v0 v1 v2 v3 h
theorem num2 (n : Int) (w : World) (h0 : 0 ≤ n) (h1 : n ≤ 4294967295) (p0 p1 p2 p3 : Addr) (v0 v1 v2 v3 : Value) (h : w.cell? p0 = some v0 ∧ w.cell? p1 = some v1 ∧ w.cell? p2 = some v2 ∧ w.cell? p3 = some v3) :
    Calls Try.prog 27 #[.int .i64 n, .int .i64 2] w fun e w' => e = .returned (.string (S (beN 2 n))) ∧ w.grownBy w' none ∧ w'.cell? p0 = some v0 ∧ w'.cell? p1 = some v1 ∧ w'.cell? p2 = some v2 ∧ w'.cell? p3 = some v3 := refNumber_held n 2 w h0 h1 (by omega) p0 p1 p2 p3 v0 v1 v2 v3 h
theorem num4 (n : Int) (w : World) (h0 : 0 ≤ n) (h1 : n ≤ 4294967295) (p0 p1 p2 p3 : Addr) (v0 v1 v2 v3 : Value) (h : w.cell? p0 = some v0 ∧ w.cell? p1 = some v1 ∧ w.cell? p2 = some v2 ∧ w.cell? p3 = some v3) :
    Calls Try.prog 27 #[.int .i64 n, .int .i64 4] w fun e w' => e = .returned (.string (S (beN 4 n))) ∧ w.grownBy w' none ∧ w'.cell? p0 = some v0 ∧ w'.cell? p1 = some v1 ∧ w'.cell? p2 = some v2 ∧ w'.cell? p3 = some v3 := refNumber_held n 4 w h0 h1 (by omega) p0 p1 p2 p3 v0 v1 v2 v3 h
theorem item_bytes (i : It) (h : ItOk i) : beN 1 i.sh ++ (beN 2 i.nu ++ (beN 4 i.pl ++ beN 4 i.sp)) = eIt i := by
  rw [beN1 _ h.a h.b, beN2 _ h.c h.d, beN4 _ h.p, beN4 _ h.s]
  simp [eIt]

set_option maxHeartbeats 2000000 in
theorem refItem_any (i : It) (w : World) (hk : ItOk i) (fp : fin32 i.pl = true) (fs : fin32 i.sp = true) :
    Calls Try.prog 46 #[.agg #[.int .i64 i.sh, .int .i64 i.nu, .float .f32 i.pl, .float .f32 i.sp]] w fun e w' => e = .returned (.string (S (eIt i))) ∧ w.grownBy w' none := by
  have hb := Hid.mk' (item_bytes i hk)
  have q0 := hk.a
  have q1 := hk.b
  have q2 := hk.c
  have q3 := hk.d
  have q4 := hk.p
  have q5 := hk.s
  have hap := S_app
  have hsz := S_size
  have hln := beN_len
  go_enter Try.func46, Try.ntmps46
  go_wp2_with fail
  go_region_held3 (fun w' => w'.cell? ⟨w.heap.size, 0, none⟩ = some (.int .i64 i.sh) ∧ w'.cell? ⟨w.heap.size, 1, none⟩ = some (.int .i64 i.nu) ∧ w'.cell? ⟨w.heap.size, 2, none⟩ = some (.float .f32 i.pl) ∧ w'.cell? ⟨w.heap.size, 3, none⟩ = some (.float .f32 i.sp)) (go_keep)
    (first | (go_at_call_of 67 (Value.float FloatKind.f32 i.pl); refine (pattern_any i.pl q4 fp _).mono ?_; rintro e w2 ⟨rfl, rfl⟩) | (go_at_call_of 67 (Value.float FloatKind.f32 i.sp); refine (pattern_any i.sp q5 fs _).mono ?_; rintro e w2 ⟨rfl, rfl⟩) | (go_at_call_of 27 (Value.int IntKind.i64 i.sh); refine (num1 i.sh _ q0 (by omega) _ _ _ _ _ _ _ _ (by assumption)).mono ?_; rintro e wa ⟨rfl, ga, ka⟩) | (go_at_call_of 27 (Value.int IntKind.i64 i.nu); refine (num2 i.nu _ q2 (by omega) _ _ _ _ _ _ _ _ (by assumption)).mono ?_; rintro e wb ⟨rfl, gb, kb⟩) | (go_at_call_of 27 (Value.int IntKind.i64 (i.pl : Int)); refine (num4 (i.pl : Int) _ (by omega) (by omega) _ _ _ _ _ _ _ _ (by assumption)).mono ?_; rintro e wc ⟨rfl, gc, kc⟩) | (go_at_call_of 27 (Value.int IntKind.i64 (i.sp : Int)); refine (num4 (i.sp : Int) _ (by omega) (by omega) _ _ _ _ _ _ _ _ (by assumption)).mono ?_; rintro e wd ⟨rfl, gd, kd⟩))
  go_wp2
  go_ret
  refine ⟨?_, ((((grownBy_drew (World.grownBy_alloc _ _ _)).trans ga).trans gb).trans gc).trans gd⟩
  rw [← hb.out]
  rfl
end Go.Proofs.Ytammnaafdhhjaaa
