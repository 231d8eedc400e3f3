import Derived.Test.YtammnaafdhhjaaaJF3
/- Ytammnaafdhhjaaa: plain laws of the model's floats: from a pattern to the float. -/
namespace Go.Proofs.Ytammnaafdhhjaaa
namespace Fl
open Ieee

theorem div_pow {q : Nat} {e c : Int} (h : Nm q e) (hc : Nm 4503599627370496 c) (h1 : -1074 ≤ e - c - 52) (h2 : e - c - 52 ≤ 971) : double.div (W q e) (W 4503599627370496 c) = some (W q (e - c - 52)) := by
  unfold Format.div
  rw [read_W h, read_W hc, d_frac]
  have l1 := log2_q h.lo h.hi
  have l2 : Nat.log2 4503599627370496 = 52 := log2_q (by omega) (by omega)
  have em : 52 + 2 + 52 - 52 = 54 := rfl
  simp only [Datum.quotient, l1, l2, em]
  rw [if_neg (by omega)]
  have e1 : (q <<< 54) / 4503599627370496 = 4 * q := by rw [Nat.shiftLeft_eq]; omega
  have e2 : (q <<< 54) % 4503599627370496 = 0 := by rw [Nat.shiftLeft_eq]; omega
  rw [e1, e2]
  have hn : Nm q (e - c - 52) := ⟨h.lo, h.hi, h1, h2⟩
  have w : double.nearest false (2 * (4 * q) + ((0 : Nat) != 0).toNat) (e - c - ((54 : Nat) : Int) - 1) = W q (e - c - 52) := write_down (k := 3) hn (by omega) (by simp; omega)
  exact congrArg some w

/-- A small number, one added: 'm / 8388608 + 1'. -/
theorem add_one {m k : Nat} (hm0 : 0 < m) (hm : m < 8388608) (hk : m.log2 + k = 52) (hq : Nm (m * 2 ^ k) (-(k : Int) - 23)) : double.add (W (m * 2 ^ k) (-(k : Int) - 23)) 4607182418800017408 = some (W ((8388608 + m) * 536870912) (-52)) := by
  have h1 : Nm 4503599627370496 (-52) := ⟨by omega, by omega, by omega, by omega⟩
  have hL : m.log2 < 23 := (Nat.log2_lt (by omega)).2 hm
  have hk30 : 30 ≤ k := by omega
  unfold Format.add
  rw [one_W, read_W hq, read_W h1]
  obtain ⟨j, hj⟩ : ∃ j, k = j + 29 := ⟨k - 29, by omega⟩
  have hmin : min (-(k : Int) - 23) (-52) = -(k : Int) - 23 := by omega
  have ha : (-(k : Int) - 23 - (-(k : Int) - 23)).toNat = 0 := by omega
  have hb : ((-52 : Int) - (-(k : Int) - 23)).toNat = j := by omega
  have hs : signed false (m * 2 ^ k) 0 + signed false 4503599627370496 j = (((8388608 + m) * 536870912 * 2 ^ j : Nat) : Int) := by
    unfold signed
    simp only [Bool.false_eq_true, if_false, Nat.shiftLeft_eq]
    rw [hj, Nat.pow_add, show (2 : Nat) ^ 29 = 536870912 from rfl, ← Int.natCast_add]
    congr 1
    generalize 2 ^ j = P
    rw [Nat.add_mul, Nat.add_mul, ← Nat.mul_assoc, Nat.mul_right_comm m P 536870912, Nat.add_comm, Nat.pow_zero, Nat.mul_one, show 8388608 * 536870912 = 4503599627370496 from rfl]
  have hpos : 0 < (8388608 + m) * 536870912 * 2 ^ j := Nat.mul_pos (by omega) (Nat.two_pow_pos j)
  have ed : Datum.sum (.number false (m * 2 ^ k) (-(k : Int) - 23)) (.number false 4503599627370496 (-52)) = some (.number false ((8388608 + m) * 536870912 * 2 ^ j) (-(k : Int) - 23)) := by
    show some (Datum.number (if signed false (m * 2 ^ k) (-(k : Int) - 23 - min (-(k : Int) - 23) (-52)).toNat + signed false 4503599627370496 (-52 - min (-(k : Int) - 23) (-52)).toNat = 0 then false && false else decide (signed false (m * 2 ^ k) (-(k : Int) - 23 - min (-(k : Int) - 23) (-52)).toNat + signed false 4503599627370496 (-52 - min (-(k : Int) - 23) (-52)).toNat < 0)) (signed false (m * 2 ^ k) (-(k : Int) - 23 - min (-(k : Int) - 23) (-52)).toNat + signed false 4503599627370496 (-52 - min (-(k : Int) - 23) (-52)).toNat).natAbs (min (-(k : Int) - 23) (-52))) = _
    rw [hmin, ha, hb, hs, Int.natAbs_natCast]
    generalize (8388608 + m) * 536870912 * 2 ^ j = Z at *
    rw [if_neg (by omega), decide_eq_false (by omega)]
  rw [ed]
  have hn : Nm ((8388608 + m) * 536870912) (-52) := ⟨by omega, by omega, by omega, by omega⟩
  have w : double.nearest false ((8388608 + m) * 536870912 * 2 ^ j) (-(k : Int) - 23) = W ((8388608 + m) * 536870912) (-52) := write_down (k := j) hn (by omega) rfl
  exact congrArg some w

theorem s_frac : single.fractionBits = 23 := rfl
/-- Made a float32: normal numbers. -/
theorem single_normal {M E : Nat} (h0 : 8388608 ≤ M) (h1 : M < 16777216) (hE : 1 ≤ E) (hE2 : E ≤ 254) : single.write (.number false (M * 536870912) ((E : Int) - 179)) = (E - 1) * 8388608 + M := by
  show single.nearest false (M * 536870912) ((E : Int) - 179) = _
  have hl : (M * 536870912).log2 = 52 := log2_of (k := 52) (by show 4503599627370496 ≤ _; omega) (by show _ < 9007199254740992; omega)
  have hne : M * 536870912 ≠ 0 := by omega
  unfold Format.nearest
  rw [if_neg hne, s_frac, s_least, s_binade, s_inf, hl]
  have e1 : (E : Int) - 179 + ((52 : Nat) : Int) - ((23 : Nat) : Int) = (E : Int) - 150 := by omega
  have e2 : max ((E : Int) - 150) (-149) = (E : Int) - 150 := by omega
  simp only [e1, e2]
  have e3 : ((E : Int) - 179 - ((E : Int) - 150)).toNat = 0 := by omega
  have e4 : ((E : Int) - 150 - ((E : Int) - 179)).toNat = 29 := by omega
  have e5 : ((E : Int) - 150 - (-149)).toNat = E - 1 := by omega
  have ec : Toward.even.cut false (M * 536870912) 29 = M := cutk M 29 (by omega)
  rw [e3, e4, Nat.shiftLeft_zero, ec, e5, Nat.min_eq_left (by omega)]
  rfl
/-- .. and small ones. -/
theorem single_small {m k : Nat} (h0 : 0 < m) (h1 : m < 8388608) (hk : m.log2 + k = 52) : single.write (.number false (m * 2 ^ k) (-(k : Int) - 149)) = m := by
  show single.nearest false (m * 2 ^ k) (-(k : Int) - 149) = _
  have hL : m.log2 < 23 := (Nat.log2_lt (by omega)).2 h1
  have hpos := Nat.two_pow_pos k
  have hl : (m * 2 ^ k).log2 = 52 := by
    apply log2_of
    · have a : 2 ^ m.log2 ≤ m := Nat.log2_self_le (by omega)
      rw [← hk, Nat.pow_add]; exact Nat.mul_le_mul_right _ a
    · have b : m < 2 ^ (m.log2 + 1) := Nat.lt_log2_self
      rw [← hk, show m.log2 + k + 1 = m.log2 + 1 + k by omega, Nat.pow_add]; exact Nat.mul_lt_mul_of_pos_right b hpos
  have hne : m * 2 ^ k ≠ 0 := Nat.ne_of_gt (Nat.mul_pos h0 hpos)
  unfold Format.nearest
  rw [if_neg hne, s_frac, s_least, s_binade, s_inf, hl]
  have e2 : max (-(k : Int) - 149 + ((52 : Nat) : Int) - ((23 : Nat) : Int)) (-149) = -149 := by omega
  simp only [e2]
  have e3 : (-(k : Int) - 149 - (-149)).toNat = 0 := by omega
  have e4 : ((-149 : Int) - (-(k : Int) - 149)).toNat = k := by omega
  have e5 : ((-149 : Int) - (-149)).toNat = 0 := rfl
  rw [e3, e4, Nat.shiftLeft_zero, cutk m k h0, e5, Nat.zero_mul, Nat.zero_add, Nat.min_eq_left (by omega)]
  rfl
end Fl
end Go.Proofs.Ytammnaafdhhjaaa

/- Ytammnaafdhhjaaa: the document's float out of a pattern, walked. -/
namespace Go.Proofs.Ytammnaafdhhjaaa
open Go.RowKit

theorem run_neg32' (b : Nat) (h1 : b < 2147483648) (w : World) : (Op.unary .neg (.float .f32 b)).run Try.prog w = .ok (.float .f32 (b + 2147483648)) w := by
  have e : Op.negFloat .f32 b = b + 2147483648 := by
    have hr : b < 2 ^ 31 := by omega
    show b ^^^ 2 ^ 31 = b + 2 ^ 31
    rw [Nat.add_comm b]
    apply Nat.eq_of_testBit_eq
    intro i
    rw [Nat.testBit_xor, Nat.testBit_two_pow]
    rcases Nat.lt_trichotomy i 31 with h | h | h
    · rw [Nat.testBit_two_pow_add_gt h, show decide (31 = i) = false from decide_eq_false (by omega), Bool.xor_false]
    · subst h
      rw [Nat.testBit_two_pow_add_eq, Nat.testBit_lt_two_pow hr]; rfl
    · have h2 : 2 ^ 31 + b < 2 ^ i := by
        have : 2 ^ 32 ≤ 2 ^ i := Nat.pow_le_pow_right (by decide) h
        omega
      have h3 : b < 2 ^ i := by omega
      rw [Nat.testBit_lt_two_pow h2, Nat.testBit_lt_two_pow h3, show decide (31 = i) = false from decide_eq_false (by omega)]; rfl
  show Result.ok (Value.float .f32 (Op.negFloat .f32 b)) w = _
  rw [e]

set_option maxHeartbeats 1000000 in
set_option maxRecDepth 100000 in
theorem float_pos_plus (n m r : Nat) (V : Int → Nat) (a b : Nat) (hn : n < 4294967296) (hm : (n : Int) % 8388608 = (m : Int)) (hEp : 1 ≤ ((n : Int) / 8388608 % 256)) (hE2 : ((n : Int) / 8388608 % 256) ≤ 254) (hs : n < 2147483648)
    (f1 : floatOfInt .f64 (m : Int) = a) (f2 : Ieee.double.div a 4710765210229538816 = some b) (f3 : Ieee.double.add b 4607182418800017408 = some (V ((n : Int) / 8388608 % 256)))
    (hmul : ∀ c : Int, 127 < c → c ≤ ((n : Int) / 8388608 % 256) → Ieee.double.mul (V c) 4611686018427387904 = some (V (c - 1))) (hdiv : ∀ c : Int, 1 ≤ c → c < 127 → Ieee.double.div (V c) 4611686018427387904 = some (V (c + 1)))
    (hcv : floatToFloatBits .f64 (V 127) .f32 = some r) (_hr : r < 2147483648) (w : World) :
    Calls Try.prog 76 #[.int .i64 (n : Int)] w fun e w' => e = .returned (.tuple #[.float .f32 r, .bool true]) ∧ w' = w := by
  have hn0 : (0 : Int) ≤ (n : Int) := by omega
  have hn1 : (n : Int) ≤ 4294967295 := by omega
  have k2 := fun w => run_float_arith (P := Try.prog) w .quo 119 .f64 _ _ _ f2
  have k3 := fun w => run_float_arith (P := Try.prog) w .add 119 .f64 _ _ _ f3
  have h255 : ((n : Int) / 8388608 % 256 == 255) = false := by simp; omega
  have hsg : decide ((2147483648 : Int) ≤ (n : Int)) = false := by simp; omega
  have kc := fun w => run_convert_float_float (P := Try.prog) w 119 24 .f64 .f32 _ _ (by rw [Try.underlying119]; rfl) Try.underlying24 hcv
  have HM := Hid.mk' hmul
  have HD := Hid.mk' hdiv
  clear hmul hdiv f2 hcv f3
  go_enter Try.func76, Try.ntmps76
  go_wp2
  go_loop [6, 5] (fun v i => ∃ c : Int, v = .float .f64 (V c) ∧ i = .int .i64 c ∧ c ≤ ((n : Int) / 8388608 % 256) ∧ 1 ≤ c ∧ (c = ((n : Int) / 8388608 % 256) ∨ 127 ≤ c)) (fun _ i => (intOf i).toNat)
  case atStart => exact ⟨((n : Int) / 8388608 % 256), rfl, rfl, by omega, by omega, .inl rfl⟩
  case round =>
    obtain ⟨c, rfl, rfl, hc, hc1, hcc⟩ := hrel
    by_cases h2 : 127 < c
    · have g2 := fun w => run_float_arith (P := Try.prog) w .mul 119 .f64 _ _ _ (HM.out c h2 hc)
      go_wp2
      go_round
      case rel => exact ⟨c - 1, rfl, rfl, by omega, by omega, .inr (by omega)⟩
      case measure => simp [intOf]; omega
    · go_wp2
      go_loop [6, 5] (fun v i => ∃ d : Int, v = .float .f64 (V d) ∧ i = .int .i64 d ∧ 1 ≤ d ∧ d ≤ 127) (fun _ i => (200 - intOf i).toNat)
      case atStart => exact ⟨c, rfl, rfl, by omega, by omega⟩
      case round =>
        obtain ⟨d, rfl, rfl, hd, hd2⟩ := hrel
        by_cases h3 : d < 127
        · have g2 := fun w => run_float_arith (P := Try.prog) w .quo 119 .f64 _ _ _ (HD.out d hd h3)
          go_wp2
          go_round
          case rel => exact ⟨d + 1, rfl, rfl, by omega, by omega⟩
          case measure => simp [intOf]; omega
        · obtain rfl : d = 127 := by omega
          go_wp2
          go_ret2
          exact ⟨rfl, rfl⟩

set_option maxHeartbeats 1000000 in
set_option maxRecDepth 100000 in
theorem float_pos_neg (n m r : Nat) (V : Int → Nat) (a b : Nat) (hn : n < 4294967296) (hm : (n : Int) % 8388608 = (m : Int)) (hEp : 1 ≤ ((n : Int) / 8388608 % 256)) (hE2 : ((n : Int) / 8388608 % 256) ≤ 254) (hs : 2147483648 ≤ n)
    (f1 : floatOfInt .f64 (m : Int) = a) (f2 : Ieee.double.div a 4710765210229538816 = some b) (f3 : Ieee.double.add b 4607182418800017408 = some (V ((n : Int) / 8388608 % 256)))
    (hmul : ∀ c : Int, 127 < c → c ≤ ((n : Int) / 8388608 % 256) → Ieee.double.mul (V c) 4611686018427387904 = some (V (c - 1))) (hdiv : ∀ c : Int, 1 ≤ c → c < 127 → Ieee.double.div (V c) 4611686018427387904 = some (V (c + 1)))
    (hcv : floatToFloatBits .f64 (V 127) .f32 = some r) (hr : r < 2147483648) (w : World) :
    Calls Try.prog 76 #[.int .i64 (n : Int)] w fun e w' => e = .returned (.tuple #[.float .f32 (r + 2147483648), .bool true]) ∧ w' = w := by
  have hn0 : (0 : Int) ≤ (n : Int) := by omega
  have hn1 : (n : Int) ≤ 4294967295 := by omega
  have k2 := fun w => run_float_arith (P := Try.prog) w .quo 119 .f64 _ _ _ f2
  have k3 := fun w => run_float_arith (P := Try.prog) w .add 119 .f64 _ _ _ f3
  have h255 : ((n : Int) / 8388608 % 256 == 255) = false := by simp; omega
  have hsg : decide ((2147483648 : Int) ≤ (n : Int)) = true := by simp; omega
  have hng := run_neg32' r hr
  have kc := fun w => run_convert_float_float (P := Try.prog) w 119 24 .f64 .f32 _ _ (by rw [Try.underlying119]; rfl) Try.underlying24 hcv
  have HM := Hid.mk' hmul
  have HD := Hid.mk' hdiv
  clear hmul hdiv f2 hcv f3
  go_enter Try.func76, Try.ntmps76
  go_wp2
  go_loop [6, 5] (fun v i => ∃ c : Int, v = .float .f64 (V c) ∧ i = .int .i64 c ∧ c ≤ ((n : Int) / 8388608 % 256) ∧ 1 ≤ c ∧ (c = ((n : Int) / 8388608 % 256) ∨ 127 ≤ c)) (fun _ i => (intOf i).toNat)
  case atStart => exact ⟨((n : Int) / 8388608 % 256), rfl, rfl, by omega, by omega, .inl rfl⟩
  case round =>
    obtain ⟨c, rfl, rfl, hc, hc1, hcc⟩ := hrel
    by_cases h2 : 127 < c
    · have g2 := fun w => run_float_arith (P := Try.prog) w .mul 119 .f64 _ _ _ (HM.out c h2 hc)
      go_wp2
      go_round
      case rel => exact ⟨c - 1, rfl, rfl, by omega, by omega, .inr (by omega)⟩
      case measure => simp [intOf]; omega
    · go_wp2
      go_loop [6, 5] (fun v i => ∃ d : Int, v = .float .f64 (V d) ∧ i = .int .i64 d ∧ 1 ≤ d ∧ d ≤ 127) (fun _ i => (200 - intOf i).toNat)
      case atStart => exact ⟨c, rfl, rfl, by omega, by omega⟩
      case round =>
        obtain ⟨d, rfl, rfl, hd, hd2⟩ := hrel
        by_cases h3 : d < 127
        · have g2 := fun w => run_float_arith (P := Try.prog) w .quo 119 .f64 _ _ _ (HD.out d hd h3)
          go_wp2
          go_round
          case rel => exact ⟨d + 1, rfl, rfl, by omega, by omega⟩
          case measure => simp [intOf]; omega
        · obtain rfl : d = 127 := by omega
          go_wp2
          go_ret2
          exact ⟨rfl, rfl⟩

set_option maxHeartbeats 1000000 in
set_option maxRecDepth 100000 in
theorem float_low_plus (n m r : Nat) (V : Int → Nat) (a b : Nat) (hn : n < 4294967296) (hm : (n : Int) % 8388608 = (m : Int)) (hE : (n : Int) / 8388608 % 256 = 0) (hs : n < 2147483648)
    (f1 : floatOfInt .f64 (m : Int) = a) (f2 : Ieee.double.div a 4710765210229538816 = some b) (f3 : b = V 1)
    (hmul : ∀ c : Int, 127 < c → c ≤ 1 → Ieee.double.mul (V c) 4611686018427387904 = some (V (c - 1))) (hdiv : ∀ c : Int, 1 ≤ c → c < 127 → Ieee.double.div (V c) 4611686018427387904 = some (V (c + 1)))
    (hcv : floatToFloatBits .f64 (V 127) .f32 = some r) (_hr : r < 2147483648) (w : World) :
    Calls Try.prog 76 #[.int .i64 (n : Int)] w fun e w' => e = .returned (.tuple #[.float .f32 r, .bool true]) ∧ w' = w := by
  have hn0 : (0 : Int) ≤ (n : Int) := by omega
  have hn1 : (n : Int) ≤ 4294967295 := by omega
  have k2 := fun w => run_float_arith (P := Try.prog) w .quo 119 .f64 _ _ _ f2
  subst f3
  have hsg : decide ((2147483648 : Int) ≤ (n : Int)) = false := by simp; omega
  have kc := fun w => run_convert_float_float (P := Try.prog) w 119 24 .f64 .f32 _ _ (by rw [Try.underlying119]; rfl) Try.underlying24 hcv
  have HM := Hid.mk' hmul
  have HD := Hid.mk' hdiv
  clear hmul hdiv f2 hcv
  go_enter Try.func76, Try.ntmps76
  go_wp2
  go_loop [6, 5] (fun v i => ∃ c : Int, v = .float .f64 (V c) ∧ i = .int .i64 c ∧ c ≤ 1 ∧ 1 ≤ c ∧ (c = 1 ∨ 127 ≤ c)) (fun _ i => (intOf i).toNat)
  case atStart => exact ⟨1, rfl, rfl, by omega, by omega, .inl rfl⟩
  case round =>
    obtain ⟨c, rfl, rfl, hc, hc1, hcc⟩ := hrel
    by_cases h2 : 127 < c
    · have g2 := fun w => run_float_arith (P := Try.prog) w .mul 119 .f64 _ _ _ (HM.out c h2 hc)
      go_wp2
      go_round
      case rel => exact ⟨c - 1, rfl, rfl, by omega, by omega, .inr (by omega)⟩
      case measure => simp [intOf]; omega
    · go_wp2
      go_loop [6, 5] (fun v i => ∃ d : Int, v = .float .f64 (V d) ∧ i = .int .i64 d ∧ 1 ≤ d ∧ d ≤ 127) (fun _ i => (200 - intOf i).toNat)
      case atStart => exact ⟨c, rfl, rfl, by omega, by omega⟩
      case round =>
        obtain ⟨d, rfl, rfl, hd, hd2⟩ := hrel
        by_cases h3 : d < 127
        · have g2 := fun w => run_float_arith (P := Try.prog) w .quo 119 .f64 _ _ _ (HD.out d hd h3)
          go_wp2
          go_round
          case rel => exact ⟨d + 1, rfl, rfl, by omega, by omega⟩
          case measure => simp [intOf]; omega
        · obtain rfl : d = 127 := by omega
          go_wp2
          go_ret2
          exact ⟨rfl, rfl⟩

set_option maxHeartbeats 1000000 in
set_option maxRecDepth 100000 in
theorem float_low_neg (n m r : Nat) (V : Int → Nat) (a b : Nat) (hn : n < 4294967296) (hm : (n : Int) % 8388608 = (m : Int)) (hE : (n : Int) / 8388608 % 256 = 0) (hs : 2147483648 ≤ n)
    (f1 : floatOfInt .f64 (m : Int) = a) (f2 : Ieee.double.div a 4710765210229538816 = some b) (f3 : b = V 1)
    (hmul : ∀ c : Int, 127 < c → c ≤ 1 → Ieee.double.mul (V c) 4611686018427387904 = some (V (c - 1))) (hdiv : ∀ c : Int, 1 ≤ c → c < 127 → Ieee.double.div (V c) 4611686018427387904 = some (V (c + 1)))
    (hcv : floatToFloatBits .f64 (V 127) .f32 = some r) (hr : r < 2147483648) (w : World) :
    Calls Try.prog 76 #[.int .i64 (n : Int)] w fun e w' => e = .returned (.tuple #[.float .f32 (r + 2147483648), .bool true]) ∧ w' = w := by
  have hn0 : (0 : Int) ≤ (n : Int) := by omega
  have hn1 : (n : Int) ≤ 4294967295 := by omega
  have k2 := fun w => run_float_arith (P := Try.prog) w .quo 119 .f64 _ _ _ f2
  subst f3
  have hsg : decide ((2147483648 : Int) ≤ (n : Int)) = true := by simp; omega
  have hng := run_neg32' r hr
  have kc := fun w => run_convert_float_float (P := Try.prog) w 119 24 .f64 .f32 _ _ (by rw [Try.underlying119]; rfl) Try.underlying24 hcv
  have HM := Hid.mk' hmul
  have HD := Hid.mk' hdiv
  clear hmul hdiv f2 hcv
  go_enter Try.func76, Try.ntmps76
  go_wp2
  go_loop [6, 5] (fun v i => ∃ c : Int, v = .float .f64 (V c) ∧ i = .int .i64 c ∧ c ≤ 1 ∧ 1 ≤ c ∧ (c = 1 ∨ 127 ≤ c)) (fun _ i => (intOf i).toNat)
  case atStart => exact ⟨1, rfl, rfl, by omega, by omega, .inl rfl⟩
  case round =>
    obtain ⟨c, rfl, rfl, hc, hc1, hcc⟩ := hrel
    by_cases h2 : 127 < c
    · have g2 := fun w => run_float_arith (P := Try.prog) w .mul 119 .f64 _ _ _ (HM.out c h2 hc)
      go_wp2
      go_round
      case rel => exact ⟨c - 1, rfl, rfl, by omega, by omega, .inr (by omega)⟩
      case measure => simp [intOf]; omega
    · go_wp2
      go_loop [6, 5] (fun v i => ∃ d : Int, v = .float .f64 (V d) ∧ i = .int .i64 d ∧ 1 ≤ d ∧ d ≤ 127) (fun _ i => (200 - intOf i).toNat)
      case atStart => exact ⟨c, rfl, rfl, by omega, by omega⟩
      case round =>
        obtain ⟨d, rfl, rfl, hd, hd2⟩ := hrel
        by_cases h3 : d < 127
        · have g2 := fun w => run_float_arith (P := Try.prog) w .quo 119 .f64 _ _ _ (HD.out d hd h3)
          go_wp2
          go_round
          case rel => exact ⟨d + 1, rfl, rfl, by omega, by omega⟩
          case measure => simp [intOf]; omega
        · obtain rfl : d = 127 := by omega
          go_wp2
          go_ret2
          exact ⟨rfl, rfl⟩

end Go.Proofs.Ytammnaafdhhjaaa

/- Ytammnaafdhhjaaa: the document's float out of a pattern, at every pattern. -/
namespace Go.Proofs.Ytammnaafdhhjaaa
open Go.RowKit
open Ieee (Datum)

theorem W_eq {q : Nat} {e f : Int} (h : e = f) : Fl.W q e = Fl.W q f := by rw [h]
theorem foi (m : Nat) : floatOfInt .f64 (m : Int) = Ieee.double.write (.number false m 0) := by
  unfold floatOfInt FloatKind.nearest FloatKind.encode
  have h1 : decide ((m : Int) < 0) = false := decide_eq_false (by omega)
  rw [h1, Int.natAbs_natCast]
  rfl
/-- From float64 to float32, where the number is one. -/
theorem to32 {q r : Nat} {e : Int} (h : Fl.Nm q e) (hw : Ieee.single.write (.number false q e) = r) (hr : r < 2139095040) : floatToFloatBits .f64 (Fl.W q e) .f32 = some r := by
  have hd : FloatKind.f64.decode (Fl.W q e) = .number false q e := Fl.read_W h
  have he : FloatKind.f32.encode (.number false q e) = r := hw
  have hdd : FloatKind.f32.decode r = _ := Fl.read32 r (by omega)
  unfold floatToFloatBits
  rw [if_neg (by decide), hd]
  show (if (FloatKind.f32.decode (FloatKind.f32.encode (.number false q e))).isInfinity then none else some (FloatKind.f32.encode (.number false q e))) = _
  rw [he, hdd]
  rfl

/-- What the steps ahead of the loops give. -/
theorem frac_start (m : Nat) (hm : m < 8388608) : ∃ a b : Nat, floatOfInt .f64 (m : Int) = a ∧ Ieee.double.div a 4710765210229538816 = some b ∧ Ieee.double.add b 4607182418800017408 = some (Fl.W ((8388608 + m) * 536870912) (-52)) ∧
    ((m = 0 ∧ b = 0) ∨ ∃ k, 0 < m ∧ m.log2 + k = 52 ∧ Fl.Nm (m * 2 ^ k) (-(k : Int) - 23) ∧ b = Fl.W (m * 2 ^ k) (-(k : Int) - 23)) := by
  by_cases h0 : m = 0
  · subst h0
    refine ⟨0, 0, by decide +kernel, by decide +kernel, by decide +kernel, .inl ⟨rfl, rfl⟩⟩
  · obtain ⟨k, q, hk, hl, hq, hn, hw⟩ := Fl.write_any (mag := m) (p := 0) (by omega) (by omega) (by omega) (by omega)
    subst hq
    have hb : Fl.Nm 4503599627370496 (-29) := ⟨by omega, by omega, by omega, by omega⟩
    have hd := Fl.div_pow hn hb (by omega) (by omega)
    rw [← Fl.big_W] at hd
    have ee : (0 : Int) - (k : Int) - -29 - 52 = -(k : Int) - 23 := by omega
    rw [ee] at hd
    have hn2 : Fl.Nm (m * 2 ^ k) (-(k : Int) - 23) := ⟨hn.lo, hn.hi, by omega, by omega⟩
    refine ⟨_, _, by rw [foi]; exact hw, hd, Fl.add_one (by omega) hm hl hn2, .inr ⟨k, by omega, hl, hn2, rfl⟩⟩

set_option maxHeartbeats 400000 in
set_option maxRecDepth 100000 in
theorem float_no (n : Nat) (hn : n < 4294967296) (hE : (n : Int) / 8388608 % 256 = 255) (w : World) :
    Calls Try.prog 76 #[.int .i64 (n : Int)] w fun e w' => e = .returned (.tuple #[.float .f32 0, .bool false]) ∧ w' = w := by
  have hn0 : (0 : Int) ≤ (n : Int) := by omega
  have hn1 : (n : Int) ≤ 4294967295 := by omega
  go_enter Try.func76, Try.ntmps76
  go_wp2
  go_ret2
  exact ⟨rfl, rfl⟩

theorem ret_f {a b : Nat} (h : a = b) : Ending.returned (.tuple #[.float .f32 a, .bool true]) = .returned (.tuple #[.float .f32 b, .bool true]) := by rw [h]

/-- THE FLOAT OF A PATTERN IS THAT PATTERN. -/
theorem float_yes (n : Nat) (hn : n < 4294967296) (hE : (n : Int) / 8388608 % 256 ≠ 255) (w : World) :
    Calls Try.prog 76 #[.int .i64 (n : Int)] w fun e w' => e = .returned (.tuple #[.float .f32 n, .bool true]) ∧ w' = w := by
  obtain ⟨m, hm⟩ : ∃ m, n % 8388608 = m := ⟨_, rfl⟩
  obtain ⟨E, hEE⟩ : ∃ E, n / 8388608 % 256 = E := ⟨_, rfl⟩
  have hmI : (n : Int) % 8388608 = (m : Int) := by omega
  have hEI : (n : Int) / 8388608 % 256 = (E : Int) := by omega
  have hm8 : m < 8388608 := by omega
  obtain ⟨a, b, f1, f2, f3, fb⟩ := frac_start m hm8
  by_cases hE0 : E = 0
  · have hEz : (n : Int) / 8388608 % 256 = 0 := by omega
    rcases fb with ⟨hz, rfl⟩ | ⟨k, hmp, hl, hnm, rfl⟩
    · have d0 : Ieee.double.div 0 4611686018427387904 = some 0 := by decide +kernel
      have c0 : floatToFloatBits .f64 0 .f32 = some 0 := by decide +kernel
      by_cases hs : n < 2147483648
      · refine (float_low_plus n m 0 (fun _ => 0) a 0 hn hmI hEz hs f1 f2 rfl (fun c h1 h2 => by omega) (fun _ _ _ => d0) c0 (by omega) w).mono ?_
        rintro e w' ⟨rfl, hw⟩; exact ⟨ret_f (by omega), hw⟩
      · refine (float_low_neg n m 0 (fun _ => 0) a 0 hn hmI hEz (by omega) f1 f2 rfl (fun c h1 h2 => by omega) (fun _ _ _ => d0) c0 (by omega) w).mono ?_
        rintro e w' ⟨rfl, hw⟩; exact ⟨ret_f (by omega), hw⟩
    · have hL : m.log2 < 23 := (Nat.log2_lt (by omega)).2 hm8
      have hV : ∀ c : Int, 1 ≤ c → c ≤ 127 → Fl.Nm (m * 2 ^ k) (-(k : Int) - 22 - c) := fun c h1 h2 => ⟨hnm.lo, hnm.hi, by omega, by omega⟩
      have hdv : ∀ c : Int, 1 ≤ c → c < 127 → Ieee.double.div (Fl.W (m * 2 ^ k) (-(k : Int) - 22 - c)) 4611686018427387904 = some (Fl.W (m * 2 ^ k) (-(k : Int) - 22 - (c + 1))) := fun c h1 h2 => by
        rw [Fl.half_W (hV c h1 (by omega)) (by omega)]; exact congrArg some (W_eq (by omega))
      have hcv : floatToFloatBits .f64 (Fl.W (m * 2 ^ k) (-(k : Int) - 22 - 127)) .f32 = some m := to32 (hV 127 (by omega) (by omega)) (by rw [show -(k : Int) - 22 - 127 = -(k : Int) - 149 by omega]; exact Fl.single_small hmp hm8 hl) (by omega)
      have hst : Fl.W (m * 2 ^ k) (-(k : Int) - 23) = (fun c : Int => Fl.W (m * 2 ^ k) (-(k : Int) - 22 - c)) 1 := W_eq (by omega)
      by_cases hs : n < 2147483648
      · refine (float_low_plus n m m (fun c => Fl.W (m * 2 ^ k) (-(k : Int) - 22 - c)) a _ hn hmI hEz hs f1 f2 hst (fun c h1 h2 => by omega) hdv hcv (by omega) w).mono ?_
        rintro e w' ⟨rfl, hw⟩; exact ⟨ret_f (by omega), hw⟩
      · refine (float_low_neg n m m (fun c => Fl.W (m * 2 ^ k) (-(k : Int) - 22 - c)) a _ hn hmI hEz (by omega) f1 f2 hst (fun c h1 h2 => by omega) hdv hcv (by omega) w).mono ?_
        rintro e w' ⟨rfl, hw⟩; exact ⟨ret_f (by omega), hw⟩
  · have hV : ∀ c : Int, 1 ≤ c → c ≤ 254 → Fl.Nm ((8388608 + m) * 536870912) (-52 + (n : Int) / 8388608 % 256 - c) := fun c h1 h2 => ⟨by omega, by omega, by omega, by omega⟩
    have hml : ∀ c : Int, 127 < c → c ≤ (n : Int) / 8388608 % 256 → Ieee.double.mul (Fl.W ((8388608 + m) * 536870912) (-52 + (n : Int) / 8388608 % 256 - c)) 4611686018427387904 = some (Fl.W ((8388608 + m) * 536870912) (-52 + (n : Int) / 8388608 % 256 - (c - 1))) := fun c h1 h2 => by
      rw [Fl.twice_W (hV c (by omega) (by omega)) (by omega)]; exact congrArg some (W_eq (by omega))
    have hdv : ∀ c : Int, 1 ≤ c → c < 127 → Ieee.double.div (Fl.W ((8388608 + m) * 536870912) (-52 + (n : Int) / 8388608 % 256 - c)) 4611686018427387904 = some (Fl.W ((8388608 + m) * 536870912) (-52 + (n : Int) / 8388608 % 256 - (c + 1))) := fun c h1 h2 => by
      rw [Fl.half_W (hV c h1 (by omega)) (by omega)]; exact congrArg some (W_eq (by omega))
    have hcv : floatToFloatBits .f64 (Fl.W ((8388608 + m) * 536870912) (-52 + (n : Int) / 8388608 % 256 - 127)) .f32 = some ((E - 1) * 8388608 + (8388608 + m)) := by
      refine to32 (hV 127 (by omega) (by omega)) ?_ (by omega)
      rw [hEI, show -52 + (E : Int) - 127 = (E : Int) - 179 by omega]
      exact Fl.single_normal (by omega) (by omega) (by omega) (by omega)
    have f3' : Ieee.double.add b 4607182418800017408 = some ((fun c : Int => Fl.W ((8388608 + m) * 536870912) (-52 + (n : Int) / 8388608 % 256 - c)) ((n : Int) / 8388608 % 256)) := by
      rw [f3]; exact congrArg some (W_eq (by omega))
    by_cases hs : n < 2147483648
    · refine (float_pos_plus n m ((E - 1) * 8388608 + (8388608 + m)) (fun c => Fl.W ((8388608 + m) * 536870912) (-52 + (n : Int) / 8388608 % 256 - c)) a b hn hmI (by omega) (by omega) hs f1 f2 f3' hml hdv hcv (by omega) w).mono ?_
      rintro e w' ⟨rfl, hw⟩; exact ⟨ret_f (by omega), hw⟩
    · refine (float_pos_neg n m ((E - 1) * 8388608 + (8388608 + m)) (fun c => Fl.W ((8388608 + m) * 536870912) (-52 + (n : Int) / 8388608 % 256 - c)) a b hn hmI (by omega) (by omega) (by omega) f1 f2 f3' hml hdv hcv (by omega) w).mono ?_
      rintro e w' ⟨rfl, hw⟩; exact ⟨ret_f (by omega), hw⟩
end Go.Proofs.Ytammnaafdhhjaaa
