import Derived.Test.YtammnaafdhhjaaaJF1
import Derived.Test.YtammnaafdhhjaaaW4
/- Ytammnaafdhhjaaa: the document's pattern of a float32. -/
namespace Go.Proofs.Ytammnaafdhhjaaa
open Go.RowKit
open Ieee (Datum)

theorem order0 (b : Nat) (h : b % 2147483648 < 2139095040) : FloatKind.f32.format.order b 0 = some (if b % 2147483648 = 0 then .eq else if b / 2147483648 % 2 == 1 then .lt else .gt) := by
  have hr : FloatKind.f32.format.read b = _ := Fl.read32 b h
  have h0 : FloatKind.f32.format.read 0 = .number false 0 (-149) := Fl.read32 0 (by decide)
  have hm : Fl.mOf (b % 2147483648) = 0 ↔ b % 2147483648 = 0 := by unfold Fl.mOf; split <;> omega
  unfold Ieee.Format.order
  rw [hr, h0]
  generalize Fl.pOf (b % 2147483648) = p
  generalize hM : Fl.mOf (b % 2147483648) = m at *
  simp only [Datum.order, Option.some.injEq]
  have hz : Ieee.signed false 0 (-149 - min p (-149)).toNat = 0 := by unfold Ieee.signed; simp
  rw [hz]
  by_cases hb : b % 2147483648 = 0
  · rw [if_pos hb]
    have : m = 0 := hm.2 hb
    subst this
    unfold Ieee.signed
    split <;> simp
  · rw [if_neg hb]
    have hm0 : 0 < m := Nat.pos_of_ne_zero (fun e => hb (hm.1 e))
    have hp := Nat.two_pow_pos (p - min p (-149)).toNat
    have hpos : 0 < m <<< (p - min p (-149)).toNat := by rw [Nat.shiftLeft_eq]; exact Nat.mul_pos hm0 hp
    unfold Ieee.signed
    cases hs : (b / 2147483648 % 2 == 1)
    · simp only [Bool.false_eq_true, if_false]
      rw [Int.compare_eq_gt]; omega
    · simp only [if_true]
      rw [Int.compare_eq_lt]; omega

/-- Against 2 and 1, halved, doubled: as the walk asks it. -/
theorem ge2_yes {q : Nat} {c : Int} (h : Fl.Nm q c) (hc : -51 ≤ c) : (FloatKind.f64.format.order (Fl.W q c) 4611686018427387904 == some .gt || FloatKind.f64.format.order (Fl.W q c) 4611686018427387904 == some .eq) = true := by
  have ho : FloatKind.f64.format.order (Fl.W q c) 4611686018427387904 = some (if c < -51 then .lt else if c = -51 ∧ q = 4503599627370496 then .eq else .gt) := by rw [Fl.two_W]; exact Fl.order_pow h ⟨by omega, by omega, by omega, by omega⟩
  rw [ho, if_neg (by omega)]
  split <;> rfl
theorem ge2_no {q : Nat} {c : Int} (h : Fl.Nm q c) (hc : c < -51) : (FloatKind.f64.format.order (Fl.W q c) 4611686018427387904 == some .gt || FloatKind.f64.format.order (Fl.W q c) 4611686018427387904 == some .eq) = false := by
  have ho : FloatKind.f64.format.order (Fl.W q c) 4611686018427387904 = some (if c < -51 then .lt else if c = -51 ∧ q = 4503599627370496 then .eq else .gt) := by rw [Fl.two_W]; exact Fl.order_pow h ⟨by omega, by omega, by omega, by omega⟩
  rw [ho, if_pos (by omega)]
  rfl
theorem lt1_yes {q : Nat} {c : Int} (h : Fl.Nm q c) (hc : c < -52) : (FloatKind.f64.format.order (Fl.W q c) 4607182418800017408 == some .lt) = true := by
  have ho : FloatKind.f64.format.order (Fl.W q c) 4607182418800017408 = some (if c < -52 then .lt else if c = -52 ∧ q = 4503599627370496 then .eq else .gt) := by rw [Fl.one_W]; exact Fl.order_pow h ⟨by omega, by omega, by omega, by omega⟩
  rw [ho, if_pos (by omega)]
  rfl
theorem lt1_no {q : Nat} {c : Int} (h : Fl.Nm q c) (hc : -52 ≤ c) : (FloatKind.f64.format.order (Fl.W q c) 4607182418800017408 == some .lt) = false := by
  have ho : FloatKind.f64.format.order (Fl.W q c) 4607182418800017408 = some (if c < -52 then .lt else if c = -52 ∧ q = 4503599627370496 then .eq else .gt) := by rw [Fl.one_W]; exact Fl.order_pow h ⟨by omega, by omega, by omega, by omega⟩
  rw [ho, if_neg (by omega)]
  split <;> rfl
theorem run_half {q : Nat} {c : Int} (h : Fl.Nm q c) (hc : -1073 ≤ c) (w : World) : (binOp .quo 119 (.float .f64 (Fl.W q c)) (.float .f64 4611686018427387904)).run Try.prog w = .ok (.float .f64 (Fl.W q (c - 1))) w :=
  run_float_arith w .quo _ .f64 _ _ _ (Fl.half_W h hc)
theorem run_twice {q : Nat} {c : Int} (h : Fl.Nm q c) (hc : c ≤ 970) (w : World) : (binOp .mul 119 (.float .f64 (Fl.W q c)) (.float .f64 4611686018427387904)).run Try.prog w = .ok (.float .f64 (Fl.W q (c + 1))) w :=
  run_float_arith w .mul _ .f64 _ _ _ (Fl.twice_W h hc)
theorem run_neg32 (b : Nat) (h0 : 2147483648 ≤ b) (h1 : b < 4294967296) (w : World) : (Op.unary .neg (.float .f32 b)).run Try.prog w = .ok (.float .f32 (b - 2147483648)) w := by
  have e : Op.negFloat .f32 b = b - 2147483648 := by
    obtain ⟨r, rfl⟩ : ∃ r, b = 2 ^ 31 + r := ⟨b - 2147483648, by omega⟩
    have hr : r < 2 ^ 31 := by omega
    show (2 ^ 31 + r) ^^^ 2 ^ 31 = 2 ^ 31 + r - 2147483648
    rw [show 2 ^ 31 + r - 2147483648 = r by omega]
    apply Nat.eq_of_testBit_eq
    intro i
    rw [Nat.testBit_xor, Nat.testBit_two_pow]
    rcases Nat.lt_trichotomy i 31 with h | h | h
    · rw [Nat.testBit_two_pow_add_gt h, show decide (31 = i) = false from decide_eq_false (by omega), Bool.xor_false]
    · subst h
      rw [Nat.testBit_two_pow_add_eq, Nat.testBit_lt_two_pow hr]; rfl
    · have h2 : 2 ^ 31 + r < 2 ^ i := by
        have : 2 ^ 32 ≤ 2 ^ i := Nat.pow_le_pow_right (by decide) h
        omega
      have h3 : r < 2 ^ i := by omega
      rw [Nat.testBit_lt_two_pow h2, Nat.testBit_lt_two_pow h3, show decide (31 = i) = false from decide_eq_false (by omega)]; rfl
  show Result.ok (Value.float .f32 (Op.negFloat .f32 b)) w = _
  rw [e]
theorem run_to64 (r q : Nat) (e : Int) (h0 : r < 2139095040) (hn : Fl.Nm q e) (hw : Ieee.double.write (.number false (Fl.mOf r) (Fl.pOf r)) = Fl.W q e) (w : World) : (convert 24 119 (.float .f32 r)).run Try.prog w = .ok (.float .f64 (Fl.W q e)) w := by
  refine run_convert_float_float w 24 119 .f32 .f64 r _ (by rw [Try.underlying24]; rfl) Try.underlying119 ?_
  have hm : r % 2147483648 = r := by omega
  have hd : FloatKind.f32.decode r = .number false (Fl.mOf r) (Fl.pOf r) := by
    have := Fl.read32 r (by omega)
    rw [hm] at this
    have hs : (r / 2147483648 % 2 == 1) = false := by
      have : r / 2147483648 = 0 := by omega
      rw [this]; rfl
    rw [hs] at this
    exact this
  have he : FloatKind.f64.encode (.number false (Fl.mOf r) (Fl.pOf r)) = Fl.W q e := hw
  have hdd : FloatKind.f64.decode (Fl.W q e) = .number false q e := Fl.read_W hn
  unfold floatToFloatBits
  rw [if_neg (by decide), hd]
  show (if (FloatKind.f64.decode (FloatKind.f64.encode (.number false (Fl.mOf r) (Fl.pOf r)))).isInfinity then none else some (FloatKind.f64.encode (.number false (Fl.mOf r) (Fl.pOf r)))) = _
  rw [he, hdd]
  rfl
end Go.Proofs.Ytammnaafdhhjaaa

/- Ytammnaafdhhjaaa: the pattern, walked. -/
namespace Go.Proofs.Ytammnaafdhhjaaa
open Go.RowKit

set_option maxHeartbeats 2000000 in
set_option maxRecDepth 100000 in
theorem pattern_pos_normal (r : Nat) (h0 : 8388608 ≤ r) (h1 : r < 2139095040) (w : World) :
    Calls Try.prog 67 #[.float .f32 r] w fun e w' => e = .returned (.int .i64 ((r : Int) + 0)) ∧ w' = w := by
  obtain ⟨e0, q, hn, hw, hlo, hhi, hres⟩ := Fl.pattern_normal r h0 h1
  have hcv := run_to64 r q e0 (by omega) hn hw
  have ord : FloatKind.f32.format.order r 0 = some .gt := by
    rw [order0 r (by omega), if_neg (by omega)]
    have : r / 2147483648 = 0 := by omega
    rw [this]; rfl
  have HR := Hid.mk' hres
  clear hw hres
  go_enter Try.func67, Try.ntmps67
  go_wp2
  go_loop [4, 5] (fun v i => ∃ c : Int, v = .float .f64 (Fl.W q c) ∧ i = .int .i64 (e0 - c) ∧ c ≤ e0 ∧ (c = e0 ∨ -52 ≤ c)) (fun _ i => (e0 + 60 - intOf i).toNat)
  case atStart => exact ⟨e0, rfl, by rw [Int.sub_self], by omega, .inl rfl⟩
  case round =>
    obtain ⟨c, rfl, rfl, hc, hcc⟩ := hrel
    have hnc : Fl.Nm q c := ⟨hn.lo, hn.hi, by have := hn.least; omega, by have := hn.most; omega⟩
    by_cases h2 : -51 ≤ c
    · have g1 := ge2_yes hnc h2
      have g2 := run_half hnc (by omega)
      go_wp2
      go_round
      case rel => exact ⟨c - 1, rfl, by go_num, by omega, .inr (by omega)⟩
      case measure => simp [intOf]; omega
    · have g1 := ge2_no hnc (by omega)
      clear hcv
      go_wp2
      go_loop [4, 5] (fun v i => ∃ d : Int, v = .float .f64 (Fl.W q d) ∧ i = .int .i64 (e0 - d) ∧ c ≤ d ∧ d ≤ -52 ∧ -126 ≤ e0 - d) (fun _ i => (intOf i + 200).toNat)
      case atStart => exact ⟨c, rfl, rfl, by omega, by omega, by omega⟩
      case round =>
        obtain ⟨d, rfl, rfl, hd, hd2, hd3⟩ := hrel
        have hnd : Fl.Nm q d := ⟨hn.lo, hn.hi, by have := hnc.least; omega, by omega⟩
        clear g1
        by_cases h3 : d < -52
        · have l1 := lt1_yes hnd h3
          by_cases h4 : -126 < e0 - d
          · have g2 := run_twice hnd (by omega)
            have h4' : decide (-126 < e0 - d) = true := by simp; omega
            go_wp2
            go_round
            case rel => exact ⟨d + 1, rfl, by go_num, by omega, by omega, by omega⟩
            case measure => simp [intOf]; omega
          · exfalso; omega
        · have hd52 : d = -52 := by omega
          subst hd52
          have l1 := lt1_no hnd (by omega)
          obtain ⟨fa, fb, s1, s2, s3⟩ := Fl.frac_W hnd
          have k1 := fun w => run_float_arith (P := Try.prog) w .sub 119 .f64 _ _ _ s1
          have k2 := fun w => run_float_arith (P := Try.prog) w .mul 119 .f64 _ _ _ s2
          have k3 := fun w => run_convert_float_int (P := Try.prog) w 119 3 .f64 .i64 fb _ (by rw [Try.underlying119]; rfl) Try.underlying3 s3
          clear s1 s2 s3
          have hzl : (q - 4503599627370496) / 536870912 < 8388608 := by have := hn.lo; have := hn.hi; omega
          generalize (q - 4503599627370496) / 536870912 = z at *
          go_wp2
          go_ret
          refine ⟨ret_int ?_, rfl⟩
          have := HR.out
          omega

set_option maxHeartbeats 2000000 in
set_option maxRecDepth 100000 in
theorem pattern_pos_small (r : Nat) (h0 : 0 < r) (h1 : r < 8388608) (w : World) :
    Calls Try.prog 67 #[.float .f32 r] w fun e w' => e = .returned (.int .i64 ((r : Int) + 0)) ∧ w' = w := by
  obtain ⟨e0, q, hn, hw, hlo, hhi, hres⟩ := Fl.pattern_small r h0 h1
  have hcv := run_to64 r q e0 (by omega) hn hw
  have ord : FloatKind.f32.format.order r 0 = some .gt := by
    rw [order0 r (by omega), if_neg (by omega)]
    have : r / 2147483648 = 0 := by omega
    rw [this]; rfl
  have HR := Hid.mk' hres
  clear hw hres
  go_enter Try.func67, Try.ntmps67
  go_wp2
  go_loop [4, 5] (fun v i => ∃ c : Int, v = .float .f64 (Fl.W q c) ∧ i = .int .i64 (e0 - c) ∧ c ≤ e0 ∧ (c = e0 ∨ -52 ≤ c)) (fun _ i => (e0 + 60 - intOf i).toNat)
  case atStart => exact ⟨e0, rfl, by rw [Int.sub_self], by omega, .inl rfl⟩
  case round =>
    obtain ⟨c, rfl, rfl, hc, hcc⟩ := hrel
    have hnc : Fl.Nm q c := ⟨hn.lo, hn.hi, by have := hn.least; omega, by have := hn.most; omega⟩
    by_cases h2 : -51 ≤ c
    · have g1 := ge2_yes hnc h2
      have g2 := run_half hnc (by omega)
      go_wp2
      go_round
      case rel => exact ⟨c - 1, rfl, by go_num, by omega, .inr (by omega)⟩
      case measure => simp [intOf]; omega
    · have g1 := ge2_no hnc (by omega)
      clear hcv
      go_wp2
      go_loop [4, 5] (fun v i => ∃ d : Int, v = .float .f64 (Fl.W q d) ∧ i = .int .i64 (e0 - d) ∧ c ≤ d ∧ d ≤ -52 ∧ -126 ≤ e0 - d) (fun _ i => (intOf i + 200).toNat)
      case atStart => exact ⟨c, rfl, rfl, by omega, by omega, by omega⟩
      case round =>
        obtain ⟨d, rfl, rfl, hd, hd2, hd3⟩ := hrel
        have hnd : Fl.Nm q d := ⟨hn.lo, hn.hi, by have := hnc.least; omega, by omega⟩
        clear g1
        by_cases h3 : d < -52
        · have l1 := lt1_yes hnd h3
          by_cases h4 : -126 < e0 - d
          · have g2 := run_twice hnd (by omega)
            have h4' : decide (-126 < e0 - d) = true := by simp; omega
            go_wp2
            go_round
            case rel => exact ⟨d + 1, rfl, by go_num, by omega, by omega, by omega⟩
            case measure => simp [intOf]; omega
          · have hd6 : d = e0 + 126 := by omega
            have h4' : decide (-126 < e0 - d) = false := by simp; omega
            have s1 := Fl.mul_pow (c := -29) hnd ⟨by omega, by omega, by omega, by omega⟩ (by omega) (by omega)
            rw [← Fl.big_W] at s1
            have hn3 : Fl.Nm q (d + -29 + 52) := ⟨hn.lo, hn.hi, by omega, by omega⟩
            have s3 := Fl.toInt_W hn3 (by omega)
            have hzr : q / 2 ^ (-(d + -29 + 52)).toNat = r := by
              have := HR.out
              rw [show d + -29 + 52 = e0 + 126 + 23 by omega]; exact this
            rw [hzr] at s3
            have k1 := fun w => run_float_arith (P := Try.prog) w .mul 119 .f64 _ _ _ s1
            have k3 := fun w => run_convert_float_int (P := Try.prog) w 119 3 .f64 .i64 _ _ (by rw [Try.underlying119]; rfl) Try.underlying3 s3
            clear s1 s3 hzr hd6
            go_wp2
            go_ret
            refine ⟨ret_int ?_, rfl⟩
            omega
        · have hd52 : d = -52 := by omega
          exfalso; omega

set_option maxHeartbeats 2000000 in
set_option maxRecDepth 100000 in
theorem pattern_neg_normal (r : Nat) (h0 : 8388608 ≤ r) (h1 : r < 2139095040) (w : World) :
    Calls Try.prog 67 #[.float .f32 (r + 2147483648)] w fun e w' => e = .returned (.int .i64 ((r : Int) + 2147483648)) ∧ w' = w := by
  obtain ⟨e0, q, hn, hw, hlo, hhi, hres⟩ := Fl.pattern_normal r h0 h1
  have hcv := run_to64 r q e0 (by omega) hn hw
  have ord : FloatKind.f32.format.order r 0 = some .gt := by
    rw [order0 r (by omega), if_neg (by omega)]
    have : r / 2147483648 = 0 := by omega
    rw [this]; rfl
  have ordb : FloatKind.f32.format.order (r + 2147483648) 0 = some .lt := by
    rw [order0 _ (by omega), if_neg (by omega)]
    have : (r + 2147483648) / 2147483648 = 1 := by omega
    rw [this]; rfl
  have hng := run_neg32 (r + 2147483648) (by omega) (by omega)
  rw [Nat.add_sub_cancel] at hng
  have HR := Hid.mk' hres
  clear hw hres
  go_enter Try.func67, Try.ntmps67
  go_wp2
  go_loop [4, 5] (fun v i => ∃ c : Int, v = .float .f64 (Fl.W q c) ∧ i = .int .i64 (e0 - c) ∧ c ≤ e0 ∧ (c = e0 ∨ -52 ≤ c)) (fun _ i => (e0 + 60 - intOf i).toNat)
  case atStart => exact ⟨e0, rfl, by rw [Int.sub_self], by omega, .inl rfl⟩
  case round =>
    obtain ⟨c, rfl, rfl, hc, hcc⟩ := hrel
    have hnc : Fl.Nm q c := ⟨hn.lo, hn.hi, by have := hn.least; omega, by have := hn.most; omega⟩
    by_cases h2 : -51 ≤ c
    · have g1 := ge2_yes hnc h2
      have g2 := run_half hnc (by omega)
      go_wp2
      go_round
      case rel => exact ⟨c - 1, rfl, by go_num, by omega, .inr (by omega)⟩
      case measure => simp [intOf]; omega
    · have g1 := ge2_no hnc (by omega)
      clear hcv
      go_wp2
      go_loop [4, 5] (fun v i => ∃ d : Int, v = .float .f64 (Fl.W q d) ∧ i = .int .i64 (e0 - d) ∧ c ≤ d ∧ d ≤ -52 ∧ -126 ≤ e0 - d) (fun _ i => (intOf i + 200).toNat)
      case atStart => exact ⟨c, rfl, rfl, by omega, by omega, by omega⟩
      case round =>
        obtain ⟨d, rfl, rfl, hd, hd2, hd3⟩ := hrel
        have hnd : Fl.Nm q d := ⟨hn.lo, hn.hi, by have := hnc.least; omega, by omega⟩
        clear g1
        by_cases h3 : d < -52
        · have l1 := lt1_yes hnd h3
          by_cases h4 : -126 < e0 - d
          · have g2 := run_twice hnd (by omega)
            have h4' : decide (-126 < e0 - d) = true := by simp; omega
            go_wp2
            go_round
            case rel => exact ⟨d + 1, rfl, by go_num, by omega, by omega, by omega⟩
            case measure => simp [intOf]; omega
          · exfalso; omega
        · have hd52 : d = -52 := by omega
          subst hd52
          have l1 := lt1_no hnd (by omega)
          obtain ⟨fa, fb, s1, s2, s3⟩ := Fl.frac_W hnd
          have k1 := fun w => run_float_arith (P := Try.prog) w .sub 119 .f64 _ _ _ s1
          have k2 := fun w => run_float_arith (P := Try.prog) w .mul 119 .f64 _ _ _ s2
          have k3 := fun w => run_convert_float_int (P := Try.prog) w 119 3 .f64 .i64 fb _ (by rw [Try.underlying119]; rfl) Try.underlying3 s3
          clear s1 s2 s3
          have hzl : (q - 4503599627370496) / 536870912 < 8388608 := by have := hn.lo; have := hn.hi; omega
          generalize (q - 4503599627370496) / 536870912 = z at *
          go_wp2
          go_ret
          refine ⟨ret_int ?_, rfl⟩
          have := HR.out
          omega

set_option maxHeartbeats 2000000 in
set_option maxRecDepth 100000 in
theorem pattern_neg_small (r : Nat) (h0 : 0 < r) (h1 : r < 8388608) (w : World) :
    Calls Try.prog 67 #[.float .f32 (r + 2147483648)] w fun e w' => e = .returned (.int .i64 ((r : Int) + 2147483648)) ∧ w' = w := by
  obtain ⟨e0, q, hn, hw, hlo, hhi, hres⟩ := Fl.pattern_small r h0 h1
  have hcv := run_to64 r q e0 (by omega) hn hw
  have ord : FloatKind.f32.format.order r 0 = some .gt := by
    rw [order0 r (by omega), if_neg (by omega)]
    have : r / 2147483648 = 0 := by omega
    rw [this]; rfl
  have ordb : FloatKind.f32.format.order (r + 2147483648) 0 = some .lt := by
    rw [order0 _ (by omega), if_neg (by omega)]
    have : (r + 2147483648) / 2147483648 = 1 := by omega
    rw [this]; rfl
  have hng := run_neg32 (r + 2147483648) (by omega) (by omega)
  rw [Nat.add_sub_cancel] at hng
  have HR := Hid.mk' hres
  clear hw hres
  go_enter Try.func67, Try.ntmps67
  go_wp2
  go_loop [4, 5] (fun v i => ∃ c : Int, v = .float .f64 (Fl.W q c) ∧ i = .int .i64 (e0 - c) ∧ c ≤ e0 ∧ (c = e0 ∨ -52 ≤ c)) (fun _ i => (e0 + 60 - intOf i).toNat)
  case atStart => exact ⟨e0, rfl, by rw [Int.sub_self], by omega, .inl rfl⟩
  case round =>
    obtain ⟨c, rfl, rfl, hc, hcc⟩ := hrel
    have hnc : Fl.Nm q c := ⟨hn.lo, hn.hi, by have := hn.least; omega, by have := hn.most; omega⟩
    by_cases h2 : -51 ≤ c
    · have g1 := ge2_yes hnc h2
      have g2 := run_half hnc (by omega)
      go_wp2
      go_round
      case rel => exact ⟨c - 1, rfl, by go_num, by omega, .inr (by omega)⟩
      case measure => simp [intOf]; omega
    · have g1 := ge2_no hnc (by omega)
      clear hcv
      go_wp2
      go_loop [4, 5] (fun v i => ∃ d : Int, v = .float .f64 (Fl.W q d) ∧ i = .int .i64 (e0 - d) ∧ c ≤ d ∧ d ≤ -52 ∧ -126 ≤ e0 - d) (fun _ i => (intOf i + 200).toNat)
      case atStart => exact ⟨c, rfl, rfl, by omega, by omega, by omega⟩
      case round =>
        obtain ⟨d, rfl, rfl, hd, hd2, hd3⟩ := hrel
        have hnd : Fl.Nm q d := ⟨hn.lo, hn.hi, by have := hnc.least; omega, by omega⟩
        clear g1
        by_cases h3 : d < -52
        · have l1 := lt1_yes hnd h3
          by_cases h4 : -126 < e0 - d
          · have g2 := run_twice hnd (by omega)
            have h4' : decide (-126 < e0 - d) = true := by simp; omega
            go_wp2
            go_round
            case rel => exact ⟨d + 1, rfl, by go_num, by omega, by omega, by omega⟩
            case measure => simp [intOf]; omega
          · have hd6 : d = e0 + 126 := by omega
            have h4' : decide (-126 < e0 - d) = false := by simp; omega
            have s1 := Fl.mul_pow (c := -29) hnd ⟨by omega, by omega, by omega, by omega⟩ (by omega) (by omega)
            rw [← Fl.big_W] at s1
            have hn3 : Fl.Nm q (d + -29 + 52) := ⟨hn.lo, hn.hi, by omega, by omega⟩
            have s3 := Fl.toInt_W hn3 (by omega)
            have hzr : q / 2 ^ (-(d + -29 + 52)).toNat = r := by
              have := HR.out
              rw [show d + -29 + 52 = e0 + 126 + 23 by omega]; exact this
            rw [hzr] at s3
            have k1 := fun w => run_float_arith (P := Try.prog) w .mul 119 .f64 _ _ _ s1
            have k3 := fun w => run_convert_float_int (P := Try.prog) w 119 3 .f64 .i64 _ _ (by rw [Try.underlying119]; rfl) Try.underlying3 s3
            clear s1 s3 hzr hd6
            go_wp2
            go_ret
            refine ⟨ret_int ?_, rfl⟩
            omega
        · have hd52 : d = -52 := by omega
          exfalso; omega
end Go.Proofs.Ytammnaafdhhjaaa
