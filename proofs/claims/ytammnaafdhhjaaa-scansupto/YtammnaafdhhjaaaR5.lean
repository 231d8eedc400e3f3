/- Ytammnaafdhhjaaa: which Bases may be, by the document. -/
import Derived.Test.YtammnaafdhhjaaaJR3
import Derived.Test.YtammnaafdhhjaaaW9
import Derived.BigQuiet
namespace Go.Proofs.Ytammnaafdhhjaaa
open Go.RowKit

theorem may0 (n : Int) (b : Bool) (w : World) (h : isN n = b) :
    Calls Try.prog 44 #[.int .i64 n, .int .i64 0] w fun e w' => e = .returned (.bool b) ∧ w' = w := by
  subst h
  exact refMay_any n 0 w

set_option maxHeartbeats 1000000 in
theorem base_no1 (K s : Int) (i : It) (m : Mk) (ai ao : Option Addr) (ni ci no co : Nat) (w : World) (hm : mkB m = false) :
    Calls Try.prog 45 #[rv K s i m (.slice ai ni ci) (.slice ao no co)] w fun e w' => e = .returned (.bool false) ∧ w.grownBy w' none := by
  obtain ⟨a, b, c, d, f⟩ := m
  unfold rv
  cases h1 : isN a
  · go_enter Try.func45, Try.ntmps45
    go_wp2_with (first | (go_at_call 44; refine (may0 _ _ _ (by assumption)).mono ?_; rintro e w' ⟨rfl, rfl⟩))
    go_ret
    exact ⟨rfl, grownBy_alloc' (World.grownBy_alloc _ _ _) _⟩
  · cases h2 : isN b
    · go_enter Try.func45, Try.ntmps45
      go_wp2_with (first | (go_at_call 44; refine (may0 _ _ _ (by assumption)).mono ?_; rintro e w' ⟨rfl, rfl⟩))
      go_ret
      exact ⟨rfl, grownBy_alloc' (World.grownBy_alloc _ _ _) _⟩
    · cases h3 : isN c
      · go_enter Try.func45, Try.ntmps45
        go_wp2_with (first | (go_at_call 44; refine (may0 _ _ _ (by assumption)).mono ?_; rintro e w' ⟨rfl, rfl⟩))
        go_ret
        exact ⟨rfl, grownBy_alloc' (World.grownBy_alloc _ _ _) _⟩
      · cases h4 : isN d
        · go_enter Try.func45, Try.ntmps45
          go_wp2_with (first | (go_at_call 44; refine (may0 _ _ _ (by assumption)).mono ?_; rintro e w' ⟨rfl, rfl⟩))
          go_ret
          exact ⟨rfl, grownBy_alloc' (World.grownBy_alloc _ _ _) _⟩
        · cases h5 : isN f
          · go_enter Try.func45, Try.ntmps45
            go_wp2_with (first | (go_at_call 44; refine (may0 _ _ _ (by assumption)).mono ?_; rintro e w' ⟨rfl, rfl⟩))
            go_ret
            exact ⟨rfl, grownBy_alloc' (World.grownBy_alloc _ _ _) _⟩
          · simp [mkB, h1, h2, h3, h4, h5] at hm

theorem ahead_held (a b c d : Int) (w : World) (h1 : 0 ≤ a) (h2 : a ≤ 1) (h3 : 1 ≤ b) (h4 : b ≤ 65535) (k1 : 0 ≤ c) (k2 : c ≤ 1) (k3 : 1 ≤ d) (k4 : d ≤ 65535) (p0 p1 p2 p3 p4 : Addr) (v0 v1 v2 v3 v4 : Value) (h : w.cell? p0 = some v0 ∧ w.cell? p1 = some v1 ∧ w.cell? p2 = some v2 ∧ w.cell? p3 = some v3 ∧ w.cell? p4 = some v4) :
    Calls Try.prog 69 #[.agg #[.int .i64 a, .int .i64 b], .agg #[.int .i64 c, .int .i64 d]] w fun e w' => e = .returned (.bool (decide (cmpID a b c d < 0))) ∧ w.grownBy w' none ∧ w'.cell? p0 = some v0 ∧ w'.cell? p1 = some v1 ∧ w'.cell? p2 = some v2 ∧ w'.cell? p3 = some v3 ∧ w'.cell? p4 = some v4 := by
  refine (ahead_any a b c d w h1 h2 h3 h4 k1 k2 k3 k4).mono ?_
  rintro e w' ⟨he, g⟩
  exact ⟨he, g, g.cell h.1 (by simp), g.cell h.2.1 (by simp), g.cell h.2.2.1 (by simp), g.cell h.2.2.2.1 (by simp), g.cell h.2.2.2.2 (by simp)⟩

theorem over_of {a b : Nat} (h : ¬ (a ≤ 16 ∧ b ≤ 8)) : 16 < a ∨ 8 < b := by omega
theorem and2 {a b : Prop} [Decidable a] [Decidable b] (h : (decide a && decide b) = true) : a ∧ b := by simpa using h
theorem e_no (l sq : Int) (it : It) (t : Bool) (h : (decide (1 ≤ sq) && decide (sq ≤ 65535)) = false) (hl : 0 ≤ l) : (decide (l < sq) && isN sq && itB it && t) = false := by
  rw [Bool.eq_false_iff]
  intro hh
  simp only [Bool.and_eq_true, decide_eq_true_eq, isN] at hh
  have : (decide (1 ≤ sq) && decide (sq ≤ 65535)) = true := by simp only [Bool.and_eq_true, decide_eq_true_eq]; omega
  rw [this] at h
  exact absurd h (by decide)
theorem e_yes (l sq : Int) (it : It) (t : Bool) (hl : l < sq) (h : 1 ≤ sq ∧ sq ≤ 65535) (hb : itB it = true) : (decide (l < sq) && isN sq && itB it && t) = t := by
  rw [decide_eq_true hl, hb, isN, decide_eq_true (by omega), decide_eq_true (by omega)]; rfl
def lastq (es : List En) (k : Nat) : Int := if h : 0 < k ∧ k ≤ es.length then (es[k - 1]'(by omega)).sq else 0
theorem lastq_succ (es : List En) (k : Nat) (h : k < es.length) : lastq es (k + 1) = es[k].sq := by unfold lastq; rw [dif_pos ⟨by omega, by omega⟩]; rfl
theorem may1 (n : Int) (b : Bool) (w : World) (h : (decide (1 ≤ n) && decide (n ≤ 65535)) = b) :
    Calls Try.prog 44 #[.int .i64 n, .int .i64 1] w fun e w' => e = .returned (.bool b) ∧ w' = w := by
  subst h
  exact refMay_any n 1 w

set_option maxHeartbeats 4000000 in
set_option maxRecDepth 100000 in
theorem base_yes (K s : Int) (i : It) (m : Mk) (is : List It) (es : List En) (vi vo : Value) (w : World) (hm : mkB m = true) (hi : LiesI w vi is) (ho : LiesE w vo es) (hn : is.length ≤ 16) (ho8 : es.length ≤ 8) :
    Calls Try.prog 45 #[rv K s i m vi vo] w fun e w' => e = .returned (.bool (chk none is && chkE 0 es)) ∧ w.grownBy w' none := by
  obtain ⟨a, b, c, d, f⟩ := m
  have h1 : isN a = true ∧ isN b = true ∧ isN c = true ∧ isN d = true ∧ isN f = true := by simpa [mkB, and_assoc] using hm
  obtain ⟨h1, h2, h3, h4, h5⟩ := h1
  clear hm
  obtain ⟨ai, ci, rfl, hxi⟩ := hi
  obtain ⟨ao, co, rfl, hxo⟩ := ho
  unfold rv
  have HI := Hid.mk' hxi
  have HO := Hid.mk' hxo
  clear hxi hxo
  obtain ⟨n, hL⟩ : ∃ n, is.length = n := ⟨_, rfl⟩
  obtain ⟨no, hLo⟩ : ∃ n, es.length = n := ⟨_, rfl⟩
  rw [hL] at hn ⊢
  rw [hLo] at ho8 ⊢
  have HL : Hid (is.length = n) := hL
  have HLo : Hid (es.length = no) := hLo
  clear hL hLo
  have g16 : decide ((16 : Int) < (n : Int)) = false := by simp; omega
  have g8 : decide ((8 : Int) < (no : Int)) = false := by simp; omega
  go_enter Try.func45, Try.ntmps45
  go_wp2_with (first | (go_at_call 44; refine (may0 _ _ _ (by assumption)).mono ?_; rintro e w' ⟨rfl, rfl⟩))
  have W0 := Hid.mk' (grownBy_alloc' (World.grownBy_alloc w (.cells #[.int .i64 K, .int .i64 s, .int .i64 i.sh, .int .i64 i.nu, .float .f32 i.pl, .float .f32 i.sp, .int .i64 a, .int .i64 b, .int .i64 c, .int .i64 d, .int .i64 f, .slice ai n ci, .slice ao no co] 32) none) (.cells #[.int .i64 a, .int .i64 b, .int .i64 c, .int .i64 d, .int .i64 f] 28))
  have k11 : ∀ w', ((w.alloc (.cells #[.int .i64 K, .int .i64 s, .int .i64 i.sh, .int .i64 i.nu, .float .f32 i.pl, .float .f32 i.sp, .int .i64 a, .int .i64 b, .int .i64 c, .int .i64 d, .int .i64 f, .slice ai n ci, .slice ao no co] 32)).alloc (.cells #[.int .i64 a, .int .i64 b, .int .i64 c, .int .i64 d, .int .i64 f] 28)).grownBy w' none → w'.cell? ⟨w.heap.size, 11, none⟩ = some (.slice ai n ci) ∧ w'.cell? ⟨w.heap.size, 12, none⟩ = some (.slice ao no co) := fun w' g => ⟨g.cell (by go_simp) (by simp), g.cell (by go_simp) (by simp)⟩
  generalize ((w.alloc (.cells #[.int .i64 K, .int .i64 s, .int .i64 i.sh, .int .i64 i.nu, .float .f32 i.pl, .float .f32 i.sp, .int .i64 a, .int .i64 b, .int .i64 c, .int .i64 d, .int .i64 f, .slice ai n ci, .slice ao no co] 32)).alloc (.cells #[.int .i64 a, .int .i64 b, .int .i64 c, .int .i64 d, .int .i64 f] 28)) = w0 at *
  go_loopw [5] (fun v wr => ∃ k : Nat, k ≤ n ∧ v = .int .i64 k ∧ w0.grownBy wr none ∧ chk none is = chk (prev is k) (is.drop k) ∧ ∀ q, prev is k = some q → itB q = true) (fun v _ => n - (intOf v).toNat)
  case atStart => exact ⟨0, by omega, rfl, grownBy_refl _ _, by simp [prev], by simp [prev]⟩
  case round =>
    obtain ⟨k, hk, rfl, gk, hck, hpv⟩ := hrel
    have HK : Hid (chk none is = chk (prev is k) (is.drop k)) := hck
    have HP := Hid.mk' hpv
    clear hck hpv
    obtain ⟨r11, r12⟩ := k11 _ gk
    have GK := Hid.mk' gk
    clear gk
    by_cases hlt : k < n
    · have hkl : k < is.length := by rw [HL.out]; exact hlt
      have HA := Hid.mk' (chk_at (prev is k) is k hkl)
      obtain ⟨x, hx⟩ : ∃ x, is[k] = x := ⟨_, rfl⟩
      rw [hx] at HA
      obtain ⟨g, off, rfl, hc⟩ := HI.out (by omega)
      have dd : ∀ (e : Nat) (he : e < is.length) j (hj : j < 4) u, (is[e]).cells[j]? = some u → wr.cell? ⟨g, off + e * 4 + j, none⟩ = some u := fun e he j hj u hu => by
        have := hc (4 * e + j) u (by rw [flat_at4 is e j he hj]; exact hu)
        rw [show off + (4 * e + j) = off + e * 4 + j by omega] at this
        exact (W0.out.trans GK.out).cell this (by simp)
      clear hc
      have DD := Hid.mk' dd
      clear dd
      have d0 := DD.out k hkl 0 (by omega) _ rfl
      have d1 := DD.out k hkl 1 (by omega) _ rfl
      have d2 := DD.out k hkl 2 (by omega) _ rfl
      have d3 := DD.out k hkl 3 (by omega) _ rfl
      rw [hx] at d0 d1 d2 d3
      rw [Nat.add_zero] at d0
      go_wp2_with fail
      refine (refThing_any x _).mono ?_
      rintro e w1 ⟨rfl, g1⟩
      obtain ⟨s11, s12⟩ := k11 _ (GK.out.trans g1)
      have G1 := Hid.mk' (GK.out.trans g1)
      cases hb : itB x
      · go_wp2_with fail
        go_ret
        exact ⟨ret_bool (by rw [HK.out, HA.out, hb]; rfl), W0.out.trans G1.out⟩
      · by_cases hk0 : k = 0
        · subst hk0
          go_wp2_with fail
          refine ⟨⟨1, by omega, rfl, G1.out, ?_, ?_⟩, by simp [intOf]; omega⟩
          · rw [HK.out, HA.out, hb, prev_succ is 0 hkl, hx]; simp [prev, prevOk]
          · rw [prev_succ is 0 hkl, hx]; intro q hq; injection hq with hq; rw [← hq]; exact hb
        · obtain ⟨m, rfl⟩ : ∃ m, k = m + 1 := ⟨k - 1, by omega⟩
          obtain ⟨q, hq⟩ : ∃ q, is[m]'(by omega) = q := ⟨_, rfl⟩
          have hp : Hid (prev is (m + 1) = some q) := by show prev is (m + 1) = some q; rw [← hq]; simp [prev]; omega
          have hqi := idB_ok (by have := HP.out q hp.out; simp [itB] at this; exact this.1.1 : idB q.sh q.nu = true)
          have hxi := idB_ok (by have := hb; simp [itB] at this; exact this.1.1 : idB x.sh x.nu = true)
          have q0 := g1.cell (DD.out m (by omega) 0 (by omega) _ rfl) (by simp)
          have q1 := g1.cell (DD.out m (by omega) 1 (by omega) _ rfl) (by simp)
          have e0 := g1.cell d0 (by simp)
          have e1 := g1.cell d1 (by simp)
          rw [hq] at q0 q1
          rw [Nat.add_zero] at q0
          rw [Int.natCast_succ]
          have y2 : m < n := by omega
          have y1 : (m : Int) < (n : Int) := by omega
          have y0 : (0 : Int) ≤ (m : Int) := by omega
          have y3 : IntKind.i64.wrap (m : Int) = (m : Int) := by simp [IntKind.wrap, IntKind.bits, IntKind.signed]; omega
          have y4 : wrap64 (m : Int) = (m : Int) := by simp [wrap64]; omega
          have y5 : IntKind.i64.wrap ((m : Int) + 1 - 1) = (m : Int) := by rw [Int.add_sub_cancel]; exact y3
          have y6 : wrap64 ((m : Int) + 1 - 1) = (m : Int) := by rw [Int.add_sub_cancel]; exact y4
          have y7 : (m : Int).toNat = m := rfl
          have z0 : (0 : Int) ≤ (m : Int) + 1 := by omega
          have z1 : (m : Int) + 1 < (n : Int) := by omega
          have z7 : ((m : Int) + 1).toNat = m + 1 := rfl
          go_wp2_with fail
          go_region_held3 (fun w' => w'.cell? ⟨w.heap.size, 11, none⟩ = some (.slice (some ⟨g, off, none⟩) n ci) ∧ w'.cell? ⟨g, off + m * 4, none⟩ = some (.int .i64 q.sh) ∧ w'.cell? ⟨g, off + m * 4 + 1, none⟩ = some (.int .i64 q.nu) ∧ w'.cell? ⟨g, off + (m + 1) * 4, none⟩ = some (.int .i64 x.sh) ∧ w'.cell? ⟨g, off + (m + 1) * 4 + 1, none⟩ = some (.int .i64 x.nu)) (go_keep)
            (first | (go_at_call 69; refine (ahead_held q.sh q.nu x.sh x.nu _ hqi.1 hqi.2.1 hqi.2.2.1 hqi.2.2.2 hxi.1 hxi.2.1 hxi.2.2.1 hxi.2.2.2 _ _ _ _ _ _ _ _ _ _ (by assumption)).mono ?_; rintro e w2 ⟨rfl, g2, k2⟩))
          go_wp2
          · have hx2 := ‹(!decide (cmpID q.sh q.nu x.sh x.nu < 0)) = true›
            go_ret
            exact ⟨ret_bool (by rw [HK.out, HA.out, hb, hp.out]; simp at hx2; simp [prevOk]; intro hh; omega), W0.out.trans ((grownBy_drew G1.out).trans g2)⟩
          · have hx2 := ‹(!decide (cmpID q.sh q.nu x.sh x.nu < 0)) = false›
            simp at hx2
            refine ⟨⟨m + 1 + 1, by omega, by go_num, (grownBy_drew G1.out).trans g2, ?_, ?_⟩, by simp [intOf]; omega⟩
            · rw [HK.out, HA.out, hb, prev_succ is (m + 1) hkl, hx, hp.out]; simp [prevOk, hx2]
            · rw [prev_succ is (m + 1) hkl, hx]; intro q hq; injection hq with hq; rw [← hq]; exact hb
    · have hck : Hid (chk none is = true) := by show chk none is = true; rw [HK.out, List.drop_of_length_le (by rw [HL.out]; omega)]; rfl
      clear HK HP HI HL
      go_wp2_with fail
      go_loopw [8] (fun v wr => ∃ k : Nat, k ≤ no ∧ v = .int .i64 k ∧ w0.grownBy wr none ∧ chkE 0 es = chkE (lastq es k) (es.drop k) ∧ (0 < k → 1 ≤ lastq es k)) (fun v _ => no - (intOf v).toNat)
      case atStart => exact ⟨0, by omega, rfl, GK.out, by simp [lastq], by omega⟩
      case round =>
        obtain ⟨k, hk, rfl, gk, hck2, hlq⟩ := hrel
        have HK : Hid (chkE 0 es = chkE (lastq es k) (es.drop k)) := hck2
        have HP := Hid.mk' hlq
        clear hck2 hlq r11 r12
        obtain ⟨r11, r12⟩ := k11 _ gk
        clear GK
        have GK := Hid.mk' gk
        clear gk
        by_cases hlt : k < no
        · have hkl : k < es.length := by rw [HLo.out]; exact hlt
          have HA := Hid.mk' (chkE_at (lastq es k) es k hkl)
          obtain ⟨x, hx⟩ : ∃ x, es[k] = x := ⟨_, rfl⟩
          rw [hx] at HA
          obtain ⟨sq, it⟩ := x
          obtain ⟨g, off, rfl, hc⟩ := HO.out (by omega)
          have dd : ∀ (e : Nat) (he : e < es.length) j (hj : j < 5) u, (es[e]).cells[j]? = some u → wr.cell? ⟨g, off + e * 5 + j, none⟩ = some u := fun e he j hj u hu => by
            have := hc (5 * e + j) u (by rw [flat_at5 es e j he hj]; exact hu)
            rw [show off + (5 * e + j) = off + e * 5 + j by omega] at this
            exact (W0.out.trans GK.out).cell this (by simp)
          clear hc
          have DD := Hid.mk' dd
          clear dd
          have d0 := DD.out k hkl 0 (by omega) _ rfl
          have d1 := DD.out k hkl 1 (by omega) _ rfl
          have d2 := DD.out k hkl 2 (by omega) _ rfl
          have d3 := DD.out k hkl 3 (by omega) _ rfl
          have d4 := DD.out k hkl 4 (by omega) _ rfl
          rw [hx] at d0 d1 d2 d3 d4
          rw [Nat.add_zero] at d0
          go_wp2_with fail
          refine (refThing_any it _).mono ?_
          rintro e w1 ⟨rfl, g1⟩
          obtain ⟨s11, s12⟩ := k11 _ (GK.out.trans g1)
          have G1 := Hid.mk' (GK.out.trans g1)
          have e0 := g1.cell d0 (by simp)
          by_cases hk0 : k = 0
          · subst hk0
            simp only [Nat.zero_mul, Nat.add_zero] at e0
            cases hb : itB it
            · go_wp2_with fail
              go_quiet (fail)
              go_wp2
              go_ret
              exact ⟨ret_bool (by rw [HK.out, HA.out]; simp [hb]), W0.out.trans (grownBy_drewN G1.out nq)⟩
            · cases hn1 : decide (1 ≤ sq) && decide (sq ≤ 65535)
              · have HN := Hid.mk' hn1
                clear hn1
                go_wp2_with fail
                go_quiet (fail)
                go_wp2_with (first | (go_at_call 44; refine (may1 sq _ _ HN.out).mono ?_; rintro e w' ⟨rfl, rfl⟩))
                go_ret
                refine ⟨ret_bool ?_, W0.out.trans (grownBy_drewN G1.out nq)⟩
                rw [HK.out, HA.out, e_no _ sq it _ HN.out (by simp [lastq]), Bool.and_false]
              · have HN := Hid.mk' hn1
                clear hn1
                go_wp2_with fail
                go_quiet (fail)
                go_wp2_with (first | (go_at_call 44; refine (may1 sq _ _ HN.out).mono ?_; rintro e w' ⟨rfl, rfl⟩))
                have hn2 := and2 HN.out
                refine ⟨⟨1, by omega, rfl, grownBy_drewN G1.out nq, ?_, ?_⟩, by simp [intOf]; omega⟩
                · rw [HK.out, HA.out, lastq_succ es 0 hkl, hx, e_yes _ sq it _ (by simp [lastq]; omega) hn2 hb]
                · rw [lastq_succ es 0 hkl, hx]; intro _; exact hn2.1
          · obtain ⟨m, rfl⟩ : ∃ m, k = m + 1 := ⟨k - 1, by omega⟩
            obtain ⟨q, hq⟩ : ∃ q, es[m]'(by omega) = q := ⟨_, rfl⟩
            have hl : Hid (lastq es (m + 1) = q.sq) := by show _ = _; rw [lastq_succ es m (by omega), hq]
            have hq1 : 1 ≤ q.sq := by have := HP.out (by omega); rw [hl.out] at this; exact this
            have q0 := g1.cell (DD.out m (by omega) 0 (by omega) _ rfl) (by simp)
            rw [hq] at q0
            rw [Nat.add_zero] at q0
            rw [Int.natCast_succ]
            have y2 : m < no := by omega
            have y1 : (m : Int) < (no : Int) := by omega
            have y0 : (0 : Int) ≤ (m : Int) := by omega
            have y3 : IntKind.i64.wrap (m : Int) = (m : Int) := by simp [IntKind.wrap, IntKind.bits, IntKind.signed]; omega
            have y4 : wrap64 (m : Int) = (m : Int) := by simp [wrap64]; omega
            have y5 : IntKind.i64.wrap ((m : Int) + 1 - 1) = (m : Int) := by rw [Int.add_sub_cancel]; exact y3
            have y6 : wrap64 ((m : Int) + 1 - 1) = (m : Int) := by rw [Int.add_sub_cancel]; exact y4
            have y7 : (m : Int).toNat = m := rfl
            have z0 : (0 : Int) ≤ (m : Int) + 1 := by omega
            have z1 : (m : Int) + 1 < (no : Int) := by omega
            have z7 : ((m : Int) + 1).toNat = m + 1 := rfl
            have z8 : ((m : Int) + 1 == 0) = false := by simp; omega
            have z9 : decide ((m : Int) + 1 = 0) = false := by simp; omega
            cases hb : itB it
            · go_wp2_with fail
              go_quiet (fail)
              go_wp2
              go_ret
              exact ⟨ret_bool (by rw [HK.out, HA.out]; simp [hb]), W0.out.trans (grownBy_drewN G1.out nq)⟩
            · cases hr : decide (q.sq < sq)
              · go_wp2_with fail
                go_quiet (fail)
                go_wp2
                go_ret
                exact ⟨ret_bool (by rw [HK.out, HA.out, hl.out]; simp [hr]), W0.out.trans (grownBy_drewN G1.out nq)⟩
              · cases hn1 : decide (1 ≤ sq) && decide (sq ≤ 65535)
                · have HN := Hid.mk' hn1
                  clear hn1
                  go_wp2_with fail
                  go_quiet (fail)
                  go_wp2_with (first | (go_at_call 44; refine (may1 sq _ _ HN.out).mono ?_; rintro e w' ⟨rfl, rfl⟩))
                  go_ret
                  refine ⟨ret_bool ?_, W0.out.trans (grownBy_drewN G1.out nq)⟩
                  rw [HK.out, HA.out, e_no _ sq it _ HN.out (by rw [hl.out]; omega), Bool.and_false]
                · have HN := Hid.mk' hn1
                  clear hn1
                  go_wp2_with fail
                  go_quiet (fail)
                  go_wp2_with (first | (go_at_call 44; refine (may1 sq _ _ HN.out).mono ?_; rintro e w' ⟨rfl, rfl⟩))
                  have hn2 := and2 HN.out
                  have hr2 := of_decide_eq_true hr
                  refine ⟨⟨m + 1 + 1, by omega, by go_num, grownBy_drewN G1.out nq, ?_, ?_⟩, by simp [intOf]; omega⟩
                  · rw [HK.out, HA.out, lastq_succ es (m + 1) hkl, hx, e_yes _ sq it _ (by rw [hl.out]; exact hr2) hn2 hb]
                  · rw [lastq_succ es (m + 1) hkl, hx]; intro _; exact hn2.1
        · go_wp2
          go_ret
          exact ⟨ret_bool (by rw [hck.out, HK.out, List.drop_of_length_le (by rw [HLo.out]; omega)]; rfl), W0.out.trans GK.out⟩

set_option maxHeartbeats 1000000 in
theorem base_no2 (K s : Int) (i : It) (m : Mk) (ai ao : Option Addr) (ni ci no co : Nat) (w : World) (hm : mkB m = true) (hx : 16 < ni ∨ 8 < no) :
    Calls Try.prog 45 #[rv K s i m (.slice ai ni ci) (.slice ao no co)] w fun e w' => e = .returned (.bool false) ∧ w.grownBy w' none := by
  obtain ⟨a, b, c, d, f⟩ := m
  have h1 : isN a = true ∧ isN b = true ∧ isN c = true ∧ isN d = true ∧ isN f = true := by simpa [mkB, and_assoc] using hm
  obtain ⟨h1, h2, h3, h4, h5⟩ := h1
  clear hm
  unfold rv
  by_cases h16 : 16 < ni
  · have g16 : decide ((16 : Int) < (ni : Int)) = true := by simp; omega
    go_enter Try.func45, Try.ntmps45
    go_wp2_with (first | (go_at_call 44; refine (may0 _ _ _ (by assumption)).mono ?_; rintro e w' ⟨rfl, rfl⟩))
    go_ret
    exact ⟨rfl, grownBy_alloc' (World.grownBy_alloc _ _ _) _⟩
  · have g16 : decide ((16 : Int) < (ni : Int)) = false := by simp; omega
    have g8 : decide ((8 : Int) < (no : Int)) = true := by simp; omega
    go_enter Try.func45, Try.ntmps45
    go_wp2_with (first | (go_at_call 44; refine (may0 _ _ _ (by assumption)).mono ?_; rintro e w' ⟨rfl, rfl⟩))
    go_ret
    exact ⟨rfl, grownBy_alloc' (World.grownBy_alloc _ _ _) _⟩

theorem refBase_any (r : Rc) (vi vo : Value) (w : World) (hi : LiesI w vi r.items) (ho : LiesE w vo r.outs) :
    Calls Try.prog 45 #[rv r.kind r.seq r.it r.mks vi vo] w fun e w' => e = .returned (.bool (baseB r)) ∧ w.grownBy w' none := by
  obtain ⟨K, s, i, m, is, es⟩ := r
  cases hm : mkB m
  · have E : baseB ⟨K, s, i, m, is, es⟩ = false := by simp [baseB, hm]
    rw [E]
    obtain ⟨ai, ci, rfl, _⟩ := hi
    obtain ⟨ao, co, rfl, _⟩ := ho
    exact base_no1 K s i m ai ao _ ci _ co w hm
  · by_cases hl : is.length ≤ 16 ∧ es.length ≤ 8
    · have E : baseB ⟨K, s, i, m, is, es⟩ = (chk none is && chkE 0 es) := by simp [baseB, hm, itemsB, outsB, hl.1, hl.2]
      rw [E]
      exact base_yes K s i m is es vi vo w hm hi ho hl.1 hl.2
    · have E : baseB ⟨K, s, i, m, is, es⟩ = false := by
        simp [baseB, hm, itemsB, outsB]
        intro h1 _ h2
        exact absurd ⟨h1, h2⟩ hl
      rw [E]
      obtain ⟨ai, ci, rfl, _⟩ := hi
      obtain ⟨ao, co, rfl, _⟩ := ho
      exact base_no2 K s i m ai ao is.length ci es.length co w hm (over_of hl)
end Go.Proofs.Ytammnaafdhhjaaa
