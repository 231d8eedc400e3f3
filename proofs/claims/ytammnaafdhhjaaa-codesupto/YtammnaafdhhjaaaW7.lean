/- Ytammnaafdhhjaaa: lists that may be. -/
import Derived.Test.YtammnaafdhhjaaaW6
namespace Go.Proofs.Ytammnaafdhhjaaa
open Go.RowKit

def prevOk : Option It → It → Bool
  | none, _ => true
  | some q, i => decide (cmpID q.sh q.nu i.sh i.nu < 0)
def chk : Option It → List It → Bool
  | _, [] => true
  | p, i :: t => itB i && prevOk p i && chk (some i) t
def itemsB (is : List It) : Bool := decide (is.length ≤ 16) && chk none is
def prev (is : List It) (k : Nat) : Option It := if h : 0 < k ∧ k ≤ is.length then some (is[k - 1]'(by omega)) else none
theorem chk_at (p : Option It) (is : List It) (k : Nat) (h : k < is.length) : chk p (is.drop k) = (itB is[k] && prevOk p is[k] && chk (some is[k]) (is.drop (k + 1))) := by
  rw [List.drop_eq_getElem_cons h]; rfl

theorem prev_succ (is : List It) (k : Nat) (h : k < is.length) : prev is (k + 1) = some is[k] := by simp [prev]; omega
theorem grownBy_drewN {w w' : World} {row : Option Nat} (h : w.grownBy w' row) (n : Nat) : w.grownBy (w'.drewN n) row := ⟨h.os, h.tape, h.output, h.size, h.block⟩

set_option maxHeartbeats 2000000 in
theorem itemsMay_x (is : List It) (g off c : Nat) (w : World) (hn : is.length ≤ 16) (hpos : 0 < is.length) (hc : ∀ j u, (is.flatMap It.cells)[j]? = some u → w.cell? ⟨g, off + j, none⟩ = some u) :
    Calls Try.prog 73 #[.slice (some ⟨g, off, none⟩) is.length c] w fun e w' => e = .returned (.bool (chk none is)) ∧ w.grownBy w' none := by
  obtain ⟨n, hL⟩ : ∃ n, is.length = n := ⟨_, rfl⟩
  rw [hL] at hn hpos ⊢
  have HL : Hid (is.length = n) := hL
  clear hL
  have HC : Hid (∀ j u, (is.flatMap It.cells)[j]? = some u → w.cell? ⟨g, off + j, none⟩ = some u) := hc
  clear hc
  have hsf := run_store_float
  have h16 : decide ((16 : Int) < (n : Int)) = false := by simp; omega
  go_enter Try.func73, Try.ntmps73
  go_wp2
  go_loopw [10] (fun i wr => ∃ k : Nat, k ≤ n ∧ i = .int .i64 k ∧ w.grownBy wr none ∧ chk none is = chk (prev is k) (is.drop k)) (fun i _ => n - (intOf i).toNat)
  case atStart => exact ⟨0, by omega, rfl, grownBy_refl _ _, by simp [prev]⟩
  case round =>
    obtain ⟨k, hk, rfl, gk, hck⟩ := hrel
    have HK : Hid (chk none is = chk (prev is k) (is.drop k)) := hck
    clear hck
    by_cases hlt : k < n
    · have hkl : k < is.length := by rw [HL.out]; exact hlt
      have HA := Hid.mk' (chk_at (prev is k) is k hkl)
      obtain ⟨i, hi⟩ : ∃ i, is[k] = i := ⟨_, rfl⟩
      rw [hi] at HA
      have d : ∀ j (hj : j < 4) u, i.cells[j]? = some u → wr.cell? ⟨g, off + k * 4 + j, none⟩ = some u := fun j hj u hu => by
        have := HC.out (4 * k + j) u (by rw [flat_at4 is k j hkl hj, hi]; exact hu)
        rw [show off + (4 * k + j) = off + k * 4 + j by omega] at this
        exact gk.cell this (by simp)
      have d0 := d 0 (by omega) _ rfl
      have d1 := d 1 (by omega) _ rfl
      have d2 := d 2 (by omega) _ rfl
      have d3 := d 3 (by omega) _ rfl
      clear d
      rw [Nat.add_zero] at d0
      have HI : Hid (is[k] = i) := hi
      clear hi
      by_cases hk0 : k = 0
      · subst hk0
        simp only [Nat.zero_mul, Nat.add_zero] at d0 d1 d2 d3
        go_wp2_with fail
        refine (itMay_any i _).mono ?_
        rintro e w1 ⟨rfl, g1⟩
        have G1 := Hid.mk' ((grownBy_alloc' gk _).trans g1)
        cases hb : itB i
        · go_wp2_with fail
          go_ret
          exact ⟨ret_bool (by rw [HK.out, HA.out, hb]; rfl), G1.out⟩
        · go_wp2_with fail
          go_quiet (fail)
          go_wp2
          refine ⟨⟨1, by omega, rfl, grownBy_drewN G1.out nq, ?_⟩, by simp [intOf]; omega⟩
          rw [HK.out, HA.out, hb, prev_succ is 0 hkl, HI.out]; simp [prev, prevOk]
      · obtain ⟨m, rfl⟩ : ∃ m, k = m + 1 := ⟨k - 1, by omega⟩
        obtain ⟨q, hq⟩ : ∃ q, is[m]'(by omega) = q := ⟨_, rfl⟩
        have hp : Hid (prev is (m + 1) = some q) := by show prev is (m + 1) = some q; rw [← hq]; simp [prev]; omega
        have dq : ∀ j (hj : j < 4) u, q.cells[j]? = some u → wr.cell? ⟨g, off + m * 4 + j, none⟩ = some u := fun j hj u hu => by
          have := HC.out (4 * m + j) u (by rw [flat_at4 is m j (by omega) hj, hq]; exact hu)
          rw [show off + (4 * m + j) = off + m * 4 + j by omega] at this
          exact gk.cell this (by simp)
        have q0 := dq 0 (by omega) _ rfl
        have q1 := dq 1 (by omega) _ rfl
        clear dq hq
        rw [Nat.add_zero] at q0
        rw [Int.natCast_succ]
        have y2 : m < n := by omega
        have y1 : (m : Int) < (n : Int) := by omega
        have y0 : (0 : Int) ≤ (m : Int) := by omega
        have y3 : IntKind.i64.wrap (m : Int) = (m : Int) := by simp [IntKind.wrap, IntKind.bits, IntKind.signed]; omega
        have y4 : wrap64 (m : Int) = (m : Int) := by simp [wrap64]; omega
        have y5 : IntKind.i64.wrap ((m : Int) + 1 - 1) = (m : Int) := by rw [Int.add_sub_cancel]; exact y3
        have y6 : wrap64 ((m : Int) + 1 - 1) = (m : Int) := by rw [Int.add_sub_cancel]; exact y4
        have y7 : (m : Int).toNat = m := rfl
        go_wp2_with fail
        refine (itMay_any i _).mono ?_
        rintro e w1 ⟨rfl, g1⟩
        have e0 : w1.cell? ⟨wr.heap.size, 0, none⟩ = some (.int .i64 i.sh) := g1.cell (by go_simp) (by simp)
        have e1 : w1.cell? ⟨wr.heap.size, 1, none⟩ = some (.int .i64 i.nu) := g1.cell (by go_simp) (by simp)
        have p0 : w1.cell? ⟨g, off + m * 4, none⟩ = some (.int .i64 q.sh) := g1.cell ((World.grownBy_alloc wr _ none).cell q0 (by simp)) (by simp)
        have p1 : w1.cell? ⟨g, off + m * 4 + 1, none⟩ = some (.int .i64 q.nu) := g1.cell ((World.grownBy_alloc wr _ none).cell q1 (by simp)) (by simp)
        have G1 := Hid.mk' ((grownBy_alloc' gk _).trans g1)
        cases hb : itB i
        · go_wp2_with fail
          go_ret
          exact ⟨ret_bool (by rw [HK.out, HA.out, hb]; rfl), G1.out⟩
        · go_wp2_with fail
          go_region_held3 (fun w' => w'.cell? ⟨g, off + m * 4, none⟩ = some (.int .i64 q.sh) ∧ w'.cell? ⟨g, off + m * 4 + 1, none⟩ = some (.int .i64 q.nu) ∧ w'.cell? ⟨wr.heap.size, 0, none⟩ = some (.int .i64 i.sh) ∧ w'.cell? ⟨wr.heap.size, 1, none⟩ = some (.int .i64 i.nu)) (go_keep)
            (first | (go_at_call 79; refine (compare_held q.sh q.nu i.sh i.nu _ _ _ _ _ _ _ _ _ (by assumption)).mono ?_; rintro e w2 ⟨rfl, g2, k2⟩))
          go_wp2
          · have hx := ‹0 ≤ cmpID q.sh q.nu i.sh i.nu›
            go_ret
            exact ⟨ret_bool (by rw [HK.out, HA.out, hb, hp.out]; simp [prevOk]; intro hh; omega), (grownBy_drew G1.out).trans g2⟩
          · have hx := ‹cmpID q.sh q.nu i.sh i.nu < 0›
            refine ⟨⟨m + 1 + 1, by omega, by go_num, (grownBy_drew G1.out).trans g2, ?_⟩, by simp [intOf]; omega⟩
            rw [HK.out, HA.out, hb, prev_succ is (m + 1) hkl, HI.out, hp.out]; simp [prevOk, hx]
    · go_wp2
      go_ret
      exact ⟨ret_bool (by rw [HK.out, List.drop_of_length_le (by rw [HL.out]; omega)]; rfl), gk⟩

set_option maxHeartbeats 400000 in
theorem itemsMay_any (v : Value) (is : List It) (w : World) (h : LiesI w v is) :
    Calls Try.prog 73 #[v] w fun e w' => e = .returned (.bool (itemsB is)) ∧ w.grownBy w' none := by
  obtain ⟨a, c, rfl, hx⟩ := h
  by_cases hn : is.length ≤ 16
  · by_cases hp : 0 < is.length
    · obtain ⟨g, off, rfl, hc⟩ := hx hp
      refine (itemsMay_x is g off c w hn hp hc).mono ?_
      rintro e w' ⟨rfl, g'⟩
      exact ⟨ret_bool (by simp [itemsB, hn]), g'⟩
    · have e0 : is = [] := List.eq_nil_of_length_eq_zero (by omega)
      subst e0
      clear hx hn hp
      show Calls Try.prog 73 #[.slice a 0 c] w _
      go_enter Try.func73, Try.ntmps73
      go_wp2
      refine wp_loop_rounds 1 ?_
      rw [rounds_succ]
      go_wp2
      go_ret
      exact ⟨rfl, grownBy_refl _ _⟩
  · have hb : itemsB is = false := by simp [itemsB, hn]
    rw [hb]
    clear hb hx
    obtain ⟨n, hL⟩ : ∃ n, is.length = n := ⟨_, rfl⟩
    rw [hL] at hn ⊢
    clear hL
    have h16 : decide ((16 : Int) < (n : Int)) = true := by simp; omega
    go_enter Try.func73, Try.ntmps73
    go_wp2
    go_ret
    exact ⟨rfl, grownBy_refl _ _⟩

def chkE : Int → List En → Bool
  | _, [] => true
  | l, e :: t => decide (l < e.sq) && isN e.sq && itB e.it && chkE e.sq t
def outsB (es : List En) : Bool := decide (es.length ≤ 8) && chkE 0 es
theorem chkE_at (l : Int) (es : List En) (k : Nat) (h : k < es.length) : chkE l (es.drop k) = (decide (l < es[k].sq) && isN es[k].sq && itB es[k].it && chkE es[k].sq (es.drop (k + 1))) := by
  rw [List.drop_eq_getElem_cons h]; rfl

set_option maxHeartbeats 2000000 in
theorem outboxMay_x (es : List En) (g off c : Nat) (w : World) (hn : es.length ≤ 8) (hpos : 0 < es.length) (hc : ∀ j u, (es.flatMap En.cells)[j]? = some u → w.cell? ⟨g, off + j, none⟩ = some u) :
    Calls Try.prog 74 #[.slice (some ⟨g, off, none⟩) es.length c] w fun e w' => e = .returned (.bool (chkE 0 es)) ∧ w.grownBy w' none := by
  obtain ⟨n, hL⟩ : ∃ n, es.length = n := ⟨_, rfl⟩
  rw [hL] at hn hpos ⊢
  have HL : Hid (es.length = n) := hL
  clear hL
  have HC : Hid (∀ j u, (es.flatMap En.cells)[j]? = some u → w.cell? ⟨g, off + j, none⟩ = some u) := hc
  clear hc
  have hsf := run_store_float
  have h16 : decide ((8 : Int) < (n : Int)) = false := by simp; omega
  go_enter Try.func74, Try.ntmps74
  go_wp2
  go_loopw [3, 11] (fun l i wr => ∃ k : Nat, ∃ q : Int, k ≤ n ∧ i = .int .i64 k ∧ l = .int .i64 q ∧ w.grownBy wr none ∧ chkE 0 es = chkE q (es.drop k)) (fun _ i _ => n - (intOf i).toNat)
  case atStart => exact ⟨0, 0, by omega, rfl, rfl, grownBy_refl _ _, by simp⟩
  case round =>
    obtain ⟨k, q, hk, rfl, rfl, gk, hck⟩ := hrel
    have HK : Hid (chkE 0 es = chkE q (es.drop k)) := hck
    clear hck
    by_cases hlt : k < n
    · have hkl : k < es.length := by rw [HL.out]; exact hlt
      have HA := Hid.mk' (chkE_at q es k hkl)
      obtain ⟨i, hi⟩ : ∃ i, es[k] = i := ⟨_, rfl⟩
      rw [hi] at HA
      have d : ∀ j (hj : j < 5) u, i.cells[j]? = some u → wr.cell? ⟨g, off + k * 5 + j, none⟩ = some u := fun j hj u hu => by
        have := HC.out (5 * k + j) u (by rw [flat_at5 es k j hkl hj, hi]; exact hu)
        rw [show off + (5 * k + j) = off + k * 5 + j by omega] at this
        exact gk.cell this (by simp)
      have d0 := d 0 (by omega) _ rfl
      have d1 := d 1 (by omega) _ rfl
      have d2 := d 2 (by omega) _ rfl
      have d3 := d 3 (by omega) _ rfl
      have d4 := d 4 (by omega) _ rfl
      clear d hi
      rw [Nat.add_zero] at d0
      obtain ⟨sq, it⟩ := i
      by_cases hs : q < sq
      · have hs' : decide (sq ≤ q) = false := by simp; omega
        cases hN : isN sq
        · go_wp2_with (go_at_call 52; refine (isNumber_any sq _).mono ?_; rintro e w1 ⟨rfl, rfl⟩)
          go_ret
          exact ⟨ret_bool (by rw [HK.out, HA.out]; simp [hN]), grownBy_alloc' gk _⟩
        · go_wp2_with (first | (go_at_call 52; refine (isNumber_any sq _).mono ?_; rintro e w1 ⟨rfl, rfl⟩))
          refine (itMay_any it _).mono ?_
          rintro e w1 ⟨rfl, g1⟩
          have G1 := Hid.mk' ((grownBy_alloc' gk _).trans g1)
          have e0 : w1.cell? ⟨wr.heap.size, 0, none⟩ = some (.int .i64 sq) := g1.cell (by go_simp) (by simp)
          cases hb : itB it
          · go_wp2_with fail
            go_ret
            exact ⟨ret_bool (by rw [HK.out, HA.out]; simp [hb]), G1.out⟩
          · go_wp2_with fail
            refine ⟨⟨k + 1, sq, by omega, by go_num, rfl, G1.out, ?_⟩, by simp [intOf]; omega⟩
            rw [HK.out, HA.out]; simp [hN, hb, hs]
      · have hs' : decide (sq ≤ q) = true := by simp; omega
        go_wp2_with fail
        go_ret
        exact ⟨ret_bool (by rw [HK.out, HA.out]; simp; intro hh; omega), grownBy_alloc' gk _⟩
    · go_wp2
      go_ret
      exact ⟨ret_bool (by rw [HK.out, List.drop_of_length_le (by rw [HL.out]; omega)]; rfl), gk⟩

set_option maxHeartbeats 400000 in
theorem outboxMay_any (v : Value) (es : List En) (w : World) (h : LiesE w v es) :
    Calls Try.prog 74 #[v] w fun e w' => e = .returned (.bool (outsB es)) ∧ w.grownBy w' none := by
  obtain ⟨a, c, rfl, hx⟩ := h
  by_cases hn : es.length ≤ 8
  · by_cases hp : 0 < es.length
    · obtain ⟨g, off, rfl, hc⟩ := hx hp
      refine (outboxMay_x es g off c w hn hp hc).mono ?_
      rintro e w' ⟨rfl, g'⟩
      exact ⟨ret_bool (by simp [outsB, hn]), g'⟩
    · have e0 : es = [] := List.eq_nil_of_length_eq_zero (by omega)
      subst e0
      clear hx hn hp
      show Calls Try.prog 74 #[.slice a 0 c] w _
      go_enter Try.func74, Try.ntmps74
      go_wp2
      refine wp_loop_rounds 1 ?_
      rw [rounds_succ]
      go_wp2
      go_ret
      exact ⟨rfl, grownBy_refl _ _⟩
  · have hb : outsB es = false := by simp [outsB, hn]
    rw [hb]
    clear hb hx
    obtain ⟨n, hL⟩ : ∃ n, es.length = n := ⟨_, rfl⟩
    rw [hL] at hn ⊢
    clear hL
    have h16 : decide ((8 : Int) < (n : Int)) = true := by simp; omega
    go_enter Try.func74, Try.ntmps74
    go_wp2
    go_ret
    exact ⟨rfl, grownBy_refl _ _⟩
end Go.Proofs.Ytammnaafdhhjaaa
