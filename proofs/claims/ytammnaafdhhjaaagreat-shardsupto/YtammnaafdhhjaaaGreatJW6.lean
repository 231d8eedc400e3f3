import Derived.Deep.RegionHeld3
import Derived.Test.YtammnaafdhhjaaaGreatRows
import Derived.Test.YtammnaafdhhjaaaGreatJW1
set_option maxHeartbeats 16000000
set_option maxRecDepth 100000
namespace Go.Proofs.YtammnaafdhhjaaaGreat
open Go.RowKit
def cmpI (x y : Int) : Int := if x < y then -1 else if y < x then 1 else 0
def orI (x y : Int) : Int := if x = 0 then y else x
theorem cmp_any (x y : Int) (w : World) :
  Calls Tryz.prog 168 #[.int .i64 x, .int .i64 y] w fun e w' => e = .returned (.int .i64 (cmpI x y)) /\ w' = w := by
 go_enter Tryz.func168, Tryz.ntmps168
 go_wp2
 all_goals (go_ret; refine ⟨ret_int ?_, rfl⟩)
 all_goals (unfold cmpI; first | (rw [if_pos (by assumption)]; done) | (rw [if_neg (by omega), if_pos (by assumption)]; done) | (rw [if_neg (by omega), if_neg (by omega)]))
theorem or_any (x y : Int) (g : Nat) (w : World) (h0 : w.cell? ⟨g, 0, none⟩ = some (.int .i64 x)) (h1 : w.cell? ⟨g, 1, none⟩ = some (.int .i64 y)) :
  Calls Tryz.prog 167 #[.slice (some ⟨g, 0, none⟩) 2 2] w fun e w' => e = .returned (.int .i64 (orI x y)) /\ w' = w := by
 go_enter Tryz.func167, Tryz.ntmps167
 go_wp2
 go_loop [8] (fun i => ∃ k : Nat, k <= 2 /\ i = .int .i64 k /\ (0 < k -> x = 0) /\ (1 < k -> y = 0)) (fun i => 2 - (intOf i).toNat)
 case atStart => exact ⟨0, by omega, rfl, by omega, by omega⟩
 case round =>
  obtain ⟨k, hk, rfl, hx, hy⟩ := hrel
  have hk3 : k = 0 ∨ k = 1 ∨ k = 2 := by omega
  rcases hk3 with rfl | rfl | rfl
  ·clear hx hy hk
   go_wp2
   ·go_ret
    exact ⟨ret_int (by have hh := ‹(x != 0) = true›; simp at hh; simp [orI, hh]), rfl⟩
   ·go_round
    case rel => exact ⟨1, by omega, rfl, fun _ => by have hh := ‹(x != 0) = false›; simpa using hh, by omega⟩
    case measure => simp [intOf]
  ·have hx0 : x = 0 := hx (by omega)
   subst hx0
   clear hx hy hk
   go_wp2
   ·go_ret
    exact ⟨ret_int (by simp [orI]), rfl⟩
   ·go_round
    case rel => exact ⟨2, by omega, rfl, fun _ => trivial, fun _ => by have hh := ‹(y != 0) = false›; simpa using hh⟩
    case measure => simp [intOf]
  ·have hx0 : x = 0 := hx (by omega)
   have hy0 : y = 0 := hy (by omega)
   subst hx0 hy0
   clear hx hy hk
   go_wp2
   go_ret
   exact ⟨ret_int (by simp [orI]), rfl⟩
theorem grownBy_drew {w w' : World} {row : Option Nat} (h : w.grownBy w' row) : w.grownBy w'.drew row := ⟨h.os, h.tape, h.output, h.size, h.block⟩
def cmpID (a b c d : Int) : Int := orI (cmpI a c) (cmpI b d)
theorem compare_any (a b c d : Int) (w : World) :
  Calls Tryz.prog 138 #[.agg #[.int .i64 a, .int .i64 b], .agg #[.int .i64 c, .int .i64 d]] w fun e w' => e = .returned (.int .i64 (cmpID a b c d)) /\ w.grownBy w' none := by
 go_enter Tryz.func138, Tryz.ntmps138
 go_wp2
 go_region_held3 (fun w' => w'.cell? ⟨w.heap.size, 0, none⟩ = some (.int .i64 a) /\ w'.cell? ⟨w.heap.size, 1, none⟩ = some (.int .i64 b) /\ w'.cell? ⟨w.heap.size + 1, 0, none⟩ = some (.int .i64 c) /\ w'.cell? ⟨w.heap.size + 1, 1, none⟩ = some (.int .i64 d)) (go_keep)
  (first | (go_at_call 168; refine (cmp_any _ _ _).mono ?_; rintro e w' ⟨rfl, rfl⟩) | (go_at_call 167; refine (or_any (cmpI a c) (cmpI b d) _ _ ?_ ?_).mono ?_; (go_simp); (go_simp); rintro e w' ⟨rfl, rfl⟩))
 go_wp2
 go_ret
 exact ⟨rfl, grownBy_drew (grownBy_alloc' (grownBy_alloc' (World.grownBy_alloc _ _ _) _) _)⟩
theorem compare_held (a b c d : Int) (w : World) (p0 p1 p2 p3 : Addr) (v0 v1 v2 v3 : Value) (h : w.cell? p0 = some v0 /\ w.cell? p1 = some v1 /\ w.cell? p2 = some v2 /\ w.cell? p3 = some v3) :
  Calls Tryz.prog 138 #[.agg #[.int .i64 a, .int .i64 b], .agg #[.int .i64 c, .int .i64 d]] w fun e w' => e = .returned (.int .i64 (cmpID a b c d)) /\ w.grownBy w' none /\ w'.cell? p0 = some v0 /\ w'.cell? p1 = some v1 /\ w'.cell? p2 = some v2 /\ w'.cell? p3 = some v3 := by
 refine (compare_any a b c d w).mono ?_
 rintro e w' ⟨he, g⟩
 exact ⟨he, g, g.cell h.1 (by simp), g.cell h.2.1 (by simp), g.cell h.2.2.1 (by simp), g.cell h.2.2.2 (by simp)⟩
def Lies (w : World) (v : Value) (n : Nat) (xs : List Value) : Prop :=
 ∃ a c, v = .slice a n c /\ (0 < n -> ∃ g off, a = some ⟨g, off, none⟩ /\ ∀ j u, xs[j]? = some u -> w.cell? ⟨g, off + j, none⟩ = some u)
def LiesI (w : World) (v : Value) (is : List It) : Prop := Lies w v is.length (is.flatMap It.cells)
def LiesE (w : World) (v : Value) (es : List En) : Prop := Lies w v es.length (es.flatMap En.cells)
theorem Lies.of_own {B : Nat} {e : TypeId} {size : Nat} {v : Value} {n : Nat} {xs : List Value} {w : World} (h : w.ownsRow B e size v n xs) : Lies w v n xs := by
 rcases h.2 with ⟨rfl, hn⟩ | ⟨g, cap, cur, rfl, _⟩
 ·subst hn; exact ⟨none, 0, rfl, by omega⟩
 ·refine ⟨_, cap, rfl, fun _ => ⟨g, 0, rfl, fun j u hu => ?_⟩⟩
  have := h.cells (g := g) rfl j u hu
  rw [show (⟨g, 0, none⟩ : Addr).add j = ⟨g, 0 + j, none⟩ by unfold Addr.add; split <;> simp_all] at this
  exact this
theorem Lies.grown {w w' : World} {v : Value} {n : Nat} {xs : List Value} (h : Lies w v n xs) (g : w.grownBy w' none) : Lies w' v n xs := by
 obtain ⟨a, c, hv, hx⟩ := h
 refine ⟨a, c, hv, fun hn => ?_⟩
 obtain ⟨b, off, ha, hc⟩ := hx hn
 exact ⟨b, off, ha, fun j u hu => g.cell (hc j u hu) (by simp)⟩
theorem flat_at4 (is : List It) (k j : Nat) (hk : k < is.length) (hj : j < 4) : (is.flatMap It.cells)[4 * k + j]? = is[k].cells[j]? := by
 induction is generalizing k with
 | nil => simp at hk
 | cons i t ih =>
  rw [List.flatMap_cons]
  cases k with
  | zero => rw [List.getElem?_append_left (by simp [It.cells]; omega)]; simp
  | succ k =>
   rw [List.getElem?_append_right (by simp [It.cells]; omega)]
   have e : 4 * (k + 1) + j - i.cells.length = 4 * k + j := by simp [It.cells]; omega
   rw [e, ih k (by simpa using hk)]; rfl
theorem flat_at5 (is : List En) (k j : Nat) (hk : k < is.length) (hj : j < 5) : (is.flatMap En.cells)[5 * k + j]? = is[k].cells[j]? := by
 induction is generalizing k with
 | nil => simp at hk
 | cons i t ih =>
  rw [List.flatMap_cons]
  cases k with
  | zero => rw [List.getElem?_append_left (by simp [En.cells]; omega)]; simp
  | succ k =>
   rw [List.getElem?_append_right (by simp [En.cells]; omega)]
   have e : 5 * (k + 1) + j - i.cells.length = 5 * k + j := by simp [En.cells]; omega
   rw [e, ih k (by simpa using hk)]; rfl
def prevOk : Option It -> It -> Bool
 | none, _ => true
 | some q, i => decide (cmpID q.sh q.nu i.sh i.nu < 0)
def chk : Option It -> List It -> Bool
 | _, [] => true
 | p, i :: t => itB i && prevOk p i && chk (some i) t
def itemsB (is : List It) : Bool := decide (is.length <= 16) && chk none is
def prev (is : List It) (k : Nat) : Option It := if h : 0 < k /\ k <= is.length then some (is[k - 1]'(by omega)) else none
theorem chk_at (p : Option It) (is : List It) (k : Nat) (h : k < is.length) : chk p (is.drop k) = (itB is[k] && prevOk p is[k] && chk (some is[k]) (is.drop (k + 1))) := by
 rw [List.drop_eq_getElem_cons h]; rfl
theorem prev_succ (is : List It) (k : Nat) (h : k < is.length) : prev is (k + 1) = some is[k] := by simp [prev]; omega
theorem grownBy_drewN {w w' : World} {row : Option Nat} (h : w.grownBy w' row) (n : Nat) : w.grownBy (w'.drewN n) row := ⟨h.os, h.tape, h.output, h.size, h.block⟩
theorem itemsMay_x (is : List It) (g off c : Nat) (w : World) (hn : is.length <= 16) (hpos : 0 < is.length) (hc : ∀ j u, (is.flatMap It.cells)[j]? = some u -> w.cell? ⟨g, off + j, none⟩ = some u) :
  Calls Tryz.prog 227 #[.slice (some ⟨g, off, none⟩) is.length c] w fun e w' => e = .returned (.bool (chk none is)) /\ w.grownBy w' none := by
 obtain ⟨n, hL⟩ : ∃ n, is.length = n := ⟨_, rfl⟩
 rw [hL] at hn hpos ⊢
 have HL : Hid (is.length = n) := hL
 clear hL
 have HC : Hid (∀ j u, (is.flatMap It.cells)[j]? = some u -> w.cell? ⟨g, off + j, none⟩ = some u) := hc
 clear hc
 have hsf := run_store_float
 have h16 : decide ((16 : Int) < (n : Int)) = false := by simp; omega
 go_enter Tryz.func227, Tryz.ntmps227
 go_wp2
 go_loopw [10] (fun i wr => ∃ k : Nat, k <= n /\ i = .int .i64 k /\ w.grownBy wr none /\ chk none is = chk (prev is k) (is.drop k)) (fun i _ => n - (intOf i).toNat)
 case atStart => exact ⟨0, by omega, rfl, grownBy_refl _ _, by simp [prev]⟩
 case round =>
  obtain ⟨k, hk, rfl, gk, hck⟩ := hrel
  have HK : Hid (chk none is = chk (prev is k) (is.drop k)) := hck
  clear hck
  by_cases hlt : k < n
  ·have hkl : k < is.length := by rw [HL.out]; exact hlt
   have HA := Hid.mk' (chk_at (prev is k) is k hkl)
   obtain ⟨i, hi⟩ : ∃ i, is[k] = i := ⟨_, rfl⟩
   rw [hi] at HA
   have d : ∀ j (hj : j < 4) u, i.cells[j]? = some u -> wr.cell? ⟨g, off + k * 4 + j, none⟩ = some u := fun j hj u hu => by
    have := HC.out (4 * k + j) u (by rw [flat_at4 is k j hkl hj, hi]; exact hu)
    rw [show off + (4 * k + j) = off + k * 4 + j by omega] at this
    exact gk.cell this (by simp)
   have d0 := d 0 (by omega) _ rfl
   have d1 := d 1 (by omega) _ rfl
   have d2 := d 2 (by omega) _ rfl
   have d3 := d 3 (by omega) _ rfl
   clear d
   rw [Nat.add_zero] at d0
   have HI : Hid (is[k] = i) := hi
   clear hi
   by_cases hk0 : k = 0
   ·subst hk0
    simp only [Nat.zero_mul, Nat.add_zero] at d0 d1 d2 d3
    go_wp2_with fail
    refine (itMay_any i _).mono ?_
    rintro e w1 ⟨rfl, g1⟩
    have G1 := Hid.mk' ((grownBy_alloc' gk _).trans g1)
    cases hb : itB i
    ·go_wp2_with fail
     go_ret
     exact ⟨ret_bool (by rw [HK.out, HA.out, hb]; rfl), G1.out⟩
    ·go_wp2_with fail
     go_quiet (fail)
     go_wp2
     refine ⟨⟨1, by omega, rfl, grownBy_drewN G1.out nq, ?_⟩, by simp [intOf]; omega⟩
     rw [HK.out, HA.out, hb, prev_succ is 0 hkl, HI.out]; simp [prev, prevOk]
   ·obtain ⟨m, rfl⟩ : ∃ m, k = m + 1 := ⟨k - 1, by omega⟩
    obtain ⟨q, hq⟩ : ∃ q, is[m]'(by omega) = q := ⟨_, rfl⟩
    have hp : Hid (prev is (m + 1) = some q) := by show prev is (m + 1) = some q; rw [<- hq]; simp [prev]; omega
    have dq : ∀ j (hj : j < 4) u, q.cells[j]? = some u -> wr.cell? ⟨g, off + m * 4 + j, none⟩ = some u := fun j hj u hu => by
     have := HC.out (4 * m + j) u (by rw [flat_at4 is m j (by omega) hj, hq]; exact hu)
     rw [show off + (4 * m + j) = off + m * 4 + j by omega] at this
     exact gk.cell this (by simp)
    have q0 := dq 0 (by omega) _ rfl
    have q1 := dq 1 (by omega) _ rfl
    clear dq hq
    rw [Nat.add_zero] at q0
    rw [Int.natCast_succ]
    have y2 : m < n := by omega
    have y1 : (m : Int) < (n : Int) := by omega
    have y0 : (0 : Int) <= (m : Int) := by omega
    have y3 : IntKind.i64.wrap (m : Int) = (m : Int) := by simp [IntKind.wrap, IntKind.bits, IntKind.signed]; omega
    have y4 : wrap64 (m : Int) = (m : Int) := by simp [wrap64]; omega
    have y5 : IntKind.i64.wrap ((m : Int) + 1 - 1) = (m : Int) := by rw [Int.add_sub_cancel]; exact y3
    have y6 : wrap64 ((m : Int) + 1 - 1) = (m : Int) := by rw [Int.add_sub_cancel]; exact y4
    have y7 : (m : Int).toNat = m := rfl
    go_wp2_with fail
    refine (itMay_any i _).mono ?_
    rintro e w1 ⟨rfl, g1⟩
    have e0 := gC g1 wr.heap.size 0 (.int .i64 i.sh)
    have e1 := gC g1 wr.heap.size 1 (.int .i64 i.nu)
    have p0 : w1.cell? ⟨g, off + m * 4, none⟩ = some (.int .i64 q.sh) := g1.cell ((World.grownBy_alloc wr _ none).cell q0 (by simp)) (by simp)
    have p1 : w1.cell? ⟨g, off + m * 4 + 1, none⟩ = some (.int .i64 q.nu) := g1.cell ((World.grownBy_alloc wr _ none).cell q1 (by simp)) (by simp)
    have G1 := Hid.mk' ((grownBy_alloc' gk _).trans g1)
    cases hb : itB i
    ·go_wp2_with fail
     go_ret
     exact ⟨ret_bool (by rw [HK.out, HA.out, hb]; rfl), G1.out⟩
    ·go_wp2_with fail
     go_region_held3 (fun w' => w'.cell? ⟨g, off + m * 4, none⟩ = some (.int .i64 q.sh) /\ w'.cell? ⟨g, off + m * 4 + 1, none⟩ = some (.int .i64 q.nu) /\ w'.cell? ⟨wr.heap.size, 0, none⟩ = some (.int .i64 i.sh) /\ w'.cell? ⟨wr.heap.size, 1, none⟩ = some (.int .i64 i.nu)) (go_keep)
      (first | (go_at_call 138; refine (compare_held q.sh q.nu i.sh i.nu _ _ _ _ _ _ _ _ _ (by assumption)).mono ?_; rintro e w2 ⟨rfl, g2, k2⟩))
     go_wp2
     ·have hx := ‹0 <= cmpID q.sh q.nu i.sh i.nu›
      go_ret
      exact ⟨ret_bool (by rw [HK.out, HA.out, hb, hp.out]; simp [prevOk]; intro hh; omega), (grownBy_drew G1.out).trans g2⟩
     ·have hx := ‹cmpID q.sh q.nu i.sh i.nu < 0›
      refine ⟨⟨m + 1 + 1, by omega, by go_num, (grownBy_drew G1.out).trans g2, ?_⟩, by simp [intOf]; omega⟩
      rw [HK.out, HA.out, hb, prev_succ is (m + 1) hkl, HI.out, hp.out]; simp [prevOk, hx]
  ·go_wp2
   go_ret
   exact ⟨ret_bool (by rw [HK.out, List.drop_of_length_le (by rw [HL.out]; omega)]; rfl), gk⟩
theorem itemsMay_any (v : Value) (is : List It) (w : World) (h : LiesI w v is) :
  Calls Tryz.prog 227 #[v] w fun e w' => e = .returned (.bool (itemsB is)) /\ w.grownBy w' none := by
 obtain ⟨a, c, rfl, hx⟩ := h
 by_cases hn : is.length <= 16
 ·by_cases hp : 0 < is.length
  ·obtain ⟨g, off, rfl, hc⟩ := hx hp
   refine (itemsMay_x is g off c w hn hp hc).mono ?_
   rintro e w' ⟨rfl, g'⟩
   exact ⟨ret_bool (by simp [itemsB, hn]), g'⟩
  ·have e0 : is = [] := List.eq_nil_of_length_eq_zero (by omega)
   subst e0
   clear hx hn hp
   show Calls Tryz.prog 227 #[.slice a 0 c] w _
   go_enter Tryz.func227, Tryz.ntmps227
   go_wp2
   refine wp_loop_rounds 1 ?_
   rw [rounds_succ]
   go_wp2
   go_ret
   exact ⟨rfl, grownBy_refl _ _⟩
 ·have hb : itemsB is = false := by simp [itemsB, hn]
  rw [hb]
  clear hb hx
  obtain ⟨n, hL⟩ : ∃ n, is.length = n := ⟨_, rfl⟩
  rw [hL] at hn ⊢
  clear hL
  have h16 : decide ((16 : Int) < (n : Int)) = true := by simp; omega
  go_enter Tryz.func227, Tryz.ntmps227
  go_wp2
  go_ret
  exact ⟨rfl, grownBy_refl _ _⟩
def chkE : Int -> List En -> Bool
 | _, [] => true
 | l, e :: t => decide (l < e.sq) && isN e.sq && itB e.it && chkE e.sq t
def outsB (es : List En) : Bool := decide (es.length <= 8) && chkE 0 es
theorem chkE_at (l : Int) (es : List En) (k : Nat) (h : k < es.length) : chkE l (es.drop k) = (decide (l < es[k].sq) && isN es[k].sq && itB es[k].it && chkE es[k].sq (es.drop (k + 1))) := by
 rw [List.drop_eq_getElem_cons h]; rfl
theorem outboxMay_x (es : List En) (g off c : Nat) (w : World) (hn : es.length <= 8) (hpos : 0 < es.length) (hc : ∀ j u, (es.flatMap En.cells)[j]? = some u -> w.cell? ⟨g, off + j, none⟩ = some u) :
  Calls Tryz.prog 228 #[.slice (some ⟨g, off, none⟩) es.length c] w fun e w' => e = .returned (.bool (chkE 0 es)) /\ w.grownBy w' none := by
 obtain ⟨n, hL⟩ : ∃ n, es.length = n := ⟨_, rfl⟩
 rw [hL] at hn hpos ⊢
 have HL : Hid (es.length = n) := hL
 clear hL
 have HC : Hid (∀ j u, (es.flatMap En.cells)[j]? = some u -> w.cell? ⟨g, off + j, none⟩ = some u) := hc
 clear hc
 have hsf := run_store_float
 have h16 : decide ((8 : Int) < (n : Int)) = false := by simp; omega
 go_enter Tryz.func228, Tryz.ntmps228
 go_wp2
 go_loopw [3, 11] (fun l i wr => ∃ k : Nat, ∃ q : Int, k <= n /\ i = .int .i64 k /\ l = .int .i64 q /\ w.grownBy wr none /\ chkE 0 es = chkE q (es.drop k)) (fun _ i _ => n - (intOf i).toNat)
 case atStart => exact ⟨0, 0, by omega, rfl, rfl, grownBy_refl _ _, by simp⟩
 case round =>
  obtain ⟨k, q, hk, rfl, rfl, gk, hck⟩ := hrel
  have HK : Hid (chkE 0 es = chkE q (es.drop k)) := hck
  clear hck
  by_cases hlt : k < n
  ·have hkl : k < es.length := by rw [HL.out]; exact hlt
   have HA := Hid.mk' (chkE_at q es k hkl)
   obtain ⟨i, hi⟩ : ∃ i, es[k] = i := ⟨_, rfl⟩
   rw [hi] at HA
   have d : ∀ j (hj : j < 5) u, i.cells[j]? = some u -> wr.cell? ⟨g, off + k * 5 + j, none⟩ = some u := fun j hj u hu => by
    have := HC.out (5 * k + j) u (by rw [flat_at5 es k j hkl hj, hi]; exact hu)
    rw [show off + (5 * k + j) = off + k * 5 + j by omega] at this
    exact gk.cell this (by simp)
   have d0 := d 0 (by omega) _ rfl
   have d1 := d 1 (by omega) _ rfl
   have d2 := d 2 (by omega) _ rfl
   have d3 := d 3 (by omega) _ rfl
   have d4 := d 4 (by omega) _ rfl
   clear d hi
   rw [Nat.add_zero] at d0
   obtain ⟨sq, it⟩ := i
   by_cases hs : q < sq
   ·have hs' : decide (sq <= q) = false := by simp; omega
    cases hN : isN sq
    ·go_wp2_with (go_at_call 207; refine (isNumber_any sq _).mono ?_; rintro e w1 ⟨rfl, rfl⟩)
     go_ret
     exact ⟨ret_bool (by rw [HK.out, HA.out]; simp [hN]), grownBy_alloc' gk _⟩
    ·go_wp2_with (first | (go_at_call 207; refine (isNumber_any sq _).mono ?_; rintro e w1 ⟨rfl, rfl⟩))
     refine (itMay_any it _).mono ?_
     rintro e w1 ⟨rfl, g1⟩
     have G1 := Hid.mk' ((grownBy_alloc' gk _).trans g1)
     have e0 := gC g1 wr.heap.size 0 (.int .i64 sq)
     cases hb : itB it
     ·go_wp2_with fail
      go_ret
      exact ⟨ret_bool (by rw [HK.out, HA.out]; simp [hb]), G1.out⟩
     ·go_wp2_with fail
      refine ⟨⟨k + 1, sq, by omega, by go_num, rfl, G1.out, ?_⟩, by simp [intOf]; omega⟩
      rw [HK.out, HA.out]; simp [hN, hb, hs]
   ·have hs' : decide (sq <= q) = true := by simp; omega
    go_wp2_with fail
    go_ret
    exact ⟨ret_bool (by rw [HK.out, HA.out]; simp; intro hh; omega), grownBy_alloc' gk _⟩
  ·go_wp2
   go_ret
   exact ⟨ret_bool (by rw [HK.out, List.drop_of_length_le (by rw [HL.out]; omega)]; rfl), gk⟩
theorem outboxMay_any (v : Value) (es : List En) (w : World) (h : LiesE w v es) :
  Calls Tryz.prog 228 #[v] w fun e w' => e = .returned (.bool (outsB es)) /\ w.grownBy w' none := by
 obtain ⟨a, c, rfl, hx⟩ := h
 by_cases hn : es.length <= 8
 ·by_cases hp : 0 < es.length
  ·obtain ⟨g, off, rfl, hc⟩ := hx hp
   refine (outboxMay_x es g off c w hn hp hc).mono ?_
   rintro e w' ⟨rfl, g'⟩
   exact ⟨ret_bool (by simp [outsB, hn]), g'⟩
  ·have e0 : es = [] := List.eq_nil_of_length_eq_zero (by omega)
   subst e0
   clear hx hn hp
   show Calls Tryz.prog 228 #[.slice a 0 c] w _
   go_enter Tryz.func228, Tryz.ntmps228
   go_wp2
   refine wp_loop_rounds 1 ?_
   rw [rounds_succ]
   go_wp2
   go_ret
   exact ⟨rfl, grownBy_refl _ _⟩
 ·have hb : outsB es = false := by simp [outsB, hn]
  rw [hb]
  clear hb hx
  obtain ⟨n, hL⟩ : ∃ n, es.length = n := ⟨_, rfl⟩
  rw [hL] at hn ⊢
  clear hL
  have h16 : decide ((8 : Int) < (n : Int)) = true := by simp; omega
  go_enter Tryz.func228, Tryz.ntmps228
  go_wp2
  go_ret
  exact ⟨rfl, grownBy_refl _ _⟩
def baseB (r : Rc) : Bool := mkB r.mks && itemsB r.items && outsB r.outs
def nobB (r : Rc) : Bool := mkZ r.mks && (r.items.length == 0) && (r.outs.length == 0)
def mayB (r : Rc) : Bool :=
 if r.kind = 1 then (r.seq == 0) && itB r.it && nobB r
 else if r.kind = 2 then (r.seq == 0) && idB r.it.sh r.it.nu && stB r.it && nobB r
 else if r.kind = 3 then (r.seq == 0) && noIt r.it && nobB r
 else if r.kind = 4 ∨ r.kind = 7 then decide (1 <= r.seq) && isN r.seq && itB r.it && nobB r
 else if r.kind = 5 ∨ r.kind = 8 then isN r.seq && noIt r.it && nobB r
 else if r.kind = 6 then (r.seq == 0) && noIt r.it && baseB r
 else false
theorem baseMay_any (r : Rc) (vi vo : Value) (w : World) (hi : LiesI w vi r.items) (ho : LiesE w vo r.outs) :
  Calls Tryz.prog 208 #[rv r.kind r.seq r.it r.mks vi vo] w fun e w' => e = .returned (.bool (baseB r)) /\ w.grownBy w' none := by
 obtain ⟨K, s, i, m, is, es⟩ := r
 have HI := Hid.mk' hi
 have HO := Hid.mk' ho
 clear hi ho
 unfold rv
 obtain ⟨ai, ci, rfl, _⟩ := HI.out
 obtain ⟨ao, co, rfl, _⟩ := HO.out
 go_enter Tryz.func208, Tryz.ntmps208
 go_wp2_with fail
 refine (marksMay_any m _).mono ?_
 rintro e w1 ⟨rfl, g1⟩
 have G1 := Hid.mk' ((World.grownBy_alloc w _ none).trans g1)
 have c11 := gC g1 w.heap.size 11 (.slice ai is.length ci)
 have c12 := gC g1 w.heap.size 12 (.slice ao es.length co)
 cases hm : mkB m
 ·go_wp2_with fail
  go_ret
  exact ⟨ret_bool (by simp [baseB, hm]), G1.out⟩
 ·go_wp2_with fail
  refine (itemsMay_any _ is _ (HI.out.grown G1.out)).mono ?_
  rintro e w2 ⟨rfl, g2⟩
  have G2 := Hid.mk' (G1.out.trans g2)
  have d12 : w2.cell? ⟨w.heap.size, 12, none⟩ = some (.slice ao es.length co) := g2.cell c12 (by simp)
  cases hi : itemsB is
  ·go_wp2_with fail
   go_ret
   exact ⟨ret_bool (by simp [baseB, hi]), G2.out⟩
  ·go_wp2_with fail
   refine (outboxMay_any _ es _ (HO.out.grown G2.out)).mono ?_
   rintro e w3 ⟨rfl, g3⟩
   go_wp2_with fail
   go_ret
   exact ⟨ret_bool (by simp [baseB, hm, hi]), G2.out.trans g3⟩
theorem isNumber_g (n : Int) (w : World) :
  Calls Tryz.prog 207 #[.int .i64 n] w fun e w' => e = .returned (.bool (isN n)) /\ w.grownBy w' none := by
 refine (isNumber_any n w).mono ?_
 rintro e w' ⟨he, rfl⟩
 exact ⟨he, grownBy_refl _ _⟩
theorem may_1 (s : Int) (i : It) (m : Mk) (is : List It) (es : List En) (vi vo : Value) (w : World) (hi : LiesI w vi is) (ho : LiesE w vo es) :
  Calls Tryz.prog 184 #[rv 1 s i m vi vo] w fun e w' => e = .returned (.bool (mayB ⟨1, s, i, m, is, es⟩)) /\ w.grownBy w' none := by
 have HI := Hid.mk' hi
 have HO := Hid.mk' ho
 clear hi ho
 unfold rv
 obtain ⟨ai, ci, rfl, _⟩ := HI.out
 obtain ⟨ao, co, rfl, _⟩ := HO.out
 by_cases hs : ¬ s = 0
 ·have hs' : (s == 0) = false := by simp [hs]
  have E : mayB ⟨1, s, i, m, is, es⟩ = false := by simp [mayB, hs]
  rw [E]
  clear E hs
  go_enter Tryz.func184, Tryz.ntmps184
  go_wp2_with fail
  go_ret
  exact ⟨rfl, World.grownBy_alloc _ _ _⟩
 replace hs : s = 0 := by omega
 subst hs
 go_enter Tryz.func184, Tryz.ntmps184
 go_wp2_with fail
 refine Calls.mono (itMay_any i _) ?_
 rintro e w1 ⟨rfl, g1⟩
 have G1 := Hid.mk' ((World.grownBy_alloc w _ none).trans g1)
 obtain ⟨c1_0, c1_1, c1_2, c1_3, c1_4, c1_5, c1_6, c1_7, c1_8, c1_9, c1_10, c1_11, c1_12⟩ := A13 g1
 cases h1 : itB i
 ·go_wp2_with fail
  go_ret
  exact ⟨ret_bool (by simp [mayB, h1]), G1.out⟩
 go_wp2_with fail
 refine Calls.mono (noBase_any 1 0 i m ai ao is.length ci es.length co _) ?_
 rintro e w2 ⟨rfl, g2⟩
 have G2 := Hid.mk' (G1.out.trans g2)
 go_wp2_with fail
 go_ret
 exact ⟨ret_bool (by simp [mayB, nobB, h1]), G2.out⟩
theorem may_2 (s : Int) (i : It) (m : Mk) (is : List It) (es : List En) (vi vo : Value) (w : World) (hi : LiesI w vi is) (ho : LiesE w vo es) :
  Calls Tryz.prog 184 #[rv 2 s i m vi vo] w fun e w' => e = .returned (.bool (mayB ⟨2, s, i, m, is, es⟩)) /\ w.grownBy w' none := by
 have HI := Hid.mk' hi
 have HO := Hid.mk' ho
 clear hi ho
 unfold rv
 obtain ⟨ai, ci, rfl, _⟩ := HI.out
 obtain ⟨ao, co, rfl, _⟩ := HO.out
 by_cases hs : ¬ s = 0
 ·have hs' : (s == 0) = false := by simp [hs]
  have E : mayB ⟨2, s, i, m, is, es⟩ = false := by simp [mayB, hs]
  rw [E]
  clear E hs
  go_enter Tryz.func184, Tryz.ntmps184
  go_wp2_with fail
  go_ret
  exact ⟨rfl, World.grownBy_alloc _ _ _⟩
 replace hs : s = 0 := by omega
 subst hs
 go_enter Tryz.func184, Tryz.ntmps184
 go_wp2_with fail
 refine Calls.mono (idMay_any i.sh i.nu _) ?_
 rintro e w1 ⟨rfl, g1⟩
 have G1 := Hid.mk' ((World.grownBy_alloc w _ none).trans g1)
 obtain ⟨c1_0, c1_1, c1_2, c1_3, c1_4, c1_5, c1_6, c1_7, c1_8, c1_9, c1_10, c1_11, c1_12⟩ := A13 g1
 cases h1 : idB i.sh i.nu
 ·go_wp2_with fail
  go_ret
  exact ⟨ret_bool (by simp [mayB, h1]), G1.out⟩
 go_wp2_with fail
 refine Calls.mono (still_any i _) ?_
 rintro e w2 ⟨rfl, g2⟩
 have G2 := Hid.mk' (G1.out.trans g2)
 obtain ⟨c2_0, c2_1, c2_2, c2_3, c2_4, c2_5, c2_6, c2_7, c2_8, c2_9, c2_10, c2_11, c2_12⟩ := K13 g2 c1_0 c1_1 c1_2 c1_3 c1_4 c1_5 c1_6 c1_7 c1_8 c1_9 c1_10 c1_11 c1_12
 clear c1_0 c1_1 c1_2 c1_3 c1_4 c1_5 c1_6 c1_7 c1_8 c1_9 c1_10 c1_11 c1_12
 cases h2 : stB i
 ·go_wp2_with fail
  go_ret
  exact ⟨ret_bool (by simp [mayB, h2]), G2.out⟩
 go_wp2_with fail
 refine Calls.mono (noBase_any 2 0 i m ai ao is.length ci es.length co _) ?_
 rintro e w3 ⟨rfl, g3⟩
 have G3 := Hid.mk' (G2.out.trans g3)
 go_wp2_with fail
 go_ret
 exact ⟨ret_bool (by simp [mayB, nobB, h1, h2]), G3.out⟩
theorem may_3 (s : Int) (i : It) (m : Mk) (is : List It) (es : List En) (vi vo : Value) (w : World) (hi : LiesI w vi is) (ho : LiesE w vo es) :
  Calls Tryz.prog 184 #[rv 3 s i m vi vo] w fun e w' => e = .returned (.bool (mayB ⟨3, s, i, m, is, es⟩)) /\ w.grownBy w' none := by
 have HI := Hid.mk' hi
 have HO := Hid.mk' ho
 clear hi ho
 unfold rv
 obtain ⟨ai, ci, rfl, _⟩ := HI.out
 obtain ⟨ao, co, rfl, _⟩ := HO.out
 by_cases hs : ¬ s = 0
 ·have hs' : (s == 0) = false := by simp [hs]
  have E : mayB ⟨3, s, i, m, is, es⟩ = false := by simp [mayB, hs]
  rw [E]
  clear E hs
  go_enter Tryz.func184, Tryz.ntmps184
  go_wp2_with fail
  go_ret
  exact ⟨rfl, World.grownBy_alloc _ _ _⟩
 replace hs : s = 0 := by omega
 subst hs
 go_enter Tryz.func184, Tryz.ntmps184
 go_wp2_with fail
 refine Calls.mono (noThing_any i _) ?_
 rintro e w1 ⟨rfl, g1⟩
 have G1 := Hid.mk' ((World.grownBy_alloc w _ none).trans g1)
 obtain ⟨c1_0, c1_1, c1_2, c1_3, c1_4, c1_5, c1_6, c1_7, c1_8, c1_9, c1_10, c1_11, c1_12⟩ := A13 g1
 cases h1 : noIt i
 ·go_wp2_with fail
  go_ret
  exact ⟨ret_bool (by simp [mayB, h1]), G1.out⟩
 go_wp2_with fail
 refine Calls.mono (noBase_any 3 0 i m ai ao is.length ci es.length co _) ?_
 rintro e w2 ⟨rfl, g2⟩
 have G2 := Hid.mk' (G1.out.trans g2)
 go_wp2_with fail
 go_ret
 exact ⟨ret_bool (by simp [mayB, nobB, h1]), G2.out⟩
theorem may_4 (s : Int) (i : It) (m : Mk) (is : List It) (es : List En) (vi vo : Value) (w : World) (hi : LiesI w vi is) (ho : LiesE w vo es) :
  Calls Tryz.prog 184 #[rv 4 s i m vi vo] w fun e w' => e = .returned (.bool (mayB ⟨4, s, i, m, is, es⟩)) /\ w.grownBy w' none := by
 have HI := Hid.mk' hi
 have HO := Hid.mk' ho
 clear hi ho
 unfold rv
 obtain ⟨ai, ci, rfl, _⟩ := HI.out
 obtain ⟨ao, co, rfl, _⟩ := HO.out
 by_cases hs : ¬ 1 <= s
 ·have hs' : decide (1 <= s) = false := by simp; omega
  have E : mayB ⟨4, s, i, m, is, es⟩ = false := by simp [mayB, hs']
  rw [E]
  clear E hs
  go_enter Tryz.func184, Tryz.ntmps184
  go_wp2_with fail
  go_ret
  exact ⟨rfl, World.grownBy_alloc _ _ _⟩
 have hs' : decide (1 <= s) = true := by simp; omega
 go_enter Tryz.func184, Tryz.ntmps184
 go_wp2_with fail
 refine Calls.mono (isNumber_g s _) ?_
 rintro e w1 ⟨rfl, g1⟩
 have G1 := Hid.mk' ((World.grownBy_alloc w _ none).trans g1)
 obtain ⟨c1_0, c1_1, c1_2, c1_3, c1_4, c1_5, c1_6, c1_7, c1_8, c1_9, c1_10, c1_11, c1_12⟩ := A13 g1
 cases h1 : isN s
 ·go_wp2_with fail
  go_ret
  exact ⟨ret_bool (by simp [mayB, h1]), G1.out⟩
 go_wp2_with fail
 refine Calls.mono (itMay_any i _) ?_
 rintro e w2 ⟨rfl, g2⟩
 have G2 := Hid.mk' (G1.out.trans g2)
 obtain ⟨c2_0, c2_1, c2_2, c2_3, c2_4, c2_5, c2_6, c2_7, c2_8, c2_9, c2_10, c2_11, c2_12⟩ := K13 g2 c1_0 c1_1 c1_2 c1_3 c1_4 c1_5 c1_6 c1_7 c1_8 c1_9 c1_10 c1_11 c1_12
 clear c1_0 c1_1 c1_2 c1_3 c1_4 c1_5 c1_6 c1_7 c1_8 c1_9 c1_10 c1_11 c1_12
 cases h2 : itB i
 ·go_wp2_with fail
  go_ret
  exact ⟨ret_bool (by simp [mayB, h2]), G2.out⟩
 go_wp2_with fail
 refine Calls.mono (noBase_any 4 s i m ai ao is.length ci es.length co _) ?_
 rintro e w3 ⟨rfl, g3⟩
 have G3 := Hid.mk' (G2.out.trans g3)
 go_wp2_with fail
 go_ret
 exact ⟨ret_bool (by simp [mayB, nobB, h1, h2, hs']), G3.out⟩
theorem may_7 (s : Int) (i : It) (m : Mk) (is : List It) (es : List En) (vi vo : Value) (w : World) (hi : LiesI w vi is) (ho : LiesE w vo es) :
  Calls Tryz.prog 184 #[rv 7 s i m vi vo] w fun e w' => e = .returned (.bool (mayB ⟨7, s, i, m, is, es⟩)) /\ w.grownBy w' none := by
 have HI := Hid.mk' hi
 have HO := Hid.mk' ho
 clear hi ho
 unfold rv
 obtain ⟨ai, ci, rfl, _⟩ := HI.out
 obtain ⟨ao, co, rfl, _⟩ := HO.out
 by_cases hs : ¬ 1 <= s
 ·have hs' : decide (1 <= s) = false := by simp; omega
  have E : mayB ⟨7, s, i, m, is, es⟩ = false := by simp [mayB, hs']
  rw [E]
  clear E hs
  go_enter Tryz.func184, Tryz.ntmps184
  go_wp2_with fail
  go_ret
  exact ⟨rfl, World.grownBy_alloc _ _ _⟩
 have hs' : decide (1 <= s) = true := by simp; omega
 go_enter Tryz.func184, Tryz.ntmps184
 go_wp2_with fail
 refine Calls.mono (isNumber_g s _) ?_
 rintro e w1 ⟨rfl, g1⟩
 have G1 := Hid.mk' ((World.grownBy_alloc w _ none).trans g1)
 obtain ⟨c1_0, c1_1, c1_2, c1_3, c1_4, c1_5, c1_6, c1_7, c1_8, c1_9, c1_10, c1_11, c1_12⟩ := A13 g1
 cases h1 : isN s
 ·go_wp2_with fail
  go_ret
  exact ⟨ret_bool (by simp [mayB, h1]), G1.out⟩
 go_wp2_with fail
 refine Calls.mono (itMay_any i _) ?_
 rintro e w2 ⟨rfl, g2⟩
 have G2 := Hid.mk' (G1.out.trans g2)
 obtain ⟨c2_0, c2_1, c2_2, c2_3, c2_4, c2_5, c2_6, c2_7, c2_8, c2_9, c2_10, c2_11, c2_12⟩ := K13 g2 c1_0 c1_1 c1_2 c1_3 c1_4 c1_5 c1_6 c1_7 c1_8 c1_9 c1_10 c1_11 c1_12
 clear c1_0 c1_1 c1_2 c1_3 c1_4 c1_5 c1_6 c1_7 c1_8 c1_9 c1_10 c1_11 c1_12
 cases h2 : itB i
 ·go_wp2_with fail
  go_ret
  exact ⟨ret_bool (by simp [mayB, h2]), G2.out⟩
 go_wp2_with fail
 refine Calls.mono (noBase_any 7 s i m ai ao is.length ci es.length co _) ?_
 rintro e w3 ⟨rfl, g3⟩
 have G3 := Hid.mk' (G2.out.trans g3)
 go_wp2_with fail
 go_ret
 exact ⟨ret_bool (by simp [mayB, nobB, h1, h2, hs']), G3.out⟩
theorem may_5 (s : Int) (i : It) (m : Mk) (is : List It) (es : List En) (vi vo : Value) (w : World) (hi : LiesI w vi is) (ho : LiesE w vo es) :
  Calls Tryz.prog 184 #[rv 5 s i m vi vo] w fun e w' => e = .returned (.bool (mayB ⟨5, s, i, m, is, es⟩)) /\ w.grownBy w' none := by
 have HI := Hid.mk' hi
 have HO := Hid.mk' ho
 clear hi ho
 unfold rv
 obtain ⟨ai, ci, rfl, _⟩ := HI.out
 obtain ⟨ao, co, rfl, _⟩ := HO.out
 go_enter Tryz.func184, Tryz.ntmps184
 go_wp2_with fail
 refine Calls.mono (isNumber_g s _) ?_
 rintro e w1 ⟨rfl, g1⟩
 have G1 := Hid.mk' ((World.grownBy_alloc w _ none).trans g1)
 obtain ⟨c1_0, c1_1, c1_2, c1_3, c1_4, c1_5, c1_6, c1_7, c1_8, c1_9, c1_10, c1_11, c1_12⟩ := A13 g1
 cases h1 : isN s
 ·go_wp2_with fail
  go_ret
  exact ⟨ret_bool (by simp [mayB, h1]), G1.out⟩
 go_wp2_with fail
 refine Calls.mono (noThing_any i _) ?_
 rintro e w2 ⟨rfl, g2⟩
 have G2 := Hid.mk' (G1.out.trans g2)
 obtain ⟨c2_0, c2_1, c2_2, c2_3, c2_4, c2_5, c2_6, c2_7, c2_8, c2_9, c2_10, c2_11, c2_12⟩ := K13 g2 c1_0 c1_1 c1_2 c1_3 c1_4 c1_5 c1_6 c1_7 c1_8 c1_9 c1_10 c1_11 c1_12
 clear c1_0 c1_1 c1_2 c1_3 c1_4 c1_5 c1_6 c1_7 c1_8 c1_9 c1_10 c1_11 c1_12
 cases h2 : noIt i
 ·go_wp2_with fail
  go_ret
  exact ⟨ret_bool (by simp [mayB, h2]), G2.out⟩
 go_wp2_with fail
 refine Calls.mono (noBase_any 5 s i m ai ao is.length ci es.length co _) ?_
 rintro e w3 ⟨rfl, g3⟩
 have G3 := Hid.mk' (G2.out.trans g3)
 go_wp2_with fail
 go_ret
 exact ⟨ret_bool (by simp [mayB, nobB, h1, h2]), G3.out⟩
theorem may_8 (s : Int) (i : It) (m : Mk) (is : List It) (es : List En) (vi vo : Value) (w : World) (hi : LiesI w vi is) (ho : LiesE w vo es) :
  Calls Tryz.prog 184 #[rv 8 s i m vi vo] w fun e w' => e = .returned (.bool (mayB ⟨8, s, i, m, is, es⟩)) /\ w.grownBy w' none := by
 have HI := Hid.mk' hi
 have HO := Hid.mk' ho
 clear hi ho
 unfold rv
 obtain ⟨ai, ci, rfl, _⟩ := HI.out
 obtain ⟨ao, co, rfl, _⟩ := HO.out
 go_enter Tryz.func184, Tryz.ntmps184
 go_wp2_with fail
 refine Calls.mono (isNumber_g s _) ?_
 rintro e w1 ⟨rfl, g1⟩
 have G1 := Hid.mk' ((World.grownBy_alloc w _ none).trans g1)
 obtain ⟨c1_0, c1_1, c1_2, c1_3, c1_4, c1_5, c1_6, c1_7, c1_8, c1_9, c1_10, c1_11, c1_12⟩ := A13 g1
 cases h1 : isN s
 ·go_wp2_with fail
  go_ret
  exact ⟨ret_bool (by simp [mayB, h1]), G1.out⟩
 go_wp2_with fail
 refine Calls.mono (noThing_any i _) ?_
 rintro e w2 ⟨rfl, g2⟩
 have G2 := Hid.mk' (G1.out.trans g2)
 obtain ⟨c2_0, c2_1, c2_2, c2_3, c2_4, c2_5, c2_6, c2_7, c2_8, c2_9, c2_10, c2_11, c2_12⟩ := K13 g2 c1_0 c1_1 c1_2 c1_3 c1_4 c1_5 c1_6 c1_7 c1_8 c1_9 c1_10 c1_11 c1_12
 clear c1_0 c1_1 c1_2 c1_3 c1_4 c1_5 c1_6 c1_7 c1_8 c1_9 c1_10 c1_11 c1_12
 cases h2 : noIt i
 ·go_wp2_with fail
  go_ret
  exact ⟨ret_bool (by simp [mayB, h2]), G2.out⟩
 go_wp2_with fail
 refine Calls.mono (noBase_any 8 s i m ai ao is.length ci es.length co _) ?_
 rintro e w3 ⟨rfl, g3⟩
 have G3 := Hid.mk' (G2.out.trans g3)
 go_wp2_with fail
 go_ret
 exact ⟨ret_bool (by simp [mayB, nobB, h1, h2]), G3.out⟩
theorem may_6 (s : Int) (i : It) (m : Mk) (is : List It) (es : List En) (vi vo : Value) (w : World) (hi : LiesI w vi is) (ho : LiesE w vo es) :
  Calls Tryz.prog 184 #[rv 6 s i m vi vo] w fun e w' => e = .returned (.bool (mayB ⟨6, s, i, m, is, es⟩)) /\ w.grownBy w' none := by
 have HI := Hid.mk' hi
 have HO := Hid.mk' ho
 clear hi ho
 unfold rv
 obtain ⟨ai, ci, rfl, _⟩ := HI.out
 obtain ⟨ao, co, rfl, _⟩ := HO.out
 by_cases hs : ¬ s = 0
 ·have hs' : (s == 0) = false := by simp [hs]
  have E : mayB ⟨6, s, i, m, is, es⟩ = false := by simp [mayB, hs]
  rw [E]
  clear E hs
  go_enter Tryz.func184, Tryz.ntmps184
  go_wp2_with fail
  go_ret
  exact ⟨rfl, World.grownBy_alloc _ _ _⟩
 replace hs : s = 0 := by omega
 subst hs
 go_enter Tryz.func184, Tryz.ntmps184
 go_wp2_with fail
 refine Calls.mono (noThing_any i _) ?_
 rintro e w1 ⟨rfl, g1⟩
 have G1 := Hid.mk' ((World.grownBy_alloc w _ none).trans g1)
 obtain ⟨c1_0, c1_1, c1_2, c1_3, c1_4, c1_5, c1_6, c1_7, c1_8, c1_9, c1_10, c1_11, c1_12⟩ := A13 g1
 cases h1 : noIt i
 ·go_wp2_with fail
  go_ret
  exact ⟨ret_bool (by simp [mayB, h1]), G1.out⟩
 go_wp2_with fail
 refine Calls.mono (baseMay_any ⟨6, 0, i, m, is, es⟩ _ _ _ (HI.out.grown G1.out) (HO.out.grown G1.out)) ?_
 rintro e w2 ⟨rfl, g2⟩
 have G2 := Hid.mk' (G1.out.trans g2)
 go_wp2_with fail
 go_ret
 exact ⟨ret_bool (by simp [mayB, h1]), G2.out⟩
theorem may_other (K s : Int) (i : It) (m : Mk) (is : List It) (es : List En) (ai ao : Option Addr) (ni ci no co : Nat) (w : World) (hk : K < 1 ∨ 8 < K) :
  Calls Tryz.prog 184 #[rv K s i m (.slice ai ni ci) (.slice ao no co)] w fun e w' => e = .returned (.bool (mayB ⟨K, s, i, m, is, es⟩)) /\ w.grownBy w' none := by
 have E : mayB ⟨K, s, i, m, is, es⟩ = false := by
  unfold mayB
  rw [if_neg (by simp; omega), if_neg (by simp; omega), if_neg (by simp; omega), if_neg (by simp; omega), if_neg (by simp; omega), if_neg (by simp; omega)]
 rw [E]
 clear E
 have k1 : (K == 1) = false := by simp; omega
 have k2 : (K == 2) = false := by simp; omega
 have k3 : (K == 3) = false := by simp; omega
 have k4 : (K == 4) = false := by simp; omega
 have k5 : (K == 5) = false := by simp; omega
 have k6 : (K == 6) = false := by simp; omega
 have k7 : (K == 7) = false := by simp; omega
 have k8 : (K == 8) = false := by simp; omega
 clear hk
 unfold rv
 go_enter Tryz.func184, Tryz.ntmps184
 go_wp2_with fail
 go_ret
 exact ⟨rfl, World.grownBy_alloc _ _ _⟩
theorem may_any (r : Rc) (vi vo : Value) (w : World) (hi : LiesI w vi r.items) (ho : LiesE w vo r.outs) :
  Calls Tryz.prog 184 #[rv r.kind r.seq r.it r.mks vi vo] w fun e w' => e = .returned (.bool (mayB r)) /\ w.grownBy w' none := by
 obtain ⟨K, s, i, m, is, es⟩ := r
 by_cases hk : K < 1 ∨ 8 < K
 ·obtain ⟨ai, ci, rfl, _⟩ := hi
  obtain ⟨ao, co, rfl, _⟩ := ho
  exact may_other K s i m is es ai ao _ ci _ co w hk
 ·have : K = 1 ∨ K = 2 ∨ K = 3 ∨ K = 4 ∨ K = 5 ∨ K = 6 ∨ K = 7 ∨ K = 8 := by omega
  rcases this with rfl | rfl | rfl | rfl | rfl | rfl | rfl | rfl
  ·exact may_1 s i m is es vi vo w hi ho
  ·exact may_2 s i m is es vi vo w hi ho
  ·exact may_3 s i m is es vi vo w hi ho
  ·exact may_4 s i m is es vi vo w hi ho
  ·exact may_5 s i m is es vi vo w hi ho
  ·exact may_6 s i m is es vi vo w hi ho
  ·exact may_7 s i m is es vi vo w hi ho
  ·exact may_8 s i m is es vi vo w hi ho
def selfEq (x : Nat) : Prop := FloatKind.f32.format.order x x = some .eq
structure Fine (i : It) : Prop where
 p : selfEq i.pl
 s : selfEq i.sp
theorem order_self {x : Nat} (h : nearB x = true) : selfEq x := by
 unfold selfEq
 simp only [nearB, Bool.and_eq_true, Bool.or_eq_true, beq_iff_eq] at h
 obtain ⟨h, _⟩ := h
 simp only [Ieee.Format.order] at h ⊢
 generalize Ieee.Format.read FloatKind.f32.format x = d at *
 cases d with
 | nan s f => generalize Ieee.Format.read FloatKind.f32.format 3296329728 = c at *; cases c <;> simp [Ieee.Datum.order] at h
 | infinity s => simp [Ieee.Datum.order]
 | number s m e => simp [Ieee.Datum.order]
theorem fine_of {i : It} (h : itB i = true) : Fine i := by
 simp only [itB, Bool.and_eq_true] at h
 exact ⟨order_self h.1.2, order_self h.2⟩
theorem run_equalIn_f32 (d : Nat) (a b : Nat) (w : World) : (Op.equalIn (d + 1) 33 (.float .f32 a) (.float .f32 b)).run Tryz.prog w = .ok (FloatKind.f32.format.order a b == some .eq) w := by
 simp [Op.equalIn, run_underlying Tryz.underlying33, Op.floatEq]
theorem sameItems_x (is : List It) (g off c g' off' c' : Nat) (w : World) (hpos : 0 < is.length) (hmx : is.length <= 1000000) (hF : ∀ i ∈ is, Fine i)
  (hc : ∀ j u, (is.flatMap It.cells)[j]? = some u -> w.cell? ⟨g, off + j, none⟩ = some u) (hc' : ∀ j u, (is.flatMap It.cells)[j]? = some u -> w.cell? ⟨g', off' + j, none⟩ = some u) :
  Calls Tryz.prog 19 #[.slice (some ⟨g, off, none⟩) is.length c, .slice (some ⟨g', off', none⟩) is.length c'] w fun e w' => e = .returned (.bool true) /\ w.grownBy w' none := by
 obtain ⟨n, hL⟩ : ∃ n, is.length = n := ⟨_, rfl⟩
 rw [hL] at hmx hpos ⊢
 have HL : Hid (is.length = n) := hL
 clear hL
 have HC := Hid.mk' hc
 have HC' := Hid.mk' hc'
 have HF := Hid.mk' hF
 clear hc hc' hF
 have hq := run_equalIn_f32
 have hnn : ((n : Int) != (n : Int)) = false := by simp
 go_enter Tryz.func19, Tryz.ntmps19
 go_wp2
 go_loopw [5] (fun i wr => ∃ k : Nat, k <= n /\ i = .int .i64 k /\ w.grownBy wr none) (fun i _ => n - (intOf i).toNat)
 case atStart => exact ⟨0, by omega, rfl, grownBy_refl _ _⟩
 case round =>
  obtain ⟨k, hk, rfl, gk⟩ := hrel
  by_cases hlt : k < n
  ·have hkl : k < is.length := by rw [HL.out]; exact hlt
   obtain ⟨i, hi⟩ : ∃ i, is[k] = i := ⟨_, rfl⟩
   have d : ∀ j (hj : j < 4) u, i.cells[j]? = some u -> wr.cell? ⟨g, off + k * 4 + j, none⟩ = some u := fun j hj u hu => by
    have := HC.out (4 * k + j) u (by rw [flat_at4 is k j hkl hj, hi]; exact hu)
    rw [show off + (4 * k + j) = off + k * 4 + j by omega] at this
    exact gk.cell this (by simp)
   have d' : ∀ j (hj : j < 4) u, i.cells[j]? = some u -> wr.cell? ⟨g', off' + k * 4 + j, none⟩ = some u := fun j hj u hu => by
    have := HC'.out (4 * k + j) u (by rw [flat_at4 is k j hkl hj, hi]; exact hu)
    rw [show off' + (4 * k + j) = off' + k * 4 + j by omega] at this
    exact gk.cell this (by simp)
   have d0 := d 0 (by omega) _ rfl
   have d1 := d 1 (by omega) _ rfl
   have d2 := d 2 (by omega) _ rfl
   have d3 := d 3 (by omega) _ rfl
   have e0 := d' 0 (by omega) _ rfl
   have e1 := d' 1 (by omega) _ rfl
   have e2 := d' 2 (by omega) _ rfl
   have e3 := d' 3 (by omega) _ rfl
   have hf := HF.out i (by rw [<- hi]; exact List.getElem_mem hkl)
   have f1 : FloatKind.f32.format.order i.pl i.pl = some .eq := hf.p
   have f2 : FloatKind.f32.format.order i.sp i.sp = some .eq := hf.s
   clear d d' hi hf
   rw [Nat.add_zero] at d0 e0
   have y0 : (0 : Int) <= (k : Int) := by omega
   have y1 : (k : Int) < (n : Int) := by omega
   go_wp2_with fail
   go_quiet (fail)
   go_wp2
   exact ⟨⟨k + 1, by omega, by go_num, grownBy_drewN gk nq⟩, by simp [intOf]; omega⟩
  ·go_wp2
   go_ret
   exact ⟨rfl, gk⟩
theorem sameEntries_x (is : List En) (g off c g' off' c' : Nat) (w : World) (hpos : 0 < is.length) (hmx : is.length <= 1000000) (hF : ∀ i ∈ is, Fine i.it)
  (hc : ∀ j u, (is.flatMap En.cells)[j]? = some u -> w.cell? ⟨g, off + j, none⟩ = some u) (hc' : ∀ j u, (is.flatMap En.cells)[j]? = some u -> w.cell? ⟨g', off' + j, none⟩ = some u) :
  Calls Tryz.prog 20 #[.slice (some ⟨g, off, none⟩) is.length c, .slice (some ⟨g', off', none⟩) is.length c'] w fun e w' => e = .returned (.bool true) /\ w.grownBy w' none := by
 obtain ⟨n, hL⟩ : ∃ n, is.length = n := ⟨_, rfl⟩
 rw [hL] at hmx hpos ⊢
 have HL : Hid (is.length = n) := hL
 clear hL
 have HC := Hid.mk' hc
 have HC' := Hid.mk' hc'
 have HF := Hid.mk' hF
 clear hc hc' hF
 have hq := run_equalIn_f32
 have hnn : ((n : Int) != (n : Int)) = false := by simp
 go_enter Tryz.func20, Tryz.ntmps20
 go_wp2
 go_loopw [5] (fun i wr => ∃ k : Nat, k <= n /\ i = .int .i64 k /\ w.grownBy wr none) (fun i _ => n - (intOf i).toNat)
 case atStart => exact ⟨0, by omega, rfl, grownBy_refl _ _⟩
 case round =>
  obtain ⟨k, hk, rfl, gk⟩ := hrel
  by_cases hlt : k < n
  ·have hkl : k < is.length := by rw [HL.out]; exact hlt
   obtain ⟨i, hi⟩ : ∃ i, is[k] = i := ⟨_, rfl⟩
   have d : ∀ j (hj : j < 5) u, i.cells[j]? = some u -> wr.cell? ⟨g, off + k * 5 + j, none⟩ = some u := fun j hj u hu => by
    have := HC.out (5 * k + j) u (by rw [flat_at5 is k j hkl hj, hi]; exact hu)
    rw [show off + (5 * k + j) = off + k * 5 + j by omega] at this
    exact gk.cell this (by simp)
   have d' : ∀ j (hj : j < 5) u, i.cells[j]? = some u -> wr.cell? ⟨g', off' + k * 5 + j, none⟩ = some u := fun j hj u hu => by
    have := HC'.out (5 * k + j) u (by rw [flat_at5 is k j hkl hj, hi]; exact hu)
    rw [show off' + (5 * k + j) = off' + k * 5 + j by omega] at this
    exact gk.cell this (by simp)
   have d0 := d 0 (by omega) _ rfl
   have d1 := d 1 (by omega) _ rfl
   have d2 := d 2 (by omega) _ rfl
   have d3 := d 3 (by omega) _ rfl
   have d4 := d 4 (by omega) _ rfl
   have e0 := d' 0 (by omega) _ rfl
   have e1 := d' 1 (by omega) _ rfl
   have e2 := d' 2 (by omega) _ rfl
   have e3 := d' 3 (by omega) _ rfl
   have e4 := d' 4 (by omega) _ rfl
   have hf := HF.out i (by rw [<- hi]; exact List.getElem_mem hkl)
   have f1 : FloatKind.f32.format.order i.it.pl i.it.pl = some .eq := hf.p
   have f2 : FloatKind.f32.format.order i.it.sp i.it.sp = some .eq := hf.s
   clear d d' hi hf
   rw [Nat.add_zero] at d0 e0
   have y0 : (0 : Int) <= (k : Int) := by omega
   have y1 : (k : Int) < (n : Int) := by omega
   go_wp2_with fail
   go_quiet (fail)
   go_wp2
   exact ⟨⟨k + 1, by omega, by go_num, grownBy_drewN gk nq⟩, by simp [intOf]; omega⟩
  ·go_wp2
   go_ret
   exact ⟨rfl, gk⟩
theorem sameItems_any (va vb : Value) (is : List It) (w : World) (ha : LiesI w va is) (hb : LiesI w vb is) (hmx : is.length <= 1000000) (hF : ∀ i ∈ is, Fine i) :
  Calls Tryz.prog 19 #[va, vb] w fun e w' => e = .returned (.bool true) /\ w.grownBy w' none := by
 obtain ⟨a, c, rfl, hx⟩ := ha
 obtain ⟨a', c', rfl, hx'⟩ := hb
 by_cases hp : 0 < is.length
 ·obtain ⟨g, off, rfl, hc⟩ := hx hp
  obtain ⟨g', off', rfl, hc'⟩ := hx' hp
  exact sameItems_x is g off c g' off' c' w hp hmx hF hc hc'
 ·have e0 : is = [] := List.eq_nil_of_length_eq_zero (by omega)
  subst e0
  clear hx hx' hp hmx hF
  show Calls Tryz.prog 19 #[.slice a 0 c, .slice a' 0 c'] w _
  go_enter Tryz.func19, Tryz.ntmps19
  go_wp2
  refine wp_loop_rounds 1 ?_
  rw [rounds_succ]
  go_wp2
  go_ret
  exact ⟨rfl, grownBy_refl _ _⟩
theorem sameEntries_any (va vb : Value) (is : List En) (w : World) (ha : LiesE w va is) (hb : LiesE w vb is) (hmx : is.length <= 1000000) (hF : ∀ i ∈ is, Fine i.it) :
  Calls Tryz.prog 20 #[va, vb] w fun e w' => e = .returned (.bool true) /\ w.grownBy w' none := by
 obtain ⟨a, c, rfl, hx⟩ := ha
 obtain ⟨a', c', rfl, hx'⟩ := hb
 by_cases hp : 0 < is.length
 ·obtain ⟨g, off, rfl, hc⟩ := hx hp
  obtain ⟨g', off', rfl, hc'⟩ := hx' hp
  exact sameEntries_x is g off c g' off' c' w hp hmx hF hc hc'
 ·have e0 : is = [] := List.eq_nil_of_length_eq_zero (by omega)
  subst e0
  clear hx hx' hp hmx hF
  show Calls Tryz.prog 20 #[.slice a 0 c, .slice a' 0 c'] w _
  go_enter Tryz.func20, Tryz.ntmps20
  go_wp2
  refine wp_loop_rounds 1 ?_
  rw [rounds_succ]
  go_wp2
  go_ret
  exact ⟨rfl, grownBy_refl _ _⟩
end Go.Proofs.YtammnaafdhhjaaaGreat
