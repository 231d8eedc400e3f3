/- Ytammnaafdhhjaaa: records held against one another. -/
import Derived.Test.YtammnaafdhhjaaaW7
namespace Go.Proofs.Ytammnaafdhhjaaa
open Go.RowKit

def selfEq (x : Nat) : Prop := FloatKind.f32.format.order x x = some .eq
structure Fine (i : It) : Prop where
  p : selfEq i.pl
  s : selfEq i.sp
theorem order_self {x : Nat} (h : nearB x = true) : selfEq x := by
  unfold selfEq
  simp only [nearB, Bool.and_eq_true, Bool.or_eq_true, beq_iff_eq] at h
  obtain ⟨h, _⟩ := h
  simp only [Ieee.Format.order] at h ⊢
  generalize Ieee.Format.read FloatKind.f32.format x = d at *
  cases d with
  | nan s f => generalize Ieee.Format.read FloatKind.f32.format 3296329728 = c at *; cases c <;> simp [Ieee.Datum.order] at h
  | infinity s => simp [Ieee.Datum.order]
  | number s m e => simp [Ieee.Datum.order]
theorem fine_of {i : It} (h : itB i = true) : Fine i := by
  simp only [itB, Bool.and_eq_true] at h
  exact ⟨order_self h.1.2, order_self h.2⟩
theorem fine0 : Fine it0 := ⟨by unfold selfEq; decide +kernel, by unfold selfEq; decide +kernel⟩

/-- The kit's set has no law for '==' of floats within structs. -/
theorem run_equalIn_f32 (d : Nat) (a b : Nat) (w : World) : (Op.equalIn (d + 1) 24 (.float .f32 a) (.float .f32 b)).run Try.prog w = .ok (FloatKind.f32.format.order a b == some .eq) w := by
  simp [Op.equalIn, run_underlying Try.underlying24, Op.floatEq]

set_option maxHeartbeats 2000000 in
theorem sameItems_x (is : List It) (g off c g' off' c' : Nat) (w : World) (hpos : 0 < is.length) (hmx : is.length ≤ 1000000) (hF : ∀ i ∈ is, Fine i)
    (hc : ∀ j u, (is.flatMap It.cells)[j]? = some u → w.cell? ⟨g, off + j, none⟩ = some u) (hc' : ∀ j u, (is.flatMap It.cells)[j]? = some u → w.cell? ⟨g', off' + j, none⟩ = some u) :
    Calls Try.prog 38 #[.slice (some ⟨g, off, none⟩) is.length c, .slice (some ⟨g', off', none⟩) is.length c'] w fun e w' => e = .returned (.bool true) ∧ w.grownBy w' none := by
  obtain ⟨n, hL⟩ : ∃ n, is.length = n := ⟨_, rfl⟩
  rw [hL] at hmx hpos ⊢
  have HL : Hid (is.length = n) := hL
  clear hL
  have HC := Hid.mk' hc
  have HC' := Hid.mk' hc'
  have HF := Hid.mk' hF
  clear hc hc' hF
  have hq := run_equalIn_f32
  have hnn : ((n : Int) != (n : Int)) = false := by simp
  go_enter Try.func38, Try.ntmps38
  go_wp2
  go_loopw [5] (fun i wr => ∃ k : Nat, k ≤ n ∧ i = .int .i64 k ∧ w.grownBy wr none) (fun i _ => n - (intOf i).toNat)
  case atStart => exact ⟨0, by omega, rfl, grownBy_refl _ _⟩
  case round =>
    obtain ⟨k, hk, rfl, gk⟩ := hrel
    by_cases hlt : k < n
    · have hkl : k < is.length := by rw [HL.out]; exact hlt
      obtain ⟨i, hi⟩ : ∃ i, is[k] = i := ⟨_, rfl⟩
      have d : ∀ j (hj : j < 4) u, i.cells[j]? = some u → wr.cell? ⟨g, off + k * 4 + j, none⟩ = some u := fun j hj u hu => by
        have := HC.out (4 * k + j) u (by rw [flat_at4 is k j hkl hj, hi]; exact hu)
        rw [show off + (4 * k + j) = off + k * 4 + j by omega] at this
        exact gk.cell this (by simp)
      have d' : ∀ j (hj : j < 4) u, i.cells[j]? = some u → wr.cell? ⟨g', off' + k * 4 + j, none⟩ = some u := fun j hj u hu => by
        have := HC'.out (4 * k + j) u (by rw [flat_at4 is k j hkl hj, hi]; exact hu)
        rw [show off' + (4 * k + j) = off' + k * 4 + j by omega] at this
        exact gk.cell this (by simp)
      have d0 := d 0 (by omega) _ rfl
      have d1 := d 1 (by omega) _ rfl
      have d2 := d 2 (by omega) _ rfl
      have d3 := d 3 (by omega) _ rfl
      have e0 := d' 0 (by omega) _ rfl
      have e1 := d' 1 (by omega) _ rfl
      have e2 := d' 2 (by omega) _ rfl
      have e3 := d' 3 (by omega) _ rfl
      have hf := HF.out i (by rw [← hi]; exact List.getElem_mem hkl)
      have f1 : FloatKind.f32.format.order i.pl i.pl = some .eq := hf.p
      have f2 : FloatKind.f32.format.order i.sp i.sp = some .eq := hf.s
      clear d d' hi hf
      rw [Nat.add_zero] at d0 e0
      have y0 : (0 : Int) ≤ (k : Int) := by omega
      have y1 : (k : Int) < (n : Int) := by omega
      go_wp2_with fail
      go_quiet (fail)
      go_wp2
      exact ⟨⟨k + 1, by omega, by go_num, grownBy_drewN gk nq⟩, by simp [intOf]; omega⟩
    · go_wp2
      go_ret
      exact ⟨rfl, gk⟩
set_option maxHeartbeats 2000000 in
theorem sameEntries_x (is : List En) (g off c g' off' c' : Nat) (w : World) (hpos : 0 < is.length) (hmx : is.length ≤ 1000000) (hF : ∀ i ∈ is, Fine i.it)
    (hc : ∀ j u, (is.flatMap En.cells)[j]? = some u → w.cell? ⟨g, off + j, none⟩ = some u) (hc' : ∀ j u, (is.flatMap En.cells)[j]? = some u → w.cell? ⟨g', off' + j, none⟩ = some u) :
    Calls Try.prog 39 #[.slice (some ⟨g, off, none⟩) is.length c, .slice (some ⟨g', off', none⟩) is.length c'] w fun e w' => e = .returned (.bool true) ∧ w.grownBy w' none := by
  obtain ⟨n, hL⟩ : ∃ n, is.length = n := ⟨_, rfl⟩
  rw [hL] at hmx hpos ⊢
  have HL : Hid (is.length = n) := hL
  clear hL
  have HC := Hid.mk' hc
  have HC' := Hid.mk' hc'
  have HF := Hid.mk' hF
  clear hc hc' hF
  have hq := run_equalIn_f32
  have hnn : ((n : Int) != (n : Int)) = false := by simp
  go_enter Try.func39, Try.ntmps39
  go_wp2
  go_loopw [5] (fun i wr => ∃ k : Nat, k ≤ n ∧ i = .int .i64 k ∧ w.grownBy wr none) (fun i _ => n - (intOf i).toNat)
  case atStart => exact ⟨0, by omega, rfl, grownBy_refl _ _⟩
  case round =>
    obtain ⟨k, hk, rfl, gk⟩ := hrel
    by_cases hlt : k < n
    · have hkl : k < is.length := by rw [HL.out]; exact hlt
      obtain ⟨i, hi⟩ : ∃ i, is[k] = i := ⟨_, rfl⟩
      have d : ∀ j (hj : j < 5) u, i.cells[j]? = some u → wr.cell? ⟨g, off + k * 5 + j, none⟩ = some u := fun j hj u hu => by
        have := HC.out (5 * k + j) u (by rw [flat_at5 is k j hkl hj, hi]; exact hu)
        rw [show off + (5 * k + j) = off + k * 5 + j by omega] at this
        exact gk.cell this (by simp)
      have d' : ∀ j (hj : j < 5) u, i.cells[j]? = some u → wr.cell? ⟨g', off' + k * 5 + j, none⟩ = some u := fun j hj u hu => by
        have := HC'.out (5 * k + j) u (by rw [flat_at5 is k j hkl hj, hi]; exact hu)
        rw [show off' + (5 * k + j) = off' + k * 5 + j by omega] at this
        exact gk.cell this (by simp)
      have d0 := d 0 (by omega) _ rfl
      have d1 := d 1 (by omega) _ rfl
      have d2 := d 2 (by omega) _ rfl
      have d3 := d 3 (by omega) _ rfl
      have d4 := d 4 (by omega) _ rfl
      have e0 := d' 0 (by omega) _ rfl
      have e1 := d' 1 (by omega) _ rfl
      have e2 := d' 2 (by omega) _ rfl
      have e3 := d' 3 (by omega) _ rfl
      have e4 := d' 4 (by omega) _ rfl
      have hf := HF.out i (by rw [← hi]; exact List.getElem_mem hkl)
      have f1 : FloatKind.f32.format.order i.it.pl i.it.pl = some .eq := hf.p
      have f2 : FloatKind.f32.format.order i.it.sp i.it.sp = some .eq := hf.s
      clear d d' hi hf
      rw [Nat.add_zero] at d0 e0
      have y0 : (0 : Int) ≤ (k : Int) := by omega
      have y1 : (k : Int) < (n : Int) := by omega
      go_wp2_with fail
      go_quiet (fail)
      go_wp2
      exact ⟨⟨k + 1, by omega, by go_num, grownBy_drewN gk nq⟩, by simp [intOf]; omega⟩
    · go_wp2
      go_ret
      exact ⟨rfl, gk⟩

set_option maxHeartbeats 400000 in
theorem sameItems_any (va vb : Value) (is : List It) (w : World) (ha : LiesI w va is) (hb : LiesI w vb is) (hmx : is.length ≤ 1000000) (hF : ∀ i ∈ is, Fine i) :
    Calls Try.prog 38 #[va, vb] w fun e w' => e = .returned (.bool true) ∧ w.grownBy w' none := by
  obtain ⟨a, c, rfl, hx⟩ := ha
  obtain ⟨a', c', rfl, hx'⟩ := hb
  by_cases hp : 0 < is.length
  · obtain ⟨g, off, rfl, hc⟩ := hx hp
    obtain ⟨g', off', rfl, hc'⟩ := hx' hp
    exact sameItems_x is g off c g' off' c' w hp hmx hF hc hc'
  · have e0 : is = [] := List.eq_nil_of_length_eq_zero (by omega)
    subst e0
    clear hx hx' hp hmx hF
    show Calls Try.prog 38 #[.slice a 0 c, .slice a' 0 c'] w _
    go_enter Try.func38, Try.ntmps38
    go_wp2
    refine wp_loop_rounds 1 ?_
    rw [rounds_succ]
    go_wp2
    go_ret
    exact ⟨rfl, grownBy_refl _ _⟩


set_option maxHeartbeats 400000 in
theorem sameEntries_any (va vb : Value) (is : List En) (w : World) (ha : LiesE w va is) (hb : LiesE w vb is) (hmx : is.length ≤ 1000000) (hF : ∀ i ∈ is, Fine i.it) :
    Calls Try.prog 39 #[va, vb] w fun e w' => e = .returned (.bool true) ∧ w.grownBy w' none := by
  obtain ⟨a, c, rfl, hx⟩ := ha
  obtain ⟨a', c', rfl, hx'⟩ := hb
  by_cases hp : 0 < is.length
  · obtain ⟨g, off, rfl, hc⟩ := hx hp
    obtain ⟨g', off', rfl, hc'⟩ := hx' hp
    exact sameEntries_x is g off c g' off' c' w hp hmx hF hc hc'
  · have e0 : is = [] := List.eq_nil_of_length_eq_zero (by omega)
    subst e0
    clear hx hx' hp hmx hF
    show Calls Try.prog 39 #[.slice a 0 c, .slice a' 0 c'] w _
    go_enter Try.func39, Try.ntmps39
    go_wp2
    refine wp_loop_rounds 1 ?_
    rw [rounds_succ]
    go_wp2
    go_ret
    exact ⟨rfl, grownBy_refl _ _⟩

set_option maxHeartbeats 2000000 in
theorem sameRecord_any (K s : Int) (i : It) (m : Mk) (is : List It) (es : List En) (vi vo ui uo : Value) (w : World) (hi : LiesI w vi is) (ho : LiesE w vo es) (ki : LiesI w ui is) (ko : LiesE w uo es)
    (hl : is.length ≤ 1000000) (hl' : es.length ≤ 1000000) (fi : Fine i) (fI : ∀ x ∈ is, Fine x) (fE : ∀ x ∈ es, Fine x.it) :
    Calls Try.prog 23 #[rv K s i m vi vo, rv K s i m ui uo] w fun e w' => e = .returned (.bool true) ∧ w.grownBy w' none := by
  have HI := Hid.mk' hi
  have HO := Hid.mk' ho
  have KI := Hid.mk' ki
  have KO := Hid.mk' ko
  have FI := Hid.mk' fI
  have FE := Hid.mk' fE
  clear hi ho ki ko fI fE
  unfold rv
  obtain ⟨ai, ci, rfl, _⟩ := HI.out
  obtain ⟨ao, co, rfl, _⟩ := HO.out
  obtain ⟨bi, di, rfl, _⟩ := KI.out
  obtain ⟨bo, do', rfl, _⟩ := KO.out
  have f1 : FloatKind.f32.format.order i.pl i.pl = some .eq := fi.p
  have f2 : FloatKind.f32.format.order i.sp i.sp = some .eq := fi.s
  clear fi
  have hq := run_equalIn_f32
  have G0 : Hid (w.grownBy ((w.alloc _).alloc _) none) := grownBy_alloc' (World.grownBy_alloc w (.cells #[.int .i64 K, .int .i64 s, .int .i64 i.sh, .int .i64 i.nu, .float .f32 i.pl, .float .f32 i.sp, .int .i64 m.g, .int .i64 m.m, .int .i64 m.s, .int .i64 m.a, .int .i64 m.n, .slice ai is.length ci, .slice ao es.length co] 32) none) (.cells #[.int .i64 K, .int .i64 s, .int .i64 i.sh, .int .i64 i.nu, .float .f32 i.pl, .float .f32 i.sp, .int .i64 m.g, .int .i64 m.m, .int .i64 m.s, .int .i64 m.a, .int .i64 m.n, .slice bi is.length di, .slice bo es.length do'] 32)
  go_enter Try.func23, Try.ntmps23
  go_wp2_with fail
  refine Calls.mono (sameItems_any _ _ is _ (HI.out.grown G0.out) (KI.out.grown G0.out) hl FI.out) ?_
  rintro e w1 ⟨rfl, g1⟩
  have G1 := Hid.mk' (G0.out.trans g1)
  have c0_0 : w1.cell? ⟨w.heap.size, 0, none⟩ = some (.int .i64 K) := g1.cell (by go_simp) (by simp)
  have c0_1 : w1.cell? ⟨w.heap.size, 1, none⟩ = some (.int .i64 s) := g1.cell (by go_simp) (by simp)
  have c0_2 : w1.cell? ⟨w.heap.size, 2, none⟩ = some (.int .i64 i.sh) := g1.cell (by go_simp) (by simp)
  have c0_3 : w1.cell? ⟨w.heap.size, 3, none⟩ = some (.int .i64 i.nu) := g1.cell (by go_simp) (by simp)
  have c0_4 : w1.cell? ⟨w.heap.size, 4, none⟩ = some (.float .f32 i.pl) := g1.cell (by go_simp) (by simp)
  have c0_5 : w1.cell? ⟨w.heap.size, 5, none⟩ = some (.float .f32 i.sp) := g1.cell (by go_simp) (by simp)
  have c0_6 : w1.cell? ⟨w.heap.size, 6, none⟩ = some (.int .i64 m.g) := g1.cell (by go_simp) (by simp)
  have c0_7 : w1.cell? ⟨w.heap.size, 7, none⟩ = some (.int .i64 m.m) := g1.cell (by go_simp) (by simp)
  have c0_8 : w1.cell? ⟨w.heap.size, 8, none⟩ = some (.int .i64 m.s) := g1.cell (by go_simp) (by simp)
  have c0_9 : w1.cell? ⟨w.heap.size, 9, none⟩ = some (.int .i64 m.a) := g1.cell (by go_simp) (by simp)
  have c0_10 : w1.cell? ⟨w.heap.size, 10, none⟩ = some (.int .i64 m.n) := g1.cell (by go_simp) (by simp)
  have c0_11 : w1.cell? ⟨w.heap.size, 11, none⟩ = some (.slice ai is.length ci) := g1.cell (by go_simp) (by simp)
  have c0_12 : w1.cell? ⟨w.heap.size, 12, none⟩ = some (.slice ao es.length co) := g1.cell (by go_simp) (by simp)
  have c1_0 : w1.cell? ⟨w.heap.size + 1, 0, none⟩ = some (.int .i64 K) := g1.cell (by go_simp) (by simp)
  have c1_1 : w1.cell? ⟨w.heap.size + 1, 1, none⟩ = some (.int .i64 s) := g1.cell (by go_simp) (by simp)
  have c1_2 : w1.cell? ⟨w.heap.size + 1, 2, none⟩ = some (.int .i64 i.sh) := g1.cell (by go_simp) (by simp)
  have c1_3 : w1.cell? ⟨w.heap.size + 1, 3, none⟩ = some (.int .i64 i.nu) := g1.cell (by go_simp) (by simp)
  have c1_4 : w1.cell? ⟨w.heap.size + 1, 4, none⟩ = some (.float .f32 i.pl) := g1.cell (by go_simp) (by simp)
  have c1_5 : w1.cell? ⟨w.heap.size + 1, 5, none⟩ = some (.float .f32 i.sp) := g1.cell (by go_simp) (by simp)
  have c1_6 : w1.cell? ⟨w.heap.size + 1, 6, none⟩ = some (.int .i64 m.g) := g1.cell (by go_simp) (by simp)
  have c1_7 : w1.cell? ⟨w.heap.size + 1, 7, none⟩ = some (.int .i64 m.m) := g1.cell (by go_simp) (by simp)
  have c1_8 : w1.cell? ⟨w.heap.size + 1, 8, none⟩ = some (.int .i64 m.s) := g1.cell (by go_simp) (by simp)
  have c1_9 : w1.cell? ⟨w.heap.size + 1, 9, none⟩ = some (.int .i64 m.a) := g1.cell (by go_simp) (by simp)
  have c1_10 : w1.cell? ⟨w.heap.size + 1, 10, none⟩ = some (.int .i64 m.n) := g1.cell (by go_simp) (by simp)
  have c1_11 : w1.cell? ⟨w.heap.size + 1, 11, none⟩ = some (.slice bi is.length di) := g1.cell (by go_simp) (by simp)
  have c1_12 : w1.cell? ⟨w.heap.size + 1, 12, none⟩ = some (.slice bo es.length do') := g1.cell (by go_simp) (by simp)
  go_wp2_with fail
  refine Calls.mono (sameEntries_any _ _ es _ (HO.out.grown G1.out) (KO.out.grown G1.out) hl' FE.out) ?_
  rintro e w2 ⟨rfl, g2⟩
  have d0_0 : w2.cell? ⟨w.heap.size, 0, none⟩ = some (.int .i64 K) := g2.cell c0_0 (by simp)
  have d0_1 : w2.cell? ⟨w.heap.size, 1, none⟩ = some (.int .i64 s) := g2.cell c0_1 (by simp)
  have d0_2 : w2.cell? ⟨w.heap.size, 2, none⟩ = some (.int .i64 i.sh) := g2.cell c0_2 (by simp)
  have d0_3 : w2.cell? ⟨w.heap.size, 3, none⟩ = some (.int .i64 i.nu) := g2.cell c0_3 (by simp)
  have d0_4 : w2.cell? ⟨w.heap.size, 4, none⟩ = some (.float .f32 i.pl) := g2.cell c0_4 (by simp)
  have d0_5 : w2.cell? ⟨w.heap.size, 5, none⟩ = some (.float .f32 i.sp) := g2.cell c0_5 (by simp)
  have d0_6 : w2.cell? ⟨w.heap.size, 6, none⟩ = some (.int .i64 m.g) := g2.cell c0_6 (by simp)
  have d0_7 : w2.cell? ⟨w.heap.size, 7, none⟩ = some (.int .i64 m.m) := g2.cell c0_7 (by simp)
  have d0_8 : w2.cell? ⟨w.heap.size, 8, none⟩ = some (.int .i64 m.s) := g2.cell c0_8 (by simp)
  have d0_9 : w2.cell? ⟨w.heap.size, 9, none⟩ = some (.int .i64 m.a) := g2.cell c0_9 (by simp)
  have d0_10 : w2.cell? ⟨w.heap.size, 10, none⟩ = some (.int .i64 m.n) := g2.cell c0_10 (by simp)
  have d1_0 : w2.cell? ⟨w.heap.size + 1, 0, none⟩ = some (.int .i64 K) := g2.cell c1_0 (by simp)
  have d1_1 : w2.cell? ⟨w.heap.size + 1, 1, none⟩ = some (.int .i64 s) := g2.cell c1_1 (by simp)
  have d1_2 : w2.cell? ⟨w.heap.size + 1, 2, none⟩ = some (.int .i64 i.sh) := g2.cell c1_2 (by simp)
  have d1_3 : w2.cell? ⟨w.heap.size + 1, 3, none⟩ = some (.int .i64 i.nu) := g2.cell c1_3 (by simp)
  have d1_4 : w2.cell? ⟨w.heap.size + 1, 4, none⟩ = some (.float .f32 i.pl) := g2.cell c1_4 (by simp)
  have d1_5 : w2.cell? ⟨w.heap.size + 1, 5, none⟩ = some (.float .f32 i.sp) := g2.cell c1_5 (by simp)
  have d1_6 : w2.cell? ⟨w.heap.size + 1, 6, none⟩ = some (.int .i64 m.g) := g2.cell c1_6 (by simp)
  have d1_7 : w2.cell? ⟨w.heap.size + 1, 7, none⟩ = some (.int .i64 m.m) := g2.cell c1_7 (by simp)
  have d1_8 : w2.cell? ⟨w.heap.size + 1, 8, none⟩ = some (.int .i64 m.s) := g2.cell c1_8 (by simp)
  have d1_9 : w2.cell? ⟨w.heap.size + 1, 9, none⟩ = some (.int .i64 m.a) := g2.cell c1_9 (by simp)
  have d1_10 : w2.cell? ⟨w.heap.size + 1, 10, none⟩ = some (.int .i64 m.n) := g2.cell c1_10 (by simp)
  clear c0_0 c0_1 c0_2 c0_3 c0_4 c0_5 c0_6 c0_7 c0_8 c0_9 c0_10 c0_11 c0_12 c1_0 c1_1 c1_2 c1_3 c1_4 c1_5 c1_6 c1_7 c1_8 c1_9 c1_10 c1_11 c1_12
  go_wp2_with fail
  go_ret
  exact ⟨rfl, G1.out.trans g2⟩
end Go.Proofs.Ytammnaafdhhjaaa
