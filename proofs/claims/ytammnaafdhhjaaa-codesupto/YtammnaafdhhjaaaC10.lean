/- Ytammnaafdhhjaaa: entries that were lent read as they were. -/
import Derived.Test.YtammnaafdhhjaaaC3
import Derived.Deep.RegionLaw
import Derived.Test.YtammnaafdhhjaaaW3
namespace Go.Proofs.Ytammnaafdhhjaaa
open Go.RowKit

theorem still_held (i : It) (g g' : Nat) (w : World) (h : w.cell? ⟨g, 0, none⟩ = some (.int .i64 i.sh) ∧ w.cell? ⟨g, 1, none⟩ = some (.int .i64 i.nu) ∧ w.cell? ⟨g, 2, none⟩ = some (.float .f32 i.pl) ∧ w.cell? ⟨g, 3, none⟩ = some (.float .f32 i.sp)) (h' : w.cell? ⟨g', 0, none⟩ = some (.int .i64 i.sh) ∧ w.cell? ⟨g', 1, none⟩ = some (.int .i64 i.nu) ∧ w.cell? ⟨g', 2, none⟩ = some (.float .f32 i.pl) ∧ w.cell? ⟨g', 3, none⟩ = some (.float .f32 i.sp)) :
    Calls Try.prog 12 #[.slice (some ⟨g, 0, none⟩) 1 1, .slice (some ⟨g', 0, none⟩) 1 1] w fun e w' => e = .returned (.bool true) ∧ w.grownBy w' none := by
  have one : ∀ g, (w.cell? ⟨g, 0, none⟩ = some (.int .i64 i.sh) ∧ w.cell? ⟨g, 1, none⟩ = some (.int .i64 i.nu) ∧ w.cell? ⟨g, 2, none⟩ = some (.float .f32 i.pl) ∧ w.cell? ⟨g, 3, none⟩ = some (.float .f32 i.sp)) → LiesI w (.slice (some ⟨g, 0, none⟩) 1 1) [i] := fun g h => by
    refine ⟨_, 1, rfl, fun _ => ⟨g, 0, rfl, fun j u hu => ?_⟩⟩
    have hj : j < 4 := by have := (List.getElem?_eq_some_iff.1 hu).1; simpa [It.cells] using this
    simp only [List.flatMap_singleton, It.cells] at hu
    rw [Nat.zero_add]
    rcases (by omega : j = 0 ∨ j = 1 ∨ j = 2 ∨ j = 3) with rfl | rfl | rfl | rfl <;> (simp at hu; subst hu)
    · exact h.1
    · exact h.2.1
    · exact h.2.2.1
    · exact h.2.2.2
  exact stillItems_any _ _ [i] w (one g h) (one g' h') (by simp)

set_option maxHeartbeats 8000000 in
set_option maxRecDepth 100000 in
theorem stillEntries_x (is : List En) (g off c g' off' c' : Nat) (w : World) (hpos : 0 < is.length) (hmx : is.length ≤ 2000000)
    (hc : ∀ j u, (is.flatMap En.cells)[j]? = some u → w.cell? ⟨g, off + j, none⟩ = some u) (hc' : ∀ j u, (is.flatMap En.cells)[j]? = some u → w.cell? ⟨g', off' + j, none⟩ = some u) :
    Calls Try.prog 13 #[.slice (some ⟨g, off, none⟩) is.length c, .slice (some ⟨g', off', none⟩) is.length c'] w fun e w' => e = .returned (.bool true) ∧ w.grownBy w' none := by
  obtain ⟨n, hL⟩ : ∃ n, is.length = n := ⟨_, rfl⟩
  rw [hL] at hmx hpos ⊢
  have HL : Hid (is.length = n) := hL
  clear hL
  have HC := Hid.mk' hc
  have HC' := Hid.mk' hc'
  clear hc hc'
  go_enter Try.func13, Try.ntmps13
  go_wp2
  go_loopw [5] (fun i wr => ∃ k : Nat, k ≤ n ∧ i = .int .i64 k ∧ w.grownBy wr none) (fun i _ => n - (intOf i).toNat)
  case atStart => exact ⟨0, by omega, rfl, grownBy_refl _ _⟩
  case round =>
    obtain ⟨k, hk, rfl, gk⟩ := hrel
    by_cases hlt : k < n
    · have hkl : k < is.length := by rw [HL.out]; exact hlt
      obtain ⟨i, hi⟩ : ∃ i, is[k] = i := ⟨_, rfl⟩
      have d : ∀ j (hj : j < 5) u, i.cells[j]? = some u → wr.cell? ⟨g, off + k * 5 + j, none⟩ = some u := fun j hj u hu => by
        have := HC.out (5 * k + j) u (by rw [flat_at5 is k j hkl hj, hi]; exact hu)
        rw [show off + (5 * k + j) = off + k * 5 + j by omega] at this
        exact gk.cell this (by simp)
      have d' : ∀ j (hj : j < 5) u, i.cells[j]? = some u → wr.cell? ⟨g', off' + k * 5 + j, none⟩ = some u := fun j hj u hu => by
        have := HC'.out (5 * k + j) u (by rw [flat_at5 is k j hkl hj, hi]; exact hu)
        rw [show off' + (5 * k + j) = off' + k * 5 + j by omega] at this
        exact gk.cell this (by simp)
      have d0 := d 0 (by omega) _ rfl
      have d1 := d 1 (by omega) _ rfl
      have d2 := d 2 (by omega) _ rfl
      have d3 := d 3 (by omega) _ rfl
      have d4 := d 4 (by omega) _ rfl
      have e0 := d' 0 (by omega) _ rfl
      have e1 := d' 1 (by omega) _ rfl
      have e2 := d' 2 (by omega) _ rfl
      have e3 := d' 3 (by omega) _ rfl
      have e4 := d' 4 (by omega) _ rfl
      clear d d' hi
      rw [Nat.add_zero] at d0 e0
      have hg1 : g < wr.heap.size := World.block_lt_of_cell? wr _ d0
      have hg2 : g' < wr.heap.size := World.block_lt_of_cell? wr _ e0
      have hg3 : g ≠ wr.heap.size := by omega
      have hg4 : g' ≠ wr.heap.size := by omega
      have hg5 : g ≠ wr.heap.size + 1 := by omega
      have hg6 : g' ≠ wr.heap.size + 1 := by omega
      have y0 : (0 : Int) ≤ (k : Int) := by omega
      have y1 : (k : Int) < (n : Int) := by omega
      have GK := Hid.mk' gk
      clear gk
      obtain ⟨sq, it⟩ := i
      go_wp2_with fail
      go_region_law (first | (go_simp; go_at_call 12; refine Calls.mono (still_held it _ _ _ (by go_simp) (by go_simp)) ?_; rintro e w9 ⟨rfl, g9⟩))
      all_goals
        have z0 : w9.cell? ⟨g, off + k * 5, none⟩ = some (.int .i64 sq) := g9.cell (by go_simp) (by simp)
        have z1 : w9.cell? ⟨g', off' + k * 5, none⟩ = some (.int .i64 sq) := g9.cell (by go_simp) (by simp)
        have G9 := Hid.mk' ((grownBy_alloc' (grownBy_alloc' (grownBy_drew GK.out) _) _).trans g9)
        clear g9
        go_wp2_with fail
        go_quiet (fail)
        go_wp2
        exact ⟨⟨k + 1, by omega, by go_num, grownBy_drewN G9.out nq⟩, by simp [intOf]; omega⟩
    · go_wp2
      go_ret
      exact ⟨rfl, gk⟩

set_option maxHeartbeats 400000 in
theorem stillEntries_any (va vb : Value) (is : List En) (w : World) (ha : LiesE w va is) (hb : LiesE w vb is) (hmx : is.length ≤ 2000000) :
    Calls Try.prog 13 #[va, vb] w fun e w' => e = .returned (.bool true) ∧ w.grownBy w' none := by
  obtain ⟨a, c, rfl, hx⟩ := ha
  obtain ⟨a', c', rfl, hx'⟩ := hb
  by_cases hp : 0 < is.length
  · obtain ⟨g, off, rfl, hc⟩ := hx hp
    obtain ⟨g', off', rfl, hc'⟩ := hx' hp
    exact stillEntries_x is g off c g' off' c' w hp hmx hc hc'
  · have e0 : is = [] := List.eq_nil_of_length_eq_zero (by omega)
    subst e0
    clear hx hx' hp hmx
    show Calls Try.prog 13 #[.slice a 0 c, .slice a' 0 c'] w _
    go_enter Try.func13, Try.ntmps13
    go_wp2
    refine wp_loop_rounds 1 ?_
    rw [rounds_succ]
    go_wp2
    go_ret
    exact ⟨rfl, grownBy_refl _ _⟩
end Go.Proofs.Ytammnaafdhhjaaa
