/- Ytammnaafdhhjaaa: do the lists still read as they were written? -/
import Derived.Test.YtammnaafdhhjaaaC7
import Derived.Test.YtammnaafdhhjaaaS1
import Derived.BigQuiet
namespace Go.Proofs.Ytammnaafdhhjaaa
open Go.RowKit

theorem flat_at2 (xs : List (Value × Int)) (i j : Nat) (hi : i < xs.length) (hj : j < 2) : (xs.flatMap outC)[i * 2 + j]? = (outC xs[i])[j]? := by
  induction xs generalizing i with
  | nil => simp at hi
  | cons a t ih =>
    rw [List.flatMap_cons]
    cases i with
    | zero => rw [List.getElem?_append_left (by simp [outC]; omega)]; simp
    | succ i =>
      rw [List.getElem?_append_right (by simp [outC]; omega)]
      have := ih i (by simp at hi; omega)
      simp only [List.getElem_cons_succ]
      rw [← this]
      congr 1
      simp [outC]
      omega
theorem order00 : FloatKind.f32.format.order 0 0 = some .eq := by decide +kernel

set_option maxHeartbeats 4000000 in
set_option maxRecDepth 100000 in
theorem looks_any (B bk : Nat) (vI vE : Value) (xi xe : List (Value × Int)) (A : Nat → Prop) (w : World) (h : Book w B bk vI vE xi xe A) (hxi : xi.length ≤ 10000000) (hxe : xe.length ≤ 10000000) :
    Calls Try.prog 20 #[.pointer (some ⟨bk, 0, none⟩)] w fun e w' => e = .returned (.bool true) ∧ w.grownBy w' none := by
  obtain ⟨aI, cI, hvI⟩ := slice_len h.rI
  obtain ⟨aE, cE, hvE⟩ := slice_len h.rE
  have HH := Hid.mk' h
  obtain ⟨nI, hnI⟩ : ∃ n, xi.length = n := ⟨_, rfl⟩
  obtain ⟨nE, hnE⟩ : ∃ n, xe.length = n := ⟨_, rfl⟩
  have c0 := h.c0
  have c1 := h.c1
  have c2 := h.c2
  rw [hvI, hnI] at c0
  rw [hvE, hnE] at c1
  have HVI := Hid.mk' hvI
  have HVE := Hid.mk' hvE
  have HNI := Hid.mk' hnI
  have HNE := Hid.mk' hnE
  rw [hnI] at hxi
  rw [hnE] at hxe
  clear h hvI hvE hnI hnE
  have hq := run_equalIn_f32
  have hsf := run_store_float
  have o00 := order00
  go_enter Try.func20, Try.ntmps20
  go_wp2_with fail
  go_loopw [3] (fun t wr => ∃ i : Nat, i ≤ nI ∧ t = .int .i64 i ∧ w.grownBy wr none) (fun t _ => nI - (intOf t).toNat)
  case atStart => exact ⟨0, by omega, rfl, grownBy_refl _ _⟩
  case round =>
    obtain ⟨i, hi, rfl, gi⟩ := hrel
    have GI := Hid.mk' gi
    have k0 := gi.cell c0 (by simp)
    have k1 := gi.cell c1 (by simp)
    have k2 := gi.cell c2 (by simp)
    clear gi
    by_cases hlt : i < nI
    · have hil : i < xi.length := by rw [HNI.out]; exact hlt
      obtain ⟨gI, hgI⟩ : ∃ gI, aI = some ⟨gI, 0, none⟩ := by
        have hr := HH.out.rI
        rw [HVI.out] at hr
        rcases hr.2 with ⟨h', hn0⟩ | ⟨g, cap, cur, h', _⟩
        · omega
        · injection h' with h1 h2 h3
          exact ⟨g, h1⟩
      subst hgI
      obtain ⟨p, hp⟩ : ∃ p, xi[i] = p := ⟨_, rfl⟩
      obtain ⟨v, mk⟩ := p
      have hpm : (v, mk) ∈ xi := by rw [← hp]; exact List.getElem_mem _
      obtain ⟨n, hn, a, c, hv, hcell⟩ := HH.out.mi (v, mk) hpm
      simp only at hv
      subst hv
      have hr := HH.out.rI
      rw [HVI.out] at hr
      have d0 : wr.cell? ⟨gI, i * 2, none⟩ = some (.slice a n c) := GI.out.cell ((hr.cellAt (i * 2) (by omega)).trans (by have := flat_at2 xi i 0 hil (by omega); rw [Nat.add_zero] at this; rw [this, hp]; rfl)) (by simp)
      have d1 : wr.cell? ⟨gI, i * 2 + 1, none⟩ = some (.int .i64 mk) := GI.out.cell ((hr.cellAt (i * 2 + 1) (by omega)).trans (by rw [flat_at2 xi i 1 hil (by omega), hp]; rfl)) (by simp)
      have HC := Hid.mk' hcell
      clear hr hcell hp
      have x0 : (0 : Int) ≤ (i : Int) := by omega
      have x1 : (i : Int) < (nI : Int) := by omega
      have hm := HH.out.bi _ hpm
      simp only at hm
      have m5 : IntKind.i64.wrap (-9 - mk) = -9 - mk := by simp [IntKind.wrap, IntKind.bits, IntKind.signed]; omega
      have m6 : wrap64 (-9 - mk) = -9 - mk := by simp [wrap64]; omega
      go_wp2_with fail
      have W0 := Hid.mk' (GI.out.trans (World.grownBy_alloc wr (.cells #[.int .i64 (-9 - mk), .int .i64 0, .float .f32 0, .float .f32 0] 26) none))
      have kk : ∀ w', (wr.alloc (.cells #[.int .i64 (-9 - mk), .int .i64 0, .float .f32 0, .float .f32 0] 26)).grownBy w' none → w'.cell? ⟨bk, 0, none⟩ = some (.slice (some ⟨gI, 0, none⟩) nI cI) ∧ w'.cell? ⟨gI, i * 2, none⟩ = some (.slice a n c) ∧ w'.cell? ⟨wr.heap.size, 0, none⟩ = some (.int .i64 (-9 - mk)) ∧ w'.cell? ⟨wr.heap.size, 1, none⟩ = some (.int .i64 0) ∧ w'.cell? ⟨wr.heap.size, 2, none⟩ = some (.float .f32 0) ∧ w'.cell? ⟨wr.heap.size, 3, none⟩ = some (.float .f32 0) := fun w' g =>
        ⟨g.cell ((World.grownBy_alloc wr _ none).cell k0 (by simp)) (by simp), g.cell ((World.grownBy_alloc wr _ none).cell d0 (by simp)) (by simp), g.cell (by go_simp) (by simp), g.cell (by go_simp) (by simp), g.cell (by go_simp) (by simp), g.cell (by go_simp) (by simp)⟩
      have KK := Hid.mk' kk
      clear kk k0 d0 d1
      generalize (wr.alloc (.cells #[.int .i64 (-9 - mk), .int .i64 0, .float .f32 0, .float .f32 0] 26)) = w0 at *
      go_loopw [5] (fun t wq => ∃ q : Nat, q ≤ n ∧ t = .int .i64 q ∧ w0.grownBy wq none) (fun t _ => n - (intOf t).toNat)
      case atStart => exact ⟨0, by omega, rfl, grownBy_refl _ _⟩
      case round =>
        obtain ⟨q, hq2, rfl, gq⟩ := hrel
        obtain ⟨r0, r1, r2, r3, r4, r5⟩ := KK.out _ gq
        have GQ := Hid.mk' gq
        clear gq
        by_cases hqn : q < n
        · obtain ⟨g, hg, _, hcs⟩ := HC.out (by omega)
          subst hg
          have e : ∀ j (hj : j < 4) u, (mkIt mk).cells[j]? = some u → wr.cell? ⟨g, q * 4 + j, none⟩ = some u := fun j hj u hu => by
            have := hcs (4 * q + j) u (by rw [flat_at4 _ q j (by simp; exact hqn) hj]; simpa using hu)
            rw [show 4 * q + j = q * 4 + j by omega] at this
            exact (W0.out.trans GQ.out).cell this (by simp)
          have e0 := e 0 (by omega) _ rfl
          have e1 := e 1 (by omega) _ rfl
          have e2 := e 2 (by omega) _ rfl
          have e3 := e 3 (by omega) _ rfl
          rw [Nat.add_zero] at e0
          simp only [mkIt] at e0 e1 e2 e3
          clear e hcs
          have y0 : (0 : Int) ≤ (q : Int) := by omega
          have y1 : (q : Int) < (n : Int) := by omega
          go_wp2_with fail
          go_quiet (fail)
          go_wp2
          exact ⟨⟨q + 1, by omega, by go_num, grownBy_drewN GQ.out nq⟩, by simp [intOf]; omega⟩
        · go_wp2_with fail
          exact ⟨⟨i + 1, by omega, by go_num, W0.out.trans GQ.out⟩, by simp [intOf]; omega⟩
    · go_wp2_with fail
      clear k0 c0
      go_loopw [6] (fun t wr => ∃ i : Nat, i ≤ nE ∧ t = .int .i64 i ∧ w.grownBy wr none) (fun t _ => nE - (intOf t).toNat)
      case atStart => exact ⟨0, by omega, rfl, GI.out⟩
      case round =>
        obtain ⟨i, hi, rfl, gi⟩ := hrel
        clear GI k1 k2
        have GI := Hid.mk' gi
        have k1 := gi.cell c1 (by simp)
        have k2 := gi.cell c2 (by simp)
        clear gi
        by_cases hlt : i < nE
        · have hil : i < xe.length := by rw [HNE.out]; exact hlt
          obtain ⟨gE, hgE⟩ : ∃ gE, aE = some ⟨gE, 0, none⟩ := by
            have hr := HH.out.rE
            rw [HVE.out] at hr
            rcases hr.2 with ⟨h', hn0⟩ | ⟨g, cap, cur, h', _⟩
            · omega
            · injection h' with h1 h2 h3
              exact ⟨g, h1⟩
          subst hgE
          obtain ⟨p, hp⟩ : ∃ p, xe[i] = p := ⟨_, rfl⟩
          obtain ⟨v, mk⟩ := p
          have hpm : (v, mk) ∈ xe := by rw [← hp]; exact List.getElem_mem _
          obtain ⟨n, hn, a, c, hv, hcell⟩ := HH.out.me (v, mk) hpm
          simp only at hv
          subst hv
          have hr := HH.out.rE
          rw [HVE.out] at hr
          have d0 : wr.cell? ⟨gE, i * 2, none⟩ = some (.slice a n c) := GI.out.cell ((hr.cellAt (i * 2) (by omega)).trans (by have := flat_at2 xe i 0 hil (by omega); rw [Nat.add_zero] at this; rw [this, hp]; rfl)) (by simp)
          have d1 : wr.cell? ⟨gE, i * 2 + 1, none⟩ = some (.int .i64 mk) := GI.out.cell ((hr.cellAt (i * 2 + 1) (by omega)).trans (by rw [flat_at2 xe i 1 hil (by omega), hp]; rfl)) (by simp)
          have HC := Hid.mk' hcell
          clear hr hcell hp
          have x0 : (0 : Int) ≤ (i : Int) := by omega
          have x1 : (i : Int) < (nE : Int) := by omega
          have hm := HH.out.be _ hpm
          simp only at hm
          have m5 : IntKind.i64.wrap (-9 - mk) = -9 - mk := by simp [IntKind.wrap, IntKind.bits, IntKind.signed]; omega
          have m6 : wrap64 (-9 - mk) = -9 - mk := by simp [wrap64]; omega
          go_wp2_with fail
          have W0 := Hid.mk' (GI.out.trans (World.grownBy_alloc wr (.cells #[.int .i64 (-9 - mk), .int .i64 0, .int .i64 0, .float .f32 0, .float .f32 0] 62) none))
          have kk : ∀ w', (wr.alloc (.cells #[.int .i64 (-9 - mk), .int .i64 0, .int .i64 0, .float .f32 0, .float .f32 0] 62)).grownBy w' none → w'.cell? ⟨bk, 1, none⟩ = some (.slice (some ⟨gE, 0, none⟩) nE cE) ∧ w'.cell? ⟨gE, i * 2, none⟩ = some (.slice a n c) ∧ w'.cell? ⟨wr.heap.size, 0, none⟩ = some (.int .i64 (-9 - mk)) ∧ w'.cell? ⟨wr.heap.size, 1, none⟩ = some (.int .i64 0) ∧ w'.cell? ⟨wr.heap.size, 2, none⟩ = some (.int .i64 0) ∧ w'.cell? ⟨wr.heap.size, 3, none⟩ = some (.float .f32 0) ∧ w'.cell? ⟨wr.heap.size, 4, none⟩ = some (.float .f32 0) := fun w' g =>
            ⟨g.cell ((World.grownBy_alloc wr _ none).cell k1 (by simp)) (by simp), g.cell ((World.grownBy_alloc wr _ none).cell d0 (by simp)) (by simp), g.cell (by go_simp) (by simp), g.cell (by go_simp) (by simp), g.cell (by go_simp) (by simp), g.cell (by go_simp) (by simp), g.cell (by go_simp) (by simp)⟩
          have KK := Hid.mk' kk
          clear kk k1 d0 d1
          generalize (wr.alloc (.cells #[.int .i64 (-9 - mk), .int .i64 0, .int .i64 0, .float .f32 0, .float .f32 0] 62)) = w0 at *
          go_loopw [8] (fun t wq => ∃ q : Nat, q ≤ n ∧ t = .int .i64 q ∧ w0.grownBy wq none) (fun t _ => n - (intOf t).toNat)
          case atStart => exact ⟨0, by omega, rfl, grownBy_refl _ _⟩
          case round =>
            obtain ⟨q, hq2, rfl, gq⟩ := hrel
            obtain ⟨r0, r1, r2, r3, r4, r5, r6⟩ := KK.out _ gq
            have GQ := Hid.mk' gq
            clear gq
            by_cases hqn : q < n
            · obtain ⟨g, hg, _, hcs⟩ := HC.out (by omega)
              subst hg
              have e : ∀ j (hj : j < 5) u, (mkEn mk).cells[j]? = some u → wr.cell? ⟨g, q * 5 + j, none⟩ = some u := fun j hj u hu => by
                have := hcs (5 * q + j) u (by rw [flat_at5 _ q j (by simp; exact hqn) hj]; simpa using hu)
                rw [show 5 * q + j = q * 5 + j by omega] at this
                exact (W0.out.trans GQ.out).cell this (by simp)
              have e0 := e 0 (by omega) _ rfl
              have e1 := e 1 (by omega) _ rfl
              have e2 := e 2 (by omega) _ rfl
              have e3 := e 3 (by omega) _ rfl
              have e4 := e 4 (by omega) _ rfl
              rw [Nat.add_zero] at e0
              simp only [mkEn] at e0 e1 e2 e3 e4
              clear e hcs
              have y0 : (0 : Int) ≤ (q : Int) := by omega
              have y1 : (q : Int) < (n : Int) := by omega
              go_wp2_with fail
              go_quiet (fail)
              go_wp2
              exact ⟨⟨q + 1, by omega, by go_num, grownBy_drewN GQ.out nq⟩, by simp [intOf]; omega⟩
            · go_wp2_with fail
              exact ⟨⟨i + 1, by omega, by go_num, W0.out.trans GQ.out⟩, by simp [intOf]; omega⟩
        · go_wp2_with fail
          clear k1 c1
          refine wp_loop_rounds 1 ?_
          rw [rounds_succ]
          go_wp2
          go_ret
          exact ⟨rfl, GI.out⟩
end Go.Proofs.Ytammnaafdhhjaaa
