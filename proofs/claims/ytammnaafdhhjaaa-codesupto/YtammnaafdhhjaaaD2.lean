/- Ytammnaafdhhjaaa: Decode. -/
import Derived.Test.YtammnaafdhhjaaaD1
namespace Go.Proofs.Ytammnaafdhhjaaa
open Go.RowKit

set_option maxHeartbeats 4000000 in
theorem decode_any (l : List UInt8) (w : World) :
    Calls Try.prog 22 #[.string (S l)] w fun e w' => DecPost w l e w' := by
  have hsf := run_store_float
  go_enter Try.func22, Try.ntmps22
  go_wp2_with fail
  refine Calls.mono (record_any l (w.heap.size + 1) _ ?_ ?_) ?_
  · go_simp
  · go_simp
  rintro e w1 ⟨vi, vo, rfl, g1, oi, oo, hap⟩
  have HWF := Hid.mk' (dec_wf l)
  have HB : Hid (decB l = (mayB (dec l) && (enc (dec l) == l))) := rfl
  have HD : Hid (DecPost w l = DecPost w l) := rfl
  obtain ⟨p, hp⟩ : ∃ p, dec l = p := ⟨_, rfl⟩
  rw [hp] at oi oo HWF HB ⊢
  have HP := Hid.mk' hp
  clear hp HD
  have OI := Hid.mk' oi
  have OO := Hid.mk' oo
  have HAP := Hid.mk' hap
  clear oi oo hap
  obtain ⟨ai, ni, ci, rfl⟩ := slice_of OI.out
  obtain ⟨ao, no, co, rfl⟩ := slice_of OO.out
  have z1 := g1.size
  simp at z1
  have G1 := Hid.mk' (grownBy_new (grownBy_alloc' (World.grownBy_alloc w _ none) _) g1 (by omega))
  unfold rv
  have a0 : w1.cell? ⟨w.heap.size, 0, none⟩ = some (.int .i64 0) := g1.cell (by go_simp) (by simp)
  have a1 : w1.cell? ⟨w.heap.size, 1, none⟩ = some (.int .i64 0) := g1.cell (by go_simp) (by simp)
  have a2 : w1.cell? ⟨w.heap.size, 2, none⟩ = some (.int .i64 0) := g1.cell (by go_simp) (by simp)
  have a3 : w1.cell? ⟨w.heap.size, 3, none⟩ = some (.int .i64 0) := g1.cell (by go_simp) (by simp)
  have a4 : w1.cell? ⟨w.heap.size, 4, none⟩ = some (.float .f32 0) := g1.cell (by go_simp) (by simp)
  have a5 : w1.cell? ⟨w.heap.size, 5, none⟩ = some (.float .f32 0) := g1.cell (by go_simp) (by simp)
  have a6 : w1.cell? ⟨w.heap.size, 6, none⟩ = some (.int .i64 0) := g1.cell (by go_simp) (by simp)
  have a7 : w1.cell? ⟨w.heap.size, 7, none⟩ = some (.int .i64 0) := g1.cell (by go_simp) (by simp)
  have a8 : w1.cell? ⟨w.heap.size, 8, none⟩ = some (.int .i64 0) := g1.cell (by go_simp) (by simp)
  have a9 : w1.cell? ⟨w.heap.size, 9, none⟩ = some (.int .i64 0) := g1.cell (by go_simp) (by simp)
  have a10 : w1.cell? ⟨w.heap.size, 10, none⟩ = some (.int .i64 0) := g1.cell (by go_simp) (by simp)
  have a11 : w1.cell? ⟨w.heap.size, 11, none⟩ = some (.slice none 0 0) := g1.cell (by go_simp) (by simp)
  have a12 : w1.cell? ⟨w.heap.size, 12, none⟩ = some (.slice none 0 0) := g1.cell (by go_simp) (by simp)
  have fa : ∀ o, w1.frozen? ⟨w.heap.size, o, none⟩ = false := fun o => by
    rw [World.frozen?_of_block (a := ⟨w.heap.size, o, none⟩) (g1.block w.heap.size (by simp; omega) (by simp))]; go_simp
  have y1 : w.heap.size < w1.heap.size := by omega
  have x1 : w.heap.size ≠ w1.heap.size := by omega
  clear g1
  have kI : Hid (Value.ownBlock (.slice ai ni ci) ≠ some w.heap.size) := fun e => by have := (OI.out.lt _ e).1; simp at this; omega
  have kO : Hid (Value.ownBlock (.slice ao no co) ≠ some w.heap.size) := fun e => by have := (OO.out.lt _ e).1; simp at this; omega
  have LI : Hid (LiesI w1 (.slice ai ni ci) p.items) := Lies.of_own OI.out
  have LO : Hid (LiesE w1 (.slice ao no co) p.outs) := Lies.of_own OO.out
  cases hm : mayB p
  · go_wp2_with fail
    refine Calls.mono (encode_no p (.slice ai ni ci) (.slice ao no co) _ (LI.out.grown (World.grownBy_alloc _ _ _)) (LO.out.grown (World.grownBy_alloc _ _ _)) hm) ?_
    rintro e w2 ⟨rfl, g2⟩
    have b0 : w2.cell? ⟨w.heap.size, 0, none⟩ = some (.int .i64 0) := g2.cell (by go_simp) (by simp)
    have b1 : w2.cell? ⟨w.heap.size, 1, none⟩ = some (.int .i64 0) := g2.cell (by go_simp) (by simp)
    have b2 : w2.cell? ⟨w.heap.size, 2, none⟩ = some (.int .i64 0) := g2.cell (by go_simp) (by simp)
    have b3 : w2.cell? ⟨w.heap.size, 3, none⟩ = some (.int .i64 0) := g2.cell (by go_simp) (by simp)
    have b4 : w2.cell? ⟨w.heap.size, 4, none⟩ = some (.float .f32 0) := g2.cell (by go_simp) (by simp)
    have b5 : w2.cell? ⟨w.heap.size, 5, none⟩ = some (.float .f32 0) := g2.cell (by go_simp) (by simp)
    have b6 : w2.cell? ⟨w.heap.size, 6, none⟩ = some (.int .i64 0) := g2.cell (by go_simp) (by simp)
    have b7 : w2.cell? ⟨w.heap.size, 7, none⟩ = some (.int .i64 0) := g2.cell (by go_simp) (by simp)
    have b8 : w2.cell? ⟨w.heap.size, 8, none⟩ = some (.int .i64 0) := g2.cell (by go_simp) (by simp)
    have b9 : w2.cell? ⟨w.heap.size, 9, none⟩ = some (.int .i64 0) := g2.cell (by go_simp) (by simp)
    have b10 : w2.cell? ⟨w.heap.size, 10, none⟩ = some (.int .i64 0) := g2.cell (by go_simp) (by simp)
    have b11 : w2.cell? ⟨w.heap.size, 11, none⟩ = some (.slice none 0 0) := g2.cell (by go_simp) (by simp)
    have b12 : w2.cell? ⟨w.heap.size, 12, none⟩ = some (.slice none 0 0) := g2.cell (by go_simp) (by simp)
    have fb : ∀ o, w2.frozen? ⟨w.heap.size, o, none⟩ = false := fun o => by
      rw [World.frozen?_of_block (a := ⟨w.heap.size, o, none⟩) (g2.block w.heap.size (by simp; omega) (by simp))]; go_simp
    clear a0 a1 a2 a3 a4 a5 a6 a7 a8 a9 a10 a11 a12 fa
    have G2 := (grownBy_alloc' G1.out _).trans g2
    go_wp2_with fail
    refine bodyPost_ret (v := .tuple #[zeroV, .int .i64 7]) (by simp [results, Try.results22, go_sem, zeroV, rv, it0, mk0, *]) rfl ⟨?_, .inl ⟨?_, rfl⟩⟩
    · exact (grownBy_store (grownBy_store (grownBy_store (grownBy_store (grownBy_store (grownBy_store (grownBy_store (grownBy_store (grownBy_store (grownBy_store (grownBy_store (grownBy_store (grownBy_store G2 (Nat.le_refl _) _ _) (Nat.le_refl _) _ _) (Nat.le_refl _) _ _) (Nat.le_refl _) _ _) (Nat.le_refl _) _ _) (Nat.le_refl _) _ _) (Nat.le_refl _) _ _) (Nat.le_refl _) _ _) (Nat.le_refl _) _ _) (Nat.le_refl _) _ _) (Nat.le_refl _) _ _) (Nat.le_refl _) _ _) (Nat.le_refl _) _ _)
    · rw [HB.out, hm]; rfl
  · have HM := Hid.mk' hm
    go_wp2_with fail
    refine Calls.mono (encode_yes p (.slice ai ni ci) (.slice ao no co) _ (LI.out.grown (World.grownBy_alloc _ _ _)) (LO.out.grown (World.grownBy_alloc _ _ _)) hm HWF.out) ?_
    rintro e w2 ⟨rfl, g2⟩
    have b0 : w2.cell? ⟨w.heap.size, 0, none⟩ = some (.int .i64 0) := g2.cell (by go_simp) (by simp)
    have b1 : w2.cell? ⟨w.heap.size, 1, none⟩ = some (.int .i64 0) := g2.cell (by go_simp) (by simp)
    have b2 : w2.cell? ⟨w.heap.size, 2, none⟩ = some (.int .i64 0) := g2.cell (by go_simp) (by simp)
    have b3 : w2.cell? ⟨w.heap.size, 3, none⟩ = some (.int .i64 0) := g2.cell (by go_simp) (by simp)
    have b4 : w2.cell? ⟨w.heap.size, 4, none⟩ = some (.float .f32 0) := g2.cell (by go_simp) (by simp)
    have b5 : w2.cell? ⟨w.heap.size, 5, none⟩ = some (.float .f32 0) := g2.cell (by go_simp) (by simp)
    have b6 : w2.cell? ⟨w.heap.size, 6, none⟩ = some (.int .i64 0) := g2.cell (by go_simp) (by simp)
    have b7 : w2.cell? ⟨w.heap.size, 7, none⟩ = some (.int .i64 0) := g2.cell (by go_simp) (by simp)
    have b8 : w2.cell? ⟨w.heap.size, 8, none⟩ = some (.int .i64 0) := g2.cell (by go_simp) (by simp)
    have b9 : w2.cell? ⟨w.heap.size, 9, none⟩ = some (.int .i64 0) := g2.cell (by go_simp) (by simp)
    have b10 : w2.cell? ⟨w.heap.size, 10, none⟩ = some (.int .i64 0) := g2.cell (by go_simp) (by simp)
    have b11 : w2.cell? ⟨w.heap.size, 11, none⟩ = some (.slice none 0 0) := g2.cell (by go_simp) (by simp)
    have b12 : w2.cell? ⟨w.heap.size, 12, none⟩ = some (.slice none 0 0) := g2.cell (by go_simp) (by simp)
    have fb : ∀ o, w2.frozen? ⟨w.heap.size, o, none⟩ = false := fun o => by
      rw [World.frozen?_of_block (a := ⟨w.heap.size, o, none⟩) (g2.block w.heap.size (by simp; omega) (by simp))]; go_simp
    have r0 : w2.cell? ⟨w1.heap.size, 0, none⟩ = some (.int .i64 p.kind) := g2.cell (by go_simp) (by simp)
    have r1 : w2.cell? ⟨w1.heap.size, 1, none⟩ = some (.int .i64 p.seq) := g2.cell (by go_simp) (by simp)
    have r2 : w2.cell? ⟨w1.heap.size, 2, none⟩ = some (.int .i64 p.it.sh) := g2.cell (by go_simp) (by simp)
    have r3 : w2.cell? ⟨w1.heap.size, 3, none⟩ = some (.int .i64 p.it.nu) := g2.cell (by go_simp) (by simp)
    have r4 : w2.cell? ⟨w1.heap.size, 4, none⟩ = some (.float .f32 p.it.pl) := g2.cell (by go_simp) (by simp)
    have r5 : w2.cell? ⟨w1.heap.size, 5, none⟩ = some (.float .f32 p.it.sp) := g2.cell (by go_simp) (by simp)
    have r6 : w2.cell? ⟨w1.heap.size, 6, none⟩ = some (.int .i64 p.mks.g) := g2.cell (by go_simp) (by simp)
    have r7 : w2.cell? ⟨w1.heap.size, 7, none⟩ = some (.int .i64 p.mks.m) := g2.cell (by go_simp) (by simp)
    have r8 : w2.cell? ⟨w1.heap.size, 8, none⟩ = some (.int .i64 p.mks.s) := g2.cell (by go_simp) (by simp)
    have r9 : w2.cell? ⟨w1.heap.size, 9, none⟩ = some (.int .i64 p.mks.a) := g2.cell (by go_simp) (by simp)
    have r10 : w2.cell? ⟨w1.heap.size, 10, none⟩ = some (.int .i64 p.mks.n) := g2.cell (by go_simp) (by simp)
    have r11 : w2.cell? ⟨w1.heap.size, 11, none⟩ = some (.slice ai ni ci) := g2.cell (by go_simp) (by simp)
    have r12 : w2.cell? ⟨w1.heap.size, 12, none⟩ = some (.slice ao no co) := g2.cell (by go_simp) (by simp)
    clear a0 a1 a2 a3 a4 a5 a6 a7 a8 a9 a10 a11 a12 fa
    have G2 := (grownBy_alloc' G1.out _).trans g2
    obtain ⟨t, ht⟩ : ∃ t, enc p = t := ⟨_, rfl⟩
    rw [ht] at HB ⊢
    have HT := Hid.mk' ht
    clear ht
    by_cases hl : t = l
    · subst hl
      go_wp2_with fail
      refine bodyPost_ret (v := .tuple #[rv p.kind p.seq p.it p.mks (.slice ai ni ci) (.slice ao no co), .int .i64 0]) (by simp [results, Try.results22, go_sem, rv, *]) rfl ⟨?_, .inr ⟨?_, _, _, ?_, ?_, ?_, HAP.out⟩⟩
      · exact (grownBy_store (grownBy_store (grownBy_store (grownBy_store (grownBy_store (grownBy_store (grownBy_store (grownBy_store (grownBy_store (grownBy_store (grownBy_store (grownBy_store (grownBy_store G2 (Nat.le_refl _) _ _) (Nat.le_refl _) _ _) (Nat.le_refl _) _ _) (Nat.le_refl _) _ _) (Nat.le_refl _) _ _) (Nat.le_refl _) _ _) (Nat.le_refl _) _ _) (Nat.le_refl _) _ _) (Nat.le_refl _) _ _) (Nat.le_refl _) _ _) (Nat.le_refl _) _ _) (Nat.le_refl _) _ _) (Nat.le_refl _) _ _)
      · rw [HB.out, HM.out]; simp
      · rw [HP.out]
      · rw [HP.out]; exact own_base (own_store (own_store (own_store (own_store (own_store (own_store (own_store (own_store (own_store (own_store (own_store (own_store (own_store (own_grown (World.ownsRow.alloc OI.out _) g2) w.heap.size _ _ kI.out) w.heap.size _ _ kI.out) w.heap.size _ _ kI.out) w.heap.size _ _ kI.out) w.heap.size _ _ kI.out) w.heap.size _ _ kI.out) w.heap.size _ _ kI.out) w.heap.size _ _ kI.out) w.heap.size _ _ kI.out) w.heap.size _ _ kI.out) w.heap.size _ _ kI.out) w.heap.size _ _ kI.out) w.heap.size _ _ kI.out) (by simp; omega)
      · rw [HP.out]; exact own_base (own_store (own_store (own_store (own_store (own_store (own_store (own_store (own_store (own_store (own_store (own_store (own_store (own_store (own_grown (World.ownsRow.alloc OO.out _) g2) w.heap.size _ _ kO.out) w.heap.size _ _ kO.out) w.heap.size _ _ kO.out) w.heap.size _ _ kO.out) w.heap.size _ _ kO.out) w.heap.size _ _ kO.out) w.heap.size _ _ kO.out) w.heap.size _ _ kO.out) w.heap.size _ _ kO.out) w.heap.size _ _ kO.out) w.heap.size _ _ kO.out) w.heap.size _ _ kO.out) w.heap.size _ _ kO.out) (by simp; omega)
    · have hne : ((S t).toList == (S l).toList) = false := by rw [S_toList, S_toList]; simp [hl]
      go_wp2_with fail
      refine bodyPost_ret (v := .tuple #[zeroV, .int .i64 7]) (by simp [results, Try.results22, go_sem, zeroV, rv, it0, mk0, *]) rfl ⟨?_, .inl ⟨?_, rfl⟩⟩
      · exact (grownBy_store (grownBy_store (grownBy_store (grownBy_store (grownBy_store (grownBy_store (grownBy_store (grownBy_store (grownBy_store (grownBy_store (grownBy_store (grownBy_store (grownBy_store G2 (Nat.le_refl _) _ _) (Nat.le_refl _) _ _) (Nat.le_refl _) _ _) (Nat.le_refl _) _ _) (Nat.le_refl _) _ _) (Nat.le_refl _) _ _) (Nat.le_refl _) _ _) (Nat.le_refl _) _ _) (Nat.le_refl _) _ _) (Nat.le_refl _) _ _) (Nat.le_refl _) _ _) (Nat.le_refl _) _ _) (Nat.le_refl _) _ _)
      · rw [HB.out, HM.out]; simp [hl]
end Go.Proofs.Ytammnaafdhhjaaa
