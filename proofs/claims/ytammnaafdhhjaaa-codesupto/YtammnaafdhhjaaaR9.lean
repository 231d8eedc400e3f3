/- Ytammnaafdhhjaaa: Decode of the document: a Mint. -/
import Derived.Test.YtammnaafdhhjaaaR8
namespace Go.Proofs.Ytammnaafdhhjaaa
open Go.RowKit

theorem grownBy_two (w : World) (a b : Obj) : w.grownBy ((w.alloc a).alloc b) none := grownBy_alloc' (World.grownBy_alloc w a none) b
theorem lI_nil (w : World) : LiesI w (.slice none 0 0) [] := ⟨none, 0, rfl, fun h => absurd h (by simp)⟩
theorem lE_nil (w : World) : LiesE w (.slice none 0 0) [] := ⟨none, 0, rfl, fun h => absurd h (by simp)⟩
theorem dec_no (w : World) (l : List UInt8) (w' : World) (g : w.grownBy w' none) (h : decB l = false) : DecPost w l (.returned (.tuple #[zeroV, .int .i64 7])) w' := ⟨g, .inl ⟨h, rfl⟩⟩
set_option maxHeartbeats 2000000 in
theorem refDec_1 (l : List UInt8) (w : World) (hl : l.length ≤ 1000000000) (hK : rdN l 0 1 = 1) :
    Calls Try.prog 31 #[.string (S l)] w fun e w' => DecPost w l e w' := by
  have hsf := run_store_float
  have hd : dec l = ⟨1, 0, pIt (l.drop 1), mk0, [], []⟩ := by
    have : b1 l = 1 := by rw [← hK, rdN1, List.drop_zero]
    rw [dec, this, pRc_1, t1_eq]
  have cR := rd1 l 0
  rw [hK] at cR
  have cI := refItemAt_any l 1
  have hI := pIt_wf (l.drop 1)
  generalize pIt (l.drop 1) = i at *
  have HD := Hid.mk' hd
  have CR := Hid.mk' cR
  have CI := Hid.mk' cI
  have WX : Hid (WfR ⟨1, 0, fxI i, mk0, [], []⟩) := ⟨⟨fx_lt _ hI.p, fx_lt _ hI.s⟩, by simp, by simp⟩
  clear hd cR cI hI
  go_enter Try.func31, Try.ntmps31
  go_wp2_with fail
  refine (CR.out _ hl (by omega)).mono ?_
  rintro e w' ⟨rfl, rfl⟩
  go_wp2_with fail
  refine (CI.out _ hl (by omega)).mono ?_
  rintro e w1 ⟨rfl, g1⟩
  have G1 := Hid.mk' ((grownBy_two w _ _).trans g1)
  have z1 := g1.size
  simp at z1
  have a0 : w1.cell? ⟨w.heap.size, 0, none⟩ = some (.int .i64 0) := g1.cell (by go_simp) (by simp)
  have a1 : w1.cell? ⟨w.heap.size, 1, none⟩ = some (.int .i64 0) := g1.cell (by go_simp) (by simp)
  have a2 : w1.cell? ⟨w.heap.size, 2, none⟩ = some (.int .i64 0) := g1.cell (by go_simp) (by simp)
  have a3 : w1.cell? ⟨w.heap.size, 3, none⟩ = some (.int .i64 0) := g1.cell (by go_simp) (by simp)
  have a4 : w1.cell? ⟨w.heap.size, 4, none⟩ = some (.float .f32 0) := g1.cell (by go_simp) (by simp)
  have a5 : w1.cell? ⟨w.heap.size, 5, none⟩ = some (.float .f32 0) := g1.cell (by go_simp) (by simp)
  have a6 : w1.cell? ⟨w.heap.size, 6, none⟩ = some (.int .i64 0) := g1.cell (by go_simp) (by simp)
  have a7 : w1.cell? ⟨w.heap.size, 7, none⟩ = some (.int .i64 0) := g1.cell (by go_simp) (by simp)
  have a8 : w1.cell? ⟨w.heap.size, 8, none⟩ = some (.int .i64 0) := g1.cell (by go_simp) (by simp)
  have a9 : w1.cell? ⟨w.heap.size, 9, none⟩ = some (.int .i64 0) := g1.cell (by go_simp) (by simp)
  have a10 : w1.cell? ⟨w.heap.size, 10, none⟩ = some (.int .i64 0) := g1.cell (by go_simp) (by simp)
  have a11 : w1.cell? ⟨w.heap.size, 11, none⟩ = some (.slice none 0 0) := g1.cell (by go_simp) (by simp)
  have a12 : w1.cell? ⟨w.heap.size, 12, none⟩ = some (.slice none 0 0) := g1.cell (by go_simp) (by simp)
  have c0 : w1.cell? ⟨w.heap.size + 1, 0, none⟩ = some (.int .i64 1) := g1.cell (by go_simp) (by simp)
  have c1 : w1.cell? ⟨w.heap.size + 1, 1, none⟩ = some (.int .i64 0) := g1.cell (by go_simp) (by simp)
  have c2 : w1.cell? ⟨w.heap.size + 1, 2, none⟩ = some (.int .i64 0) := g1.cell (by go_simp) (by simp)
  have c3 : w1.cell? ⟨w.heap.size + 1, 3, none⟩ = some (.int .i64 0) := g1.cell (by go_simp) (by simp)
  have c4 : w1.cell? ⟨w.heap.size + 1, 4, none⟩ = some (.float .f32 0) := g1.cell (by go_simp) (by simp)
  have c5 : w1.cell? ⟨w.heap.size + 1, 5, none⟩ = some (.float .f32 0) := g1.cell (by go_simp) (by simp)
  have c6 : w1.cell? ⟨w.heap.size + 1, 6, none⟩ = some (.int .i64 0) := g1.cell (by go_simp) (by simp)
  have c7 : w1.cell? ⟨w.heap.size + 1, 7, none⟩ = some (.int .i64 0) := g1.cell (by go_simp) (by simp)
  have c8 : w1.cell? ⟨w.heap.size + 1, 8, none⟩ = some (.int .i64 0) := g1.cell (by go_simp) (by simp)
  have c9 : w1.cell? ⟨w.heap.size + 1, 9, none⟩ = some (.int .i64 0) := g1.cell (by go_simp) (by simp)
  have c10 : w1.cell? ⟨w.heap.size + 1, 10, none⟩ = some (.int .i64 0) := g1.cell (by go_simp) (by simp)
  have c11 : w1.cell? ⟨w.heap.size + 1, 11, none⟩ = some (.slice none 0 0) := g1.cell (by go_simp) (by simp)
  have c12 : w1.cell? ⟨w.heap.size + 1, 12, none⟩ = some (.slice none 0 0) := g1.cell (by go_simp) (by simp)
  have fa : ∀ o, w1.frozen? ⟨w.heap.size, o, none⟩ = false := fun o => by
    rw [World.frozen?_of_block (a := ⟨w.heap.size, o, none⟩) (g1.block w.heap.size (by simp; omega) (by simp))]; go_simp
  have fc : ∀ o, w1.frozen? ⟨w.heap.size + 1, o, none⟩ = false := fun o => by
    rw [World.frozen?_of_block (a := ⟨w.heap.size + 1, o, none⟩) (g1.block (w.heap.size + 1) (by simp) (by simp))]; go_simp
  clear g1
  go_wp2_with fail
  refine Calls.mono (refEncode_any ⟨1, 0, fxI i, mk0, [], []⟩ (.slice none 0 0) (.slice none 0 0) _ (lI_nil _) (lE_nil _) WX.out (by simp) (by simp)) ?_
  rintro e w2 ⟨rfl, g2⟩
  have b0 : w2.cell? ⟨w.heap.size, 0, none⟩ = some (.int .i64 0) := g2.cell (by go_simp) (by simp)
  have b1 : w2.cell? ⟨w.heap.size, 1, none⟩ = some (.int .i64 0) := g2.cell (by go_simp) (by simp)
  have b2 : w2.cell? ⟨w.heap.size, 2, none⟩ = some (.int .i64 0) := g2.cell (by go_simp) (by simp)
  have b3 : w2.cell? ⟨w.heap.size, 3, none⟩ = some (.int .i64 0) := g2.cell (by go_simp) (by simp)
  have b4 : w2.cell? ⟨w.heap.size, 4, none⟩ = some (.float .f32 0) := g2.cell (by go_simp) (by simp)
  have b5 : w2.cell? ⟨w.heap.size, 5, none⟩ = some (.float .f32 0) := g2.cell (by go_simp) (by simp)
  have b6 : w2.cell? ⟨w.heap.size, 6, none⟩ = some (.int .i64 0) := g2.cell (by go_simp) (by simp)
  have b7 : w2.cell? ⟨w.heap.size, 7, none⟩ = some (.int .i64 0) := g2.cell (by go_simp) (by simp)
  have b8 : w2.cell? ⟨w.heap.size, 8, none⟩ = some (.int .i64 0) := g2.cell (by go_simp) (by simp)
  have b9 : w2.cell? ⟨w.heap.size, 9, none⟩ = some (.int .i64 0) := g2.cell (by go_simp) (by simp)
  have b10 : w2.cell? ⟨w.heap.size, 10, none⟩ = some (.int .i64 0) := g2.cell (by go_simp) (by simp)
  have b11 : w2.cell? ⟨w.heap.size, 11, none⟩ = some (.slice none 0 0) := g2.cell (by go_simp) (by simp)
  have b12 : w2.cell? ⟨w.heap.size, 12, none⟩ = some (.slice none 0 0) := g2.cell (by go_simp) (by simp)
  have r0 : w2.cell? ⟨w.heap.size + 1, 0, none⟩ = some (.int .i64 1) := g2.cell (by go_simp) (by simp)
  have r1 : w2.cell? ⟨w.heap.size + 1, 1, none⟩ = some (.int .i64 0) := g2.cell (by go_simp) (by simp)
  have r2 : w2.cell? ⟨w.heap.size + 1, 2, none⟩ = some (.int .i64 i.sh) := g2.cell (by go_simp) (by simp)
  have r3 : w2.cell? ⟨w.heap.size + 1, 3, none⟩ = some (.int .i64 i.nu) := g2.cell (by go_simp) (by simp)
  have r4 : w2.cell? ⟨w.heap.size + 1, 4, none⟩ = some (.float .f32 (fx i.pl)) := g2.cell (by go_simp) (by simp)
  have r5 : w2.cell? ⟨w.heap.size + 1, 5, none⟩ = some (.float .f32 (fx i.sp)) := g2.cell (by go_simp) (by simp)
  have r6 : w2.cell? ⟨w.heap.size + 1, 6, none⟩ = some (.int .i64 0) := g2.cell (by go_simp) (by simp)
  have r7 : w2.cell? ⟨w.heap.size + 1, 7, none⟩ = some (.int .i64 0) := g2.cell (by go_simp) (by simp)
  have r8 : w2.cell? ⟨w.heap.size + 1, 8, none⟩ = some (.int .i64 0) := g2.cell (by go_simp) (by simp)
  have r9 : w2.cell? ⟨w.heap.size + 1, 9, none⟩ = some (.int .i64 0) := g2.cell (by go_simp) (by simp)
  have r10 : w2.cell? ⟨w.heap.size + 1, 10, none⟩ = some (.int .i64 0) := g2.cell (by go_simp) (by simp)
  have r11 : w2.cell? ⟨w.heap.size + 1, 11, none⟩ = some (.slice none 0 0) := g2.cell (by go_simp) (by simp)
  have r12 : w2.cell? ⟨w.heap.size + 1, 12, none⟩ = some (.slice none 0 0) := g2.cell (by go_simp) (by simp)
  have fb : ∀ o, w2.frozen? ⟨w.heap.size, o, none⟩ = false := fun o => by
    rw [World.frozen?_of_block (a := ⟨w.heap.size, o, none⟩) (g2.block w.heap.size (by simp; omega) (by simp))]; go_simp
  have G2 := Hid.mk' ((grownBy_store (grownBy_store (grownBy_store (grownBy_store G1.out (by omega) _ _) (by omega) _ _) (by omega) _ _) (by omega) _ _).trans g2)
  clear a0 c0 a1 c1 a2 c2 a3 c3 a4 c4 a5 c5 a6 c6 a7 c7 a8 c8 a9 c9 a10 c10 a11 c11 a12 c12 fa fc g2
  cases hk : okI i
  · go_wp2_with fail
    refine bodyPost_ret (v := .tuple #[zeroV, .int .i64 7]) (by simp [results, Try.results31, go_sem, zeroV, rv, it0, mk0, *]) rfl (dec_no w l _ (grownBy_store (grownBy_store (grownBy_store (grownBy_store (grownBy_store (grownBy_store (grownBy_store (grownBy_store (grownBy_store (grownBy_store (grownBy_store (grownBy_store (grownBy_store G2.out (by omega) _ _) (by omega) _ _) (by omega) _ _) (by omega) _ _) (by omega) _ _) (by omega) _ _) (by omega) _ _) (by omega) _ _) (by omega) _ _) (by omega) _ _) (by omega) _ _) (by omega) _ _) (by omega) _ _) ?_)
    rw [decB, HD.out]; simp [mayB, okI_no hk]
  · have HX : Hid (dec l = ⟨1, 0, fxI i, mk0, [], []⟩) := by show _ = _; rw [HD.out, fxI_ok hk]
    cases hm : mayB ⟨1, 0, fxI i, mk0, [], []⟩
    · have hE : encE ⟨1, 0, fxI i, mk0, [], []⟩ = 2 := by simp [encE, hm]
      rw [hE]
      go_wp2_with fail
      refine bodyPost_ret (v := .tuple #[zeroV, .int .i64 7]) (by simp [results, Try.results31, go_sem, zeroV, rv, it0, mk0, *]) rfl (dec_no w l _ (grownBy_store (grownBy_store (grownBy_store (grownBy_store (grownBy_store (grownBy_store (grownBy_store (grownBy_store (grownBy_store (grownBy_store (grownBy_store (grownBy_store (grownBy_store G2.out (by omega) _ _) (by omega) _ _) (by omega) _ _) (by omega) _ _) (by omega) _ _) (by omega) _ _) (by omega) _ _) (by omega) _ _) (by omega) _ _) (by omega) _ _) (by omega) _ _) (by omega) _ _) (by omega) _ _) ?_)
      rw [decB, HX.out, hm]; rfl
    · have hE : encE ⟨1, 0, fxI i, mk0, [], []⟩ = 0 := by simp [encE, hm]
      have hS : encS ⟨1, 0, fxI i, mk0, [], []⟩ = enc ⟨1, 0, fxI i, mk0, [], []⟩ := by simp [encS, hm]
      rw [hE, hS]
      have HM := Hid.mk' hm
      obtain ⟨t, ht⟩ : ∃ t, enc ⟨1, 0, fxI i, mk0, [], []⟩ = t := ⟨_, rfl⟩
      rw [ht]
      have HT := Hid.mk' ht
      clear ht hm hE hS
      by_cases hl2 : t = l
      · subst hl2
        go_wp2_with fail
        refine bodyPost_ret (v := .tuple #[rv 1 0 ⟨i.sh, i.nu, (fx i.pl), (fx i.sp)⟩ mk0 (.slice none 0 0) (.slice none 0 0), .int .i64 0]) (by simp [results, Try.results31, go_sem, rv, mk0, *]) rfl ⟨(grownBy_store (grownBy_store (grownBy_store (grownBy_store (grownBy_store (grownBy_store (grownBy_store (grownBy_store (grownBy_store (grownBy_store (grownBy_store (grownBy_store (grownBy_store G2.out (by omega) _ _) (by omega) _ _) (by omega) _ _) (by omega) _ _) (by omega) _ _) (by omega) _ _) (by omega) _ _) (by omega) _ _) (by omega) _ _) (by omega) _ _) (by omega) _ _) (by omega) _ _) (by omega) _ _), .inr ⟨?_, .slice none 0 0, .slice none 0 0, ?_, ?_, ?_, by simp [Value.ownBlock]⟩⟩
        · rw [decB, HX.out, HM.out, HT.out]; simp
        · rw [HX.out]; rfl
        · rw [HX.out]; exact World.ownsRow_nil _ _ _ _
        · rw [HX.out]; exact World.ownsRow_nil _ _ _ _
      · have hne : ((S t).toList == (S l).toList) = false := by rw [S_toList, S_toList]; simp [hl2]
        go_wp2_with fail
        refine bodyPost_ret (v := .tuple #[zeroV, .int .i64 7]) (by simp [results, Try.results31, go_sem, zeroV, rv, it0, mk0, *]) rfl (dec_no w l _ (grownBy_store (grownBy_store (grownBy_store (grownBy_store (grownBy_store (grownBy_store (grownBy_store (grownBy_store (grownBy_store (grownBy_store (grownBy_store (grownBy_store (grownBy_store G2.out (by omega) _ _) (by omega) _ _) (by omega) _ _) (by omega) _ _) (by omega) _ _) (by omega) _ _) (by omega) _ _) (by omega) _ _) (by omega) _ _) (by omega) _ _) (by omega) _ _) (by omega) _ _) (by omega) _ _) ?_)
        rw [decB, HX.out, HM.out, HT.out]; simp [hl2]
end Go.Proofs.Ytammnaafdhhjaaa
