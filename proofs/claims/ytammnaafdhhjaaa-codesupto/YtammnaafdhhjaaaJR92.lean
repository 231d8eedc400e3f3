import Derived.Test.YtammnaafdhhjaaaR9
/- Ytammnaafdhhjaaa: Decode of the document: a Destroy. -/
namespace Go.Proofs.Ytammnaafdhhjaaa
open Go.RowKit

set_option maxHeartbeats 2000000 in
theorem refDec_2 (l : List UInt8) (w : World) (hl : l.length ≤ 1000000000) (hK : rdN l 0 1 = 2) :
    Calls Try.prog 31 #[.string (S l)] w fun e w' => DecPost w l e w' := by
  have hsf := run_store_float
  have hd : dec l = ⟨2, 0, ⟨rdN l 1 1, rdN l 2 2, 0, 0⟩, mk0, [], []⟩ := by
    have : b1 l = 2 := by rw [← hK, rdN1, List.drop_zero]
    simp only [dec, this, pRc_2, t1_eq, rdN1, rdN2, List.drop_drop]
  have cR := rd1 l 0
  rw [hK] at cR
  have CR := Hid.mk' cR
  clear cR
  have cS := rd1 l 1
  have cT := rd2 l 2
  generalize rdN l 1 1 = sh at *
  generalize rdN l 2 2 = nu at *
  have HX := Hid.mk' hd
  have CS := Hid.mk' cS
  have CT := Hid.mk' cT
  have WX : Hid (WfR ⟨2, 0, ⟨sh, nu, 0, 0⟩, mk0, [], []⟩) := ⟨⟨by simp, by simp⟩, by simp, by simp⟩
  clear hd cS cT
  go_enter Try.func31, Try.ntmps31
  go_wp2_with fail
  refine (CR.out _ hl (by omega)).mono ?_
  rintro e w' ⟨rfl, rfl⟩
  go_wp2_with fail
  refine (CS.out _ hl (by omega)).mono ?_
  rintro e w' ⟨rfl, rfl⟩
  go_wp2_with fail
  refine (CT.out _ hl (by omega)).mono ?_
  rintro e w' ⟨rfl, rfl⟩
  go_wp2_with fail
  refine Calls.mono (refEncode_any ⟨2, 0, ⟨sh, nu, 0, 0⟩, mk0, [], []⟩ (.slice none 0 0) (.slice none 0 0) _ (lI_nil _) (lE_nil _) WX.out (by simp) (by simp)) ?_
  rintro e w2 ⟨rfl, g2⟩
  have b0 : w2.cell? ⟨w.heap.size, 0, none⟩ = some (.int .i64 0) := g2.cell (by go_simp) (by simp)
  have b1 : w2.cell? ⟨w.heap.size, 1, none⟩ = some (.int .i64 0) := g2.cell (by go_simp) (by simp)
  have b2 : w2.cell? ⟨w.heap.size, 2, none⟩ = some (.int .i64 0) := g2.cell (by go_simp) (by simp)
  have b3 : w2.cell? ⟨w.heap.size, 3, none⟩ = some (.int .i64 0) := g2.cell (by go_simp) (by simp)
  have b4 : w2.cell? ⟨w.heap.size, 4, none⟩ = some (.float .f32 0) := g2.cell (by go_simp) (by simp)
  have b5 : w2.cell? ⟨w.heap.size, 5, none⟩ = some (.float .f32 0) := g2.cell (by go_simp) (by simp)
  have b6 : w2.cell? ⟨w.heap.size, 6, none⟩ = some (.int .i64 0) := g2.cell (by go_simp) (by simp)
  have b7 : w2.cell? ⟨w.heap.size, 7, none⟩ = some (.int .i64 0) := g2.cell (by go_simp) (by simp)
  have b8 : w2.cell? ⟨w.heap.size, 8, none⟩ = some (.int .i64 0) := g2.cell (by go_simp) (by simp)
  have b9 : w2.cell? ⟨w.heap.size, 9, none⟩ = some (.int .i64 0) := g2.cell (by go_simp) (by simp)
  have b10 : w2.cell? ⟨w.heap.size, 10, none⟩ = some (.int .i64 0) := g2.cell (by go_simp) (by simp)
  have b11 : w2.cell? ⟨w.heap.size, 11, none⟩ = some (.slice none 0 0) := g2.cell (by go_simp) (by simp)
  have b12 : w2.cell? ⟨w.heap.size, 12, none⟩ = some (.slice none 0 0) := g2.cell (by go_simp) (by simp)
  have r0 : w2.cell? ⟨w.heap.size + 1, 0, none⟩ = some (.int .i64 2) := g2.cell (by go_simp) (by simp)
  have r1 : w2.cell? ⟨w.heap.size + 1, 1, none⟩ = some (.int .i64 0) := g2.cell (by go_simp) (by simp)
  have r2 : w2.cell? ⟨w.heap.size + 1, 2, none⟩ = some (.int .i64 sh) := g2.cell (by go_simp) (by simp)
  have r3 : w2.cell? ⟨w.heap.size + 1, 3, none⟩ = some (.int .i64 nu) := g2.cell (by go_simp) (by simp)
  have r4 : w2.cell? ⟨w.heap.size + 1, 4, none⟩ = some (.float .f32 0) := g2.cell (by go_simp) (by simp)
  have r5 : w2.cell? ⟨w.heap.size + 1, 5, none⟩ = some (.float .f32 0) := g2.cell (by go_simp) (by simp)
  have r6 : w2.cell? ⟨w.heap.size + 1, 6, none⟩ = some (.int .i64 0) := g2.cell (by go_simp) (by simp)
  have r7 : w2.cell? ⟨w.heap.size + 1, 7, none⟩ = some (.int .i64 0) := g2.cell (by go_simp) (by simp)
  have r8 : w2.cell? ⟨w.heap.size + 1, 8, none⟩ = some (.int .i64 0) := g2.cell (by go_simp) (by simp)
  have r9 : w2.cell? ⟨w.heap.size + 1, 9, none⟩ = some (.int .i64 0) := g2.cell (by go_simp) (by simp)
  have r10 : w2.cell? ⟨w.heap.size + 1, 10, none⟩ = some (.int .i64 0) := g2.cell (by go_simp) (by simp)
  have r11 : w2.cell? ⟨w.heap.size + 1, 11, none⟩ = some (.slice none 0 0) := g2.cell (by go_simp) (by simp)
  have r12 : w2.cell? ⟨w.heap.size + 1, 12, none⟩ = some (.slice none 0 0) := g2.cell (by go_simp) (by simp)
  have fb : ∀ o, w2.frozen? ⟨w.heap.size, o, none⟩ = false := fun o => by
    rw [World.frozen?_of_block (a := ⟨w.heap.size, o, none⟩) (g2.block w.heap.size (by simp; omega) (by simp))]; go_simp
  have G2 := Hid.mk' ((grownBy_two w _ _).trans g2)
  clear g2
  cases hm : mayB ⟨2, 0, ⟨sh, nu, 0, 0⟩, mk0, [], []⟩
  · have hE : encE ⟨2, 0, ⟨sh, nu, 0, 0⟩, mk0, [], []⟩ = 2 := by simp [encE, hm]
    rw [hE]
    go_wp2_with fail
    refine bodyPost_ret (v := .tuple #[zeroV, .int .i64 7]) (by simp [results, Try.results31, go_sem, zeroV, rv, it0, mk0, *]) rfl (dec_no w l _ (grownBy_store (grownBy_store (grownBy_store (grownBy_store (grownBy_store (grownBy_store (grownBy_store (grownBy_store (grownBy_store (grownBy_store (grownBy_store (grownBy_store (grownBy_store G2.out (by omega) _ _) (by omega) _ _) (by omega) _ _) (by omega) _ _) (by omega) _ _) (by omega) _ _) (by omega) _ _) (by omega) _ _) (by omega) _ _) (by omega) _ _) (by omega) _ _) (by omega) _ _) (by omega) _ _) ?_)
    rw [decB, HX.out, hm]; rfl
  · have hE : encE ⟨2, 0, ⟨sh, nu, 0, 0⟩, mk0, [], []⟩ = 0 := by simp [encE, hm]
    have hS : encS ⟨2, 0, ⟨sh, nu, 0, 0⟩, mk0, [], []⟩ = enc ⟨2, 0, ⟨sh, nu, 0, 0⟩, mk0, [], []⟩ := by simp [encS, hm]
    rw [hE, hS]
    have HM := Hid.mk' hm
    obtain ⟨t, ht⟩ : ∃ t, enc ⟨2, 0, ⟨sh, nu, 0, 0⟩, mk0, [], []⟩ = t := ⟨_, rfl⟩
    rw [ht]
    have HT := Hid.mk' ht
    clear ht hm hE hS
    by_cases hl2 : t = l
    · subst hl2
      go_wp2_with fail
      refine bodyPost_ret (v := .tuple #[rv 2 0 ⟨sh, nu, 0, 0⟩ mk0 (.slice none 0 0) (.slice none 0 0), .int .i64 0]) (by simp [results, Try.results31, go_sem, rv, mk0, *]) rfl ⟨(grownBy_store (grownBy_store (grownBy_store (grownBy_store (grownBy_store (grownBy_store (grownBy_store (grownBy_store (grownBy_store (grownBy_store (grownBy_store (grownBy_store (grownBy_store G2.out (by omega) _ _) (by omega) _ _) (by omega) _ _) (by omega) _ _) (by omega) _ _) (by omega) _ _) (by omega) _ _) (by omega) _ _) (by omega) _ _) (by omega) _ _) (by omega) _ _) (by omega) _ _) (by omega) _ _), .inr ⟨?_, .slice none 0 0, .slice none 0 0, ?_, ?_, ?_, by simp [Value.ownBlock]⟩⟩
      · rw [decB, HX.out, HM.out, HT.out]; simp
      · rw [HX.out]
      · rw [HX.out]; exact World.ownsRow_nil _ _ _ _
      · rw [HX.out]; exact World.ownsRow_nil _ _ _ _
    · have hne : ((S t).toList == (S l).toList) = false := by rw [S_toList, S_toList]; simp [hl2]
      go_wp2_with fail
      refine bodyPost_ret (v := .tuple #[zeroV, .int .i64 7]) (by simp [results, Try.results31, go_sem, zeroV, rv, it0, mk0, *]) rfl (dec_no w l _ (grownBy_store (grownBy_store (grownBy_store (grownBy_store (grownBy_store (grownBy_store (grownBy_store (grownBy_store (grownBy_store (grownBy_store (grownBy_store (grownBy_store (grownBy_store G2.out (by omega) _ _) (by omega) _ _) (by omega) _ _) (by omega) _ _) (by omega) _ _) (by omega) _ _) (by omega) _ _) (by omega) _ _) (by omega) _ _) (by omega) _ _) (by omega) _ _) (by omega) _ _) (by omega) _ _) ?_)
      rw [decB, HX.out, HM.out, HT.out]; simp [hl2]
end Go.Proofs.Ytammnaafdhhjaaa

/- Ytammnaafdhhjaaa: Decode of the document: any other byte. -/
namespace Go.Proofs.Ytammnaafdhhjaaa
open Go.RowKit

theorem pRc_x (K : Int) (l : List UInt8) (h1 : K ≠ 1) (h2 : K ≠ 2) (h4 : K ≠ 4) (h5 : K ≠ 5) (h6 : K ≠ 6) (h7 : K ≠ 7) (h8 : K ≠ 8) : pRc K l = ⟨K, 0, it0, mk0, [], []⟩ := by simp [pRc, h1, h2, h4, h5, h6, h7, h8]
set_option maxHeartbeats 2000000 in
theorem refDec_x (l : List UInt8) (w : World) (hl : l.length ≤ 1000000000) (K : Int) (hK : rdN l 0 1 = K) (h1 : K ≠ 1) (h2 : K ≠ 2) (h4 : K ≠ 4) (h5 : K ≠ 5) (h6 : K ≠ 6) (h7 : K ≠ 7) (h8 : K ≠ 8) :
    Calls Try.prog 31 #[.string (S l)] w fun e w' => DecPost w l e w' := by
  have hsf := run_store_float
  have hd : dec l = ⟨K, 0, it0, mk0, [], []⟩ := by
    have : b1 l = K := by rw [← hK, rdN1, List.drop_zero]
    rw [dec, this, pRc_x K _ h1 h2 h4 h5 h6 h7 h8]
  have cR := rd1 l 0
  rw [hK] at cR
  have CR := Hid.mk' cR
  have HX := Hid.mk' hd
  have WX : Hid (WfR ⟨K, 0, it0, mk0, [], []⟩) := ⟨it0_wf, by simp, by simp⟩
  clear cR hd hK
  go_enter Try.func31, Try.ntmps31
  go_wp2_with fail
  refine (CR.out _ hl (by omega)).mono ?_
  rintro e w' ⟨rfl, rfl⟩
  go_wp2_with fail
  refine Calls.mono (refEncode_any ⟨K, 0, it0, mk0, [], []⟩ (.slice none 0 0) (.slice none 0 0) _ (lI_nil _) (lE_nil _) WX.out (by simp) (by simp)) ?_
  rintro e w2 ⟨rfl, g2⟩
  have b0 : w2.cell? ⟨w.heap.size, 0, none⟩ = some (.int .i64 0) := g2.cell (by go_simp) (by simp)
  have b1 : w2.cell? ⟨w.heap.size, 1, none⟩ = some (.int .i64 0) := g2.cell (by go_simp) (by simp)
  have b2 : w2.cell? ⟨w.heap.size, 2, none⟩ = some (.int .i64 0) := g2.cell (by go_simp) (by simp)
  have b3 : w2.cell? ⟨w.heap.size, 3, none⟩ = some (.int .i64 0) := g2.cell (by go_simp) (by simp)
  have b4 : w2.cell? ⟨w.heap.size, 4, none⟩ = some (.float .f32 0) := g2.cell (by go_simp) (by simp)
  have b5 : w2.cell? ⟨w.heap.size, 5, none⟩ = some (.float .f32 0) := g2.cell (by go_simp) (by simp)
  have b6 : w2.cell? ⟨w.heap.size, 6, none⟩ = some (.int .i64 0) := g2.cell (by go_simp) (by simp)
  have b7 : w2.cell? ⟨w.heap.size, 7, none⟩ = some (.int .i64 0) := g2.cell (by go_simp) (by simp)
  have b8 : w2.cell? ⟨w.heap.size, 8, none⟩ = some (.int .i64 0) := g2.cell (by go_simp) (by simp)
  have b9 : w2.cell? ⟨w.heap.size, 9, none⟩ = some (.int .i64 0) := g2.cell (by go_simp) (by simp)
  have b10 : w2.cell? ⟨w.heap.size, 10, none⟩ = some (.int .i64 0) := g2.cell (by go_simp) (by simp)
  have b11 : w2.cell? ⟨w.heap.size, 11, none⟩ = some (.slice none 0 0) := g2.cell (by go_simp) (by simp)
  have b12 : w2.cell? ⟨w.heap.size, 12, none⟩ = some (.slice none 0 0) := g2.cell (by go_simp) (by simp)
  have r0 : w2.cell? ⟨w.heap.size + 1, 0, none⟩ = some (.int .i64 K) := g2.cell (by go_simp) (by simp)
  have r1 : w2.cell? ⟨w.heap.size + 1, 1, none⟩ = some (.int .i64 0) := g2.cell (by go_simp) (by simp)
  have r2 : w2.cell? ⟨w.heap.size + 1, 2, none⟩ = some (.int .i64 0) := g2.cell (by go_simp) (by simp)
  have r3 : w2.cell? ⟨w.heap.size + 1, 3, none⟩ = some (.int .i64 0) := g2.cell (by go_simp) (by simp)
  have r4 : w2.cell? ⟨w.heap.size + 1, 4, none⟩ = some (.float .f32 0) := g2.cell (by go_simp) (by simp)
  have r5 : w2.cell? ⟨w.heap.size + 1, 5, none⟩ = some (.float .f32 0) := g2.cell (by go_simp) (by simp)
  have r6 : w2.cell? ⟨w.heap.size + 1, 6, none⟩ = some (.int .i64 0) := g2.cell (by go_simp) (by simp)
  have r7 : w2.cell? ⟨w.heap.size + 1, 7, none⟩ = some (.int .i64 0) := g2.cell (by go_simp) (by simp)
  have r8 : w2.cell? ⟨w.heap.size + 1, 8, none⟩ = some (.int .i64 0) := g2.cell (by go_simp) (by simp)
  have r9 : w2.cell? ⟨w.heap.size + 1, 9, none⟩ = some (.int .i64 0) := g2.cell (by go_simp) (by simp)
  have r10 : w2.cell? ⟨w.heap.size + 1, 10, none⟩ = some (.int .i64 0) := g2.cell (by go_simp) (by simp)
  have r11 : w2.cell? ⟨w.heap.size + 1, 11, none⟩ = some (.slice none 0 0) := g2.cell (by go_simp) (by simp)
  have r12 : w2.cell? ⟨w.heap.size + 1, 12, none⟩ = some (.slice none 0 0) := g2.cell (by go_simp) (by simp)
  have fb : ∀ o, w2.frozen? ⟨w.heap.size, o, none⟩ = false := fun o => by
    rw [World.frozen?_of_block (a := ⟨w.heap.size, o, none⟩) (g2.block w.heap.size (by simp; omega) (by simp))]; go_simp
  have G2 := Hid.mk' ((grownBy_two w _ _).trans g2)
  clear g2
  cases hm : mayB ⟨K, 0, it0, mk0, [], []⟩
  · have hE : encE ⟨K, 0, it0, mk0, [], []⟩ = 2 := by simp [encE, hm]
    rw [hE]
    go_wp2_with fail
    refine bodyPost_ret (v := .tuple #[zeroV, .int .i64 7]) (by simp [results, Try.results31, go_sem, zeroV, rv, it0, mk0, *]) rfl (dec_no w l _ (grownBy_store (grownBy_store (grownBy_store (grownBy_store (grownBy_store (grownBy_store (grownBy_store (grownBy_store (grownBy_store (grownBy_store (grownBy_store (grownBy_store (grownBy_store G2.out (by omega) _ _) (by omega) _ _) (by omega) _ _) (by omega) _ _) (by omega) _ _) (by omega) _ _) (by omega) _ _) (by omega) _ _) (by omega) _ _) (by omega) _ _) (by omega) _ _) (by omega) _ _) (by omega) _ _) ?_)
    rw [decB, HX.out, hm]; rfl
  · have hE : encE ⟨K, 0, it0, mk0, [], []⟩ = 0 := by simp [encE, hm]
    have hS : encS ⟨K, 0, it0, mk0, [], []⟩ = enc ⟨K, 0, it0, mk0, [], []⟩ := by simp [encS, hm]
    rw [hE, hS]
    have HM := Hid.mk' hm
    obtain ⟨t, ht⟩ : ∃ t, enc ⟨K, 0, it0, mk0, [], []⟩ = t := ⟨_, rfl⟩
    rw [ht]
    have HT := Hid.mk' ht
    clear ht hm hE hS
    by_cases hl2 : t = l
    · subst hl2
      go_wp2_with fail
      refine bodyPost_ret (v := .tuple #[rv K 0 ⟨0, 0, 0, 0⟩ mk0 (.slice none 0 0) (.slice none 0 0), .int .i64 0]) (by simp [results, Try.results31, go_sem, rv, mk0, *]) rfl ⟨(grownBy_store (grownBy_store (grownBy_store (grownBy_store (grownBy_store (grownBy_store (grownBy_store (grownBy_store (grownBy_store (grownBy_store (grownBy_store (grownBy_store (grownBy_store G2.out (by omega) _ _) (by omega) _ _) (by omega) _ _) (by omega) _ _) (by omega) _ _) (by omega) _ _) (by omega) _ _) (by omega) _ _) (by omega) _ _) (by omega) _ _) (by omega) _ _) (by omega) _ _) (by omega) _ _), .inr ⟨?_, .slice none 0 0, .slice none 0 0, ?_, ?_, ?_, by simp [Value.ownBlock]⟩⟩
      · rw [decB, HX.out, HM.out, HT.out]; simp
      · rw [HX.out]; rfl
      · rw [HX.out]; exact World.ownsRow_nil _ _ _ _
      · rw [HX.out]; exact World.ownsRow_nil _ _ _ _
    · have hne : ((S t).toList == (S l).toList) = false := by rw [S_toList, S_toList]; simp [hl2]
      go_wp2_with fail
      refine bodyPost_ret (v := .tuple #[zeroV, .int .i64 7]) (by simp [results, Try.results31, go_sem, zeroV, rv, it0, mk0, *]) rfl (dec_no w l _ (grownBy_store (grownBy_store (grownBy_store (grownBy_store (grownBy_store (grownBy_store (grownBy_store (grownBy_store (grownBy_store (grownBy_store (grownBy_store (grownBy_store (grownBy_store G2.out (by omega) _ _) (by omega) _ _) (by omega) _ _) (by omega) _ _) (by omega) _ _) (by omega) _ _) (by omega) _ _) (by omega) _ _) (by omega) _ _) (by omega) _ _) (by omega) _ _) (by omega) _ _) (by omega) _ _) ?_)
      rw [decB, HX.out, HM.out, HT.out]; simp [hl2]
end Go.Proofs.Ytammnaafdhhjaaa

/- Ytammnaafdhhjaaa: Decode of the document: an Arrive, a Cross. -/
namespace Go.Proofs.Ytammnaafdhhjaaa
open Go.RowKit

set_option maxHeartbeats 2000000 in
theorem refDec_4 (l : List UInt8) (w : World) (hl : l.length ≤ 1000000000) (hK : rdN l 0 1 = 4) :
    Calls Try.prog 31 #[.string (S l)] w fun e w' => DecPost w l e w' := by
  have hsf := run_store_float
  have hd : dec l = ⟨4, rdN l 1 2, pIt (l.drop 3), mk0, [], []⟩ := by
    have : b1 l = 4 := by rw [← hK, rdN1, List.drop_zero]
    simp only [dec, this, pRc_4, t1_eq, rdN2, t2, List.drop_drop]
  have cR := rd1 l 0
  rw [hK] at cR
  have CR := Hid.mk' cR
  clear cR
  have cS := rd2 l 1
  have cI := refItemAt_any l 3
  have hI := pIt_wf (l.drop 3)
  generalize pIt (l.drop 3) = i at *
  generalize rdN l 1 2 = sq at *
  have HD := Hid.mk' hd
  have CS := Hid.mk' cS
  have CI := Hid.mk' cI
  have WX : Hid (WfR ⟨4, sq, fxI i, mk0, [], []⟩) := ⟨⟨fx_lt _ hI.p, fx_lt _ hI.s⟩, by simp, by simp⟩
  clear hd cS cI hI
  go_enter Try.func31, Try.ntmps31
  go_wp2_with fail
  refine (CR.out _ hl (by omega)).mono ?_
  rintro e w' ⟨rfl, rfl⟩
  go_wp2_with fail
  refine (CS.out _ hl (by omega)).mono ?_
  rintro e w' ⟨rfl, rfl⟩
  go_wp2_with fail
  refine (CI.out _ hl (by omega)).mono ?_
  rintro e w1 ⟨rfl, g1⟩
  have G1 := Hid.mk' ((grownBy_two w _ _).trans g1)
  have z1 := g1.size
  simp at z1
  have a0 : w1.cell? ⟨w.heap.size, 0, none⟩ = some (.int .i64 0) := g1.cell (by go_simp) (by simp)
  have a1 : w1.cell? ⟨w.heap.size, 1, none⟩ = some (.int .i64 0) := g1.cell (by go_simp) (by simp)
  have a2 : w1.cell? ⟨w.heap.size, 2, none⟩ = some (.int .i64 0) := g1.cell (by go_simp) (by simp)
  have a3 : w1.cell? ⟨w.heap.size, 3, none⟩ = some (.int .i64 0) := g1.cell (by go_simp) (by simp)
  have a4 : w1.cell? ⟨w.heap.size, 4, none⟩ = some (.float .f32 0) := g1.cell (by go_simp) (by simp)
  have a5 : w1.cell? ⟨w.heap.size, 5, none⟩ = some (.float .f32 0) := g1.cell (by go_simp) (by simp)
  have a6 : w1.cell? ⟨w.heap.size, 6, none⟩ = some (.int .i64 0) := g1.cell (by go_simp) (by simp)
  have a7 : w1.cell? ⟨w.heap.size, 7, none⟩ = some (.int .i64 0) := g1.cell (by go_simp) (by simp)
  have a8 : w1.cell? ⟨w.heap.size, 8, none⟩ = some (.int .i64 0) := g1.cell (by go_simp) (by simp)
  have a9 : w1.cell? ⟨w.heap.size, 9, none⟩ = some (.int .i64 0) := g1.cell (by go_simp) (by simp)
  have a10 : w1.cell? ⟨w.heap.size, 10, none⟩ = some (.int .i64 0) := g1.cell (by go_simp) (by simp)
  have a11 : w1.cell? ⟨w.heap.size, 11, none⟩ = some (.slice none 0 0) := g1.cell (by go_simp) (by simp)
  have a12 : w1.cell? ⟨w.heap.size, 12, none⟩ = some (.slice none 0 0) := g1.cell (by go_simp) (by simp)
  have c0 : w1.cell? ⟨w.heap.size + 1, 0, none⟩ = some (.int .i64 4) := g1.cell (by go_simp) (by simp)
  have c1 : w1.cell? ⟨w.heap.size + 1, 1, none⟩ = some (.int .i64 sq) := g1.cell (by go_simp) (by simp)
  have c2 : w1.cell? ⟨w.heap.size + 1, 2, none⟩ = some (.int .i64 0) := g1.cell (by go_simp) (by simp)
  have c3 : w1.cell? ⟨w.heap.size + 1, 3, none⟩ = some (.int .i64 0) := g1.cell (by go_simp) (by simp)
  have c4 : w1.cell? ⟨w.heap.size + 1, 4, none⟩ = some (.float .f32 0) := g1.cell (by go_simp) (by simp)
  have c5 : w1.cell? ⟨w.heap.size + 1, 5, none⟩ = some (.float .f32 0) := g1.cell (by go_simp) (by simp)
  have c6 : w1.cell? ⟨w.heap.size + 1, 6, none⟩ = some (.int .i64 0) := g1.cell (by go_simp) (by simp)
  have c7 : w1.cell? ⟨w.heap.size + 1, 7, none⟩ = some (.int .i64 0) := g1.cell (by go_simp) (by simp)
  have c8 : w1.cell? ⟨w.heap.size + 1, 8, none⟩ = some (.int .i64 0) := g1.cell (by go_simp) (by simp)
  have c9 : w1.cell? ⟨w.heap.size + 1, 9, none⟩ = some (.int .i64 0) := g1.cell (by go_simp) (by simp)
  have c10 : w1.cell? ⟨w.heap.size + 1, 10, none⟩ = some (.int .i64 0) := g1.cell (by go_simp) (by simp)
  have c11 : w1.cell? ⟨w.heap.size + 1, 11, none⟩ = some (.slice none 0 0) := g1.cell (by go_simp) (by simp)
  have c12 : w1.cell? ⟨w.heap.size + 1, 12, none⟩ = some (.slice none 0 0) := g1.cell (by go_simp) (by simp)
  have fa : ∀ o, w1.frozen? ⟨w.heap.size, o, none⟩ = false := fun o => by
    rw [World.frozen?_of_block (a := ⟨w.heap.size, o, none⟩) (g1.block w.heap.size (by simp; omega) (by simp))]; go_simp
  have fc : ∀ o, w1.frozen? ⟨w.heap.size + 1, o, none⟩ = false := fun o => by
    rw [World.frozen?_of_block (a := ⟨w.heap.size + 1, o, none⟩) (g1.block (w.heap.size + 1) (by simp) (by simp))]; go_simp
  clear g1
  go_wp2_with fail
  refine Calls.mono (refEncode_any ⟨4, sq, fxI i, mk0, [], []⟩ (.slice none 0 0) (.slice none 0 0) _ (lI_nil _) (lE_nil _) WX.out (by simp) (by simp)) ?_
  rintro e w2 ⟨rfl, g2⟩
  have b0 : w2.cell? ⟨w.heap.size, 0, none⟩ = some (.int .i64 0) := g2.cell (by go_simp) (by simp)
  have b1 : w2.cell? ⟨w.heap.size, 1, none⟩ = some (.int .i64 0) := g2.cell (by go_simp) (by simp)
  have b2 : w2.cell? ⟨w.heap.size, 2, none⟩ = some (.int .i64 0) := g2.cell (by go_simp) (by simp)
  have b3 : w2.cell? ⟨w.heap.size, 3, none⟩ = some (.int .i64 0) := g2.cell (by go_simp) (by simp)
  have b4 : w2.cell? ⟨w.heap.size, 4, none⟩ = some (.float .f32 0) := g2.cell (by go_simp) (by simp)
  have b5 : w2.cell? ⟨w.heap.size, 5, none⟩ = some (.float .f32 0) := g2.cell (by go_simp) (by simp)
  have b6 : w2.cell? ⟨w.heap.size, 6, none⟩ = some (.int .i64 0) := g2.cell (by go_simp) (by simp)
  have b7 : w2.cell? ⟨w.heap.size, 7, none⟩ = some (.int .i64 0) := g2.cell (by go_simp) (by simp)
  have b8 : w2.cell? ⟨w.heap.size, 8, none⟩ = some (.int .i64 0) := g2.cell (by go_simp) (by simp)
  have b9 : w2.cell? ⟨w.heap.size, 9, none⟩ = some (.int .i64 0) := g2.cell (by go_simp) (by simp)
  have b10 : w2.cell? ⟨w.heap.size, 10, none⟩ = some (.int .i64 0) := g2.cell (by go_simp) (by simp)
  have b11 : w2.cell? ⟨w.heap.size, 11, none⟩ = some (.slice none 0 0) := g2.cell (by go_simp) (by simp)
  have b12 : w2.cell? ⟨w.heap.size, 12, none⟩ = some (.slice none 0 0) := g2.cell (by go_simp) (by simp)
  have r0 : w2.cell? ⟨w.heap.size + 1, 0, none⟩ = some (.int .i64 4) := g2.cell (by go_simp) (by simp)
  have r1 : w2.cell? ⟨w.heap.size + 1, 1, none⟩ = some (.int .i64 sq) := g2.cell (by go_simp) (by simp)
  have r2 : w2.cell? ⟨w.heap.size + 1, 2, none⟩ = some (.int .i64 i.sh) := g2.cell (by go_simp) (by simp)
  have r3 : w2.cell? ⟨w.heap.size + 1, 3, none⟩ = some (.int .i64 i.nu) := g2.cell (by go_simp) (by simp)
  have r4 : w2.cell? ⟨w.heap.size + 1, 4, none⟩ = some (.float .f32 (fx i.pl)) := g2.cell (by go_simp) (by simp)
  have r5 : w2.cell? ⟨w.heap.size + 1, 5, none⟩ = some (.float .f32 (fx i.sp)) := g2.cell (by go_simp) (by simp)
  have r6 : w2.cell? ⟨w.heap.size + 1, 6, none⟩ = some (.int .i64 0) := g2.cell (by go_simp) (by simp)
  have r7 : w2.cell? ⟨w.heap.size + 1, 7, none⟩ = some (.int .i64 0) := g2.cell (by go_simp) (by simp)
  have r8 : w2.cell? ⟨w.heap.size + 1, 8, none⟩ = some (.int .i64 0) := g2.cell (by go_simp) (by simp)
  have r9 : w2.cell? ⟨w.heap.size + 1, 9, none⟩ = some (.int .i64 0) := g2.cell (by go_simp) (by simp)
  have r10 : w2.cell? ⟨w.heap.size + 1, 10, none⟩ = some (.int .i64 0) := g2.cell (by go_simp) (by simp)
  have r11 : w2.cell? ⟨w.heap.size + 1, 11, none⟩ = some (.slice none 0 0) := g2.cell (by go_simp) (by simp)
  have r12 : w2.cell? ⟨w.heap.size + 1, 12, none⟩ = some (.slice none 0 0) := g2.cell (by go_simp) (by simp)
  have fb : ∀ o, w2.frozen? ⟨w.heap.size, o, none⟩ = false := fun o => by
    rw [World.frozen?_of_block (a := ⟨w.heap.size, o, none⟩) (g2.block w.heap.size (by simp; omega) (by simp))]; go_simp
  have G2 := Hid.mk' ((grownBy_store (grownBy_store (grownBy_store (grownBy_store G1.out (by omega) _ _) (by omega) _ _) (by omega) _ _) (by omega) _ _).trans g2)
  clear a0 c0 a1 c1 a2 c2 a3 c3 a4 c4 a5 c5 a6 c6 a7 c7 a8 c8 a9 c9 a10 c10 a11 c11 a12 c12 fa fc g2
  cases hk : okI i
  · go_wp2_with fail
    refine bodyPost_ret (v := .tuple #[zeroV, .int .i64 7]) (by simp [results, Try.results31, go_sem, zeroV, rv, it0, mk0, *]) rfl (dec_no w l _ (grownBy_store (grownBy_store (grownBy_store (grownBy_store (grownBy_store (grownBy_store (grownBy_store (grownBy_store (grownBy_store (grownBy_store (grownBy_store (grownBy_store (grownBy_store G2.out (by omega) _ _) (by omega) _ _) (by omega) _ _) (by omega) _ _) (by omega) _ _) (by omega) _ _) (by omega) _ _) (by omega) _ _) (by omega) _ _) (by omega) _ _) (by omega) _ _) (by omega) _ _) (by omega) _ _) ?_)
    rw [decB, HD.out]; simp [mayB, okI_no hk]
  · have HX : Hid (dec l = ⟨4, sq, fxI i, mk0, [], []⟩) := by show _ = _; rw [HD.out, fxI_ok hk]
    cases hm : mayB ⟨4, sq, fxI i, mk0, [], []⟩
    · have hE : encE ⟨4, sq, fxI i, mk0, [], []⟩ = 2 := by simp [encE, hm]
      rw [hE]
      go_wp2_with fail
      refine bodyPost_ret (v := .tuple #[zeroV, .int .i64 7]) (by simp [results, Try.results31, go_sem, zeroV, rv, it0, mk0, *]) rfl (dec_no w l _ (grownBy_store (grownBy_store (grownBy_store (grownBy_store (grownBy_store (grownBy_store (grownBy_store (grownBy_store (grownBy_store (grownBy_store (grownBy_store (grownBy_store (grownBy_store G2.out (by omega) _ _) (by omega) _ _) (by omega) _ _) (by omega) _ _) (by omega) _ _) (by omega) _ _) (by omega) _ _) (by omega) _ _) (by omega) _ _) (by omega) _ _) (by omega) _ _) (by omega) _ _) (by omega) _ _) ?_)
      rw [decB, HX.out, hm]; rfl
    · have hE : encE ⟨4, sq, fxI i, mk0, [], []⟩ = 0 := by simp [encE, hm]
      have hS : encS ⟨4, sq, fxI i, mk0, [], []⟩ = enc ⟨4, sq, fxI i, mk0, [], []⟩ := by simp [encS, hm]
      rw [hE, hS]
      have HM := Hid.mk' hm
      obtain ⟨t, ht⟩ : ∃ t, enc ⟨4, sq, fxI i, mk0, [], []⟩ = t := ⟨_, rfl⟩
      rw [ht]
      have HT := Hid.mk' ht
      clear ht hm hE hS
      by_cases hl2 : t = l
      · subst hl2
        go_wp2_with fail
        refine bodyPost_ret (v := .tuple #[rv 4 sq ⟨i.sh, i.nu, (fx i.pl), (fx i.sp)⟩ mk0 (.slice none 0 0) (.slice none 0 0), .int .i64 0]) (by simp [results, Try.results31, go_sem, rv, mk0, *]) rfl ⟨(grownBy_store (grownBy_store (grownBy_store (grownBy_store (grownBy_store (grownBy_store (grownBy_store (grownBy_store (grownBy_store (grownBy_store (grownBy_store (grownBy_store (grownBy_store G2.out (by omega) _ _) (by omega) _ _) (by omega) _ _) (by omega) _ _) (by omega) _ _) (by omega) _ _) (by omega) _ _) (by omega) _ _) (by omega) _ _) (by omega) _ _) (by omega) _ _) (by omega) _ _) (by omega) _ _), .inr ⟨?_, .slice none 0 0, .slice none 0 0, ?_, ?_, ?_, by simp [Value.ownBlock]⟩⟩
        · rw [decB, HX.out, HM.out, HT.out]; simp
        · rw [HX.out]; rfl
        · rw [HX.out]; exact World.ownsRow_nil _ _ _ _
        · rw [HX.out]; exact World.ownsRow_nil _ _ _ _
      · have hne : ((S t).toList == (S l).toList) = false := by rw [S_toList, S_toList]; simp [hl2]
        go_wp2_with fail
        refine bodyPost_ret (v := .tuple #[zeroV, .int .i64 7]) (by simp [results, Try.results31, go_sem, zeroV, rv, it0, mk0, *]) rfl (dec_no w l _ (grownBy_store (grownBy_store (grownBy_store (grownBy_store (grownBy_store (grownBy_store (grownBy_store (grownBy_store (grownBy_store (grownBy_store (grownBy_store (grownBy_store (grownBy_store G2.out (by omega) _ _) (by omega) _ _) (by omega) _ _) (by omega) _ _) (by omega) _ _) (by omega) _ _) (by omega) _ _) (by omega) _ _) (by omega) _ _) (by omega) _ _) (by omega) _ _) (by omega) _ _) (by omega) _ _) ?_)
        rw [decB, HX.out, HM.out, HT.out]; simp [hl2]
end Go.Proofs.Ytammnaafdhhjaaa

/- Ytammnaafdhhjaaa: Decode of the document: an Acked, an Ack. -/
namespace Go.Proofs.Ytammnaafdhhjaaa
open Go.RowKit

set_option maxHeartbeats 2000000 in
theorem refDec_5 (l : List UInt8) (w : World) (hl : l.length ≤ 1000000000) (hK : rdN l 0 1 = 5) :
    Calls Try.prog 31 #[.string (S l)] w fun e w' => DecPost w l e w' := by
  have hsf := run_store_float
  have hd : dec l = ⟨5, rdN l 1 2, it0, mk0, [], []⟩ := by
    have : b1 l = 5 := by rw [← hK, rdN1, List.drop_zero]
    simp only [dec, this, pRc_5, t1_eq, rdN2]
  have cR := rd1 l 0
  rw [hK] at cR
  have CR := Hid.mk' cR
  clear cR
  have cS := rd2 l 1
  generalize rdN l 1 2 = sq at *
  have HX := Hid.mk' hd
  have CS := Hid.mk' cS
  have WX : Hid (WfR ⟨5, sq, it0, mk0, [], []⟩) := ⟨it0_wf, by simp, by simp⟩
  clear hd cS
  go_enter Try.func31, Try.ntmps31
  go_wp2_with fail
  refine (CR.out _ hl (by omega)).mono ?_
  rintro e w' ⟨rfl, rfl⟩
  go_wp2_with fail
  refine (CS.out _ hl (by omega)).mono ?_
  rintro e w' ⟨rfl, rfl⟩
  go_wp2_with fail
  refine Calls.mono (refEncode_any ⟨5, sq, it0, mk0, [], []⟩ (.slice none 0 0) (.slice none 0 0) _ (lI_nil _) (lE_nil _) WX.out (by simp) (by simp)) ?_
  rintro e w2 ⟨rfl, g2⟩
  have b0 : w2.cell? ⟨w.heap.size, 0, none⟩ = some (.int .i64 0) := g2.cell (by go_simp) (by simp)
  have b1 : w2.cell? ⟨w.heap.size, 1, none⟩ = some (.int .i64 0) := g2.cell (by go_simp) (by simp)
  have b2 : w2.cell? ⟨w.heap.size, 2, none⟩ = some (.int .i64 0) := g2.cell (by go_simp) (by simp)
  have b3 : w2.cell? ⟨w.heap.size, 3, none⟩ = some (.int .i64 0) := g2.cell (by go_simp) (by simp)
  have b4 : w2.cell? ⟨w.heap.size, 4, none⟩ = some (.float .f32 0) := g2.cell (by go_simp) (by simp)
  have b5 : w2.cell? ⟨w.heap.size, 5, none⟩ = some (.float .f32 0) := g2.cell (by go_simp) (by simp)
  have b6 : w2.cell? ⟨w.heap.size, 6, none⟩ = some (.int .i64 0) := g2.cell (by go_simp) (by simp)
  have b7 : w2.cell? ⟨w.heap.size, 7, none⟩ = some (.int .i64 0) := g2.cell (by go_simp) (by simp)
  have b8 : w2.cell? ⟨w.heap.size, 8, none⟩ = some (.int .i64 0) := g2.cell (by go_simp) (by simp)
  have b9 : w2.cell? ⟨w.heap.size, 9, none⟩ = some (.int .i64 0) := g2.cell (by go_simp) (by simp)
  have b10 : w2.cell? ⟨w.heap.size, 10, none⟩ = some (.int .i64 0) := g2.cell (by go_simp) (by simp)
  have b11 : w2.cell? ⟨w.heap.size, 11, none⟩ = some (.slice none 0 0) := g2.cell (by go_simp) (by simp)
  have b12 : w2.cell? ⟨w.heap.size, 12, none⟩ = some (.slice none 0 0) := g2.cell (by go_simp) (by simp)
  have r0 : w2.cell? ⟨w.heap.size + 1, 0, none⟩ = some (.int .i64 5) := g2.cell (by go_simp) (by simp)
  have r1 : w2.cell? ⟨w.heap.size + 1, 1, none⟩ = some (.int .i64 sq) := g2.cell (by go_simp) (by simp)
  have r2 : w2.cell? ⟨w.heap.size + 1, 2, none⟩ = some (.int .i64 0) := g2.cell (by go_simp) (by simp)
  have r3 : w2.cell? ⟨w.heap.size + 1, 3, none⟩ = some (.int .i64 0) := g2.cell (by go_simp) (by simp)
  have r4 : w2.cell? ⟨w.heap.size + 1, 4, none⟩ = some (.float .f32 0) := g2.cell (by go_simp) (by simp)
  have r5 : w2.cell? ⟨w.heap.size + 1, 5, none⟩ = some (.float .f32 0) := g2.cell (by go_simp) (by simp)
  have r6 : w2.cell? ⟨w.heap.size + 1, 6, none⟩ = some (.int .i64 0) := g2.cell (by go_simp) (by simp)
  have r7 : w2.cell? ⟨w.heap.size + 1, 7, none⟩ = some (.int .i64 0) := g2.cell (by go_simp) (by simp)
  have r8 : w2.cell? ⟨w.heap.size + 1, 8, none⟩ = some (.int .i64 0) := g2.cell (by go_simp) (by simp)
  have r9 : w2.cell? ⟨w.heap.size + 1, 9, none⟩ = some (.int .i64 0) := g2.cell (by go_simp) (by simp)
  have r10 : w2.cell? ⟨w.heap.size + 1, 10, none⟩ = some (.int .i64 0) := g2.cell (by go_simp) (by simp)
  have r11 : w2.cell? ⟨w.heap.size + 1, 11, none⟩ = some (.slice none 0 0) := g2.cell (by go_simp) (by simp)
  have r12 : w2.cell? ⟨w.heap.size + 1, 12, none⟩ = some (.slice none 0 0) := g2.cell (by go_simp) (by simp)
  have fb : ∀ o, w2.frozen? ⟨w.heap.size, o, none⟩ = false := fun o => by
    rw [World.frozen?_of_block (a := ⟨w.heap.size, o, none⟩) (g2.block w.heap.size (by simp; omega) (by simp))]; go_simp
  have G2 := Hid.mk' ((grownBy_two w _ _).trans g2)
  clear g2
  cases hm : mayB ⟨5, sq, it0, mk0, [], []⟩
  · have hE : encE ⟨5, sq, it0, mk0, [], []⟩ = 2 := by simp [encE, hm]
    rw [hE]
    go_wp2_with fail
    refine bodyPost_ret (v := .tuple #[zeroV, .int .i64 7]) (by simp [results, Try.results31, go_sem, zeroV, rv, it0, mk0, *]) rfl (dec_no w l _ (grownBy_store (grownBy_store (grownBy_store (grownBy_store (grownBy_store (grownBy_store (grownBy_store (grownBy_store (grownBy_store (grownBy_store (grownBy_store (grownBy_store (grownBy_store G2.out (by omega) _ _) (by omega) _ _) (by omega) _ _) (by omega) _ _) (by omega) _ _) (by omega) _ _) (by omega) _ _) (by omega) _ _) (by omega) _ _) (by omega) _ _) (by omega) _ _) (by omega) _ _) (by omega) _ _) ?_)
    rw [decB, HX.out, hm]; rfl
  · have hE : encE ⟨5, sq, it0, mk0, [], []⟩ = 0 := by simp [encE, hm]
    have hS : encS ⟨5, sq, it0, mk0, [], []⟩ = enc ⟨5, sq, it0, mk0, [], []⟩ := by simp [encS, hm]
    rw [hE, hS]
    have HM := Hid.mk' hm
    obtain ⟨t, ht⟩ : ∃ t, enc ⟨5, sq, it0, mk0, [], []⟩ = t := ⟨_, rfl⟩
    rw [ht]
    have HT := Hid.mk' ht
    clear ht hm hE hS
    by_cases hl2 : t = l
    · subst hl2
      go_wp2_with fail
      refine bodyPost_ret (v := .tuple #[rv 5 sq ⟨0, 0, 0, 0⟩ mk0 (.slice none 0 0) (.slice none 0 0), .int .i64 0]) (by simp [results, Try.results31, go_sem, rv, mk0, *]) rfl ⟨(grownBy_store (grownBy_store (grownBy_store (grownBy_store (grownBy_store (grownBy_store (grownBy_store (grownBy_store (grownBy_store (grownBy_store (grownBy_store (grownBy_store (grownBy_store G2.out (by omega) _ _) (by omega) _ _) (by omega) _ _) (by omega) _ _) (by omega) _ _) (by omega) _ _) (by omega) _ _) (by omega) _ _) (by omega) _ _) (by omega) _ _) (by omega) _ _) (by omega) _ _) (by omega) _ _), .inr ⟨?_, .slice none 0 0, .slice none 0 0, ?_, ?_, ?_, by simp [Value.ownBlock]⟩⟩
      · rw [decB, HX.out, HM.out, HT.out]; simp
      · rw [HX.out]; rfl
      · rw [HX.out]; exact World.ownsRow_nil _ _ _ _
      · rw [HX.out]; exact World.ownsRow_nil _ _ _ _
    · have hne : ((S t).toList == (S l).toList) = false := by rw [S_toList, S_toList]; simp [hl2]
      go_wp2_with fail
      refine bodyPost_ret (v := .tuple #[zeroV, .int .i64 7]) (by simp [results, Try.results31, go_sem, zeroV, rv, it0, mk0, *]) rfl (dec_no w l _ (grownBy_store (grownBy_store (grownBy_store (grownBy_store (grownBy_store (grownBy_store (grownBy_store (grownBy_store (grownBy_store (grownBy_store (grownBy_store (grownBy_store (grownBy_store G2.out (by omega) _ _) (by omega) _ _) (by omega) _ _) (by omega) _ _) (by omega) _ _) (by omega) _ _) (by omega) _ _) (by omega) _ _) (by omega) _ _) (by omega) _ _) (by omega) _ _) (by omega) _ _) (by omega) _ _) ?_)
      rw [decB, HX.out, HM.out, HT.out]; simp [hl2]
end Go.Proofs.Ytammnaafdhhjaaa
