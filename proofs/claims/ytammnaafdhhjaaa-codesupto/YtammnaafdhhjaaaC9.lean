/- Ytammnaafdhhjaaa: Decode on both sides; what came out is the caller's. -/
import Derived.Test.YtammnaafdhhjaaaC8
import Derived.Test.YtammnaafdhhjaaaR99
namespace Go.Proofs.Ytammnaafdhhjaaa
open Go.RowKit

def decP (l : List UInt8) : Rc := if decB l = true then dec l else ⟨0, 0, it0, mk0, [], []⟩
def decE (l : List UInt8) : Int := if decB l = true then 0 else 7
theorem dec_uni {w w' : World} {l : List UInt8} {e : Ending} (h : DecPost w l e w') : w.grownBy w' none ∧ ∃ vi vo, e = .returned (.tuple #[rv (decP l).kind (decP l).seq (decP l).it (decP l).mks vi vo, .int .i64 (decE l)]) ∧ OwnI w.heap.size w' vi (decP l).items ∧ OwnE w.heap.size w' vo (decP l).outs ∧ (∀ j, vi.ownBlock = some j → vo.ownBlock ≠ some j) ∧ (decB l = false → vi = .slice none 0 0 ∧ vo = .slice none 0 0) := by
  obtain ⟨g, hx⟩ := h
  refine ⟨g, ?_⟩
  unfold decP decE
  rcases hx with ⟨h0, rfl⟩ | ⟨h1, vi, vo, rfl, oi, oo, ap⟩
  · rw [h0]
    exact ⟨.slice none 0 0, .slice none 0 0, rfl, OwnI.nil _ _, OwnE.nil _ _, by simp [Value.ownBlock], fun _ => ⟨rfl, rfl⟩⟩
  · rw [h1]
    exact ⟨vi, vo, rfl, oi, oo, ap, fun h => absurd h (by decide)⟩
theorem grown_of_only {w W W' : World} {A : Nat → Prop} (g : w.grownBy W none) (o : Only W W' A) (hA : ∀ k, A k → w.heap.size ≤ k) : w.grownBy W' none :=
  ⟨o.os.trans g.os, o.tape.trans g.tape, o.output.trans g.output, Nat.le_trans g.size o.size, fun k hk _ => by
    have hz := g.size
    rw [o.block k (by omega) (fun e => by have := hA k e; omega), g.block k hk (by simp)]⟩
theorem decP_small (l : List UInt8) : (decP l).items.length ≤ 16 ∧ (decP l).outs.length ≤ 8 ∧ Fine (decP l).it ∧ (∀ x ∈ (decP l).items, Fine x) ∧ (∀ x ∈ (decP l).outs, Fine x.it) := by
  unfold decP
  cases h : decB l
  · exact ⟨by simp, by simp, fine0, by simp, by simp⟩
  · have hm := (decB_form h).1
    rw [if_pos rfl]
    generalize dec l = r at hm
    obtain ⟨K, s, i, m, is, es⟩ := r
    by_cases h6 : K = 6
    · subst h6
      simp [mayB, baseB, itemsB, outsB] at hm
      obtain ⟨⟨_, hn⟩, ⟨_, hni, hci⟩, hno, hce⟩ := hm
      refine ⟨hni, hno, by rw [noIt_eq hn]; exact fine0, fun x hx => fine_of (chk_ok hci x hx), fun x hx => fine_of (chkE_ok hce x hx).2⟩
    · obtain ⟨_, e2, e3⟩ := nobB_eq (mayB_nob hm h6)
      simp only at e2 e3
      subst e2 e3
      refine ⟨by simp, by simp, ?_, by simp, by simp⟩
      have hk := may_kind hm
      simp only at hk
      rcases hk with rfl | rfl | rfl | rfl | rfl | rfl | rfl | rfl
      · simp [mayB] at hm; exact fine_of hm.1.2
      · simp [mayB] at hm
        have := hm.1.2
        simp [stB] at this
        exact ⟨by rw [this.1]; exact fine0.p, by rw [this.2]; exact fine0.s⟩
      · simp [mayB] at hm; rw [noIt_eq hm.1.2]; exact fine0
      · simp [mayB] at hm; exact fine_of hm.1.2
      · simp [mayB] at hm; rw [noIt_eq hm.1.2]; exact fine0
      · exact absurd rfl h6
      · simp [mayB] at hm; exact fine_of hm.1.2
      · simp [mayB] at hm; rw [noIt_eq hm.1.2]; exact fine0


set_option maxHeartbeats 4000000 in
set_option maxRecDepth 100000 in
theorem decodes_no (l : List UInt8) (w : World) (hl : l.length ≤ 2000000) (hB : decB l = false) :
    Calls Try.prog 14 #[.string (S l)] w fun e w' => e = .returned (.bool true) ∧ w.grownBy w' none := by
  have hsf := run_store_float
  have c0 := fun w => (refDecode_any l w hl).mono (fun e w' h => dec_uni h)
  have c1 := fun w => (decode_any l w).mono (fun e w' h => dec_uni h)
  have hsm := decP_small l
  have HE : Hid (decB l = true → mayB (decP l) = true ∧ enc (decP l) = l ∧ WfR (decP l)) := fun h => by
    have h2 := h
    simp only [decB, Bool.and_eq_true, beq_iff_eq] at h2
    rw [decP, if_pos h]
    exact ⟨h2.1, h2.2, dec_wf l⟩
  have hE : decE l = 7 := by rw [decE, hB]; rfl
  rw [hE] at c0 c1
  generalize decP l = P at *
  obtain ⟨K, s, i, m, is, es⟩ := P
  simp only at c0 c1 hsm
  have C0 := Hid.mk' c0
  have C1 := Hid.mk' c1
  have HS := Hid.mk' hsm
  have HB := Hid.mk' hB
  clear c0 c1 hsm hE hB
  go_enter Try.func14, Try.ntmps14
  go_wp2_with fail
  refine Calls.mono (C0.out _) ?_
  rintro e wA ⟨gA, vi0, vo0, rfl, oi0, oo0, _, nn0⟩
  obtain ⟨ai0, ni0, ci0, rfl⟩ := slice_of oi0
  obtain ⟨ao0, no0, co0, rfl⟩ := slice_of oo0
  unfold rv
  have OI0 := Hid.mk' oi0
  have OO0 := Hid.mk' oo0
  clear oi0 oo0 nn0
  have GA := Hid.mk' gA
  clear gA
  go_wp2_with fail
  refine Calls.mono (C1.out _) ?_
  rintro e wB ⟨gB, vi1, vo1, rfl, oi1, oo1, ap1, nn1⟩
  obtain ⟨ai1, ni1, ci1, rfl⟩ := slice_of oi1
  obtain ⟨ao1, no1, co1, rfl⟩ := slice_of oo1
  unfold rv
  have OI1 := Hid.mk' oi1
  have OO1 := Hid.mk' oo1
  have AP1 := Hid.mk' ap1
  have NN1 := Hid.mk' nn1
  clear oi1 oo1 ap1 nn1
  have zB := gB.size
  simp at zB
  have xAB : wA.heap.size < wB.heap.size := by omega
  have xAB' : wA.heap.size ≠ wB.heap.size := by omega
  have a_0 : wB.cell? ⟨wA.heap.size, 0, none⟩ = some (.int .i64 K) := gB.cell (by go_simp) (by simp)
  have a_1 : wB.cell? ⟨wA.heap.size, 1, none⟩ = some (.int .i64 s) := gB.cell (by go_simp) (by simp)
  have a_2 : wB.cell? ⟨wA.heap.size, 2, none⟩ = some (.int .i64 i.sh) := gB.cell (by go_simp) (by simp)
  have a_3 : wB.cell? ⟨wA.heap.size, 3, none⟩ = some (.int .i64 i.nu) := gB.cell (by go_simp) (by simp)
  have a_4 : wB.cell? ⟨wA.heap.size, 4, none⟩ = some (.float .f32 i.pl) := gB.cell (by go_simp) (by simp)
  have a_5 : wB.cell? ⟨wA.heap.size, 5, none⟩ = some (.float .f32 i.sp) := gB.cell (by go_simp) (by simp)
  have a_6 : wB.cell? ⟨wA.heap.size, 6, none⟩ = some (.int .i64 m.g) := gB.cell (by go_simp) (by simp)
  have a_7 : wB.cell? ⟨wA.heap.size, 7, none⟩ = some (.int .i64 m.m) := gB.cell (by go_simp) (by simp)
  have a_8 : wB.cell? ⟨wA.heap.size, 8, none⟩ = some (.int .i64 m.s) := gB.cell (by go_simp) (by simp)
  have a_9 : wB.cell? ⟨wA.heap.size, 9, none⟩ = some (.int .i64 m.a) := gB.cell (by go_simp) (by simp)
  have a_10 : wB.cell? ⟨wA.heap.size, 10, none⟩ = some (.int .i64 m.n) := gB.cell (by go_simp) (by simp)
  have a_11 : wB.cell? ⟨wA.heap.size, 11, none⟩ = some (.slice ai0 ni0 ci0) := gB.cell (by go_simp) (by simp)
  have a_12 : wB.cell? ⟨wA.heap.size, 12, none⟩ = some (.slice ao0 no0 co0) := gB.cell (by go_simp) (by simp)
  have GB := Hid.mk' (grownBy_alloc' GA.out _ |>.trans gB)
  have OI0b := Hid.mk' (own_grown (World.ownsRow.alloc OI0.out _) gB)
  have OO0b := Hid.mk' (own_grown (World.ownsRow.alloc OO0.out _) gB)
  clear gB OI0 OO0
  go_wp2_with fail
  refine Calls.mono (C1.out _) ?_
  rintro e wC ⟨gC, vi2, vo2, rfl, oi2, oo2, ap2, nn2⟩
  obtain ⟨ai2, ni2, ci2, rfl⟩ := slice_of oi2
  obtain ⟨ao2, no2, co2, rfl⟩ := slice_of oo2
  unfold rv
  have OI2 := Hid.mk' oi2
  have OO2 := Hid.mk' oo2
  have AP2 := Hid.mk' ap2
  clear oi2 oo2 ap2 nn2
  have zC := gC.size
  simp at zC
  have b_0 : wC.cell? ⟨wA.heap.size, 0, none⟩ = some (.int .i64 K) := gC.cell (by go_simp) (by simp)
  have b_1 : wC.cell? ⟨wA.heap.size, 1, none⟩ = some (.int .i64 s) := gC.cell (by go_simp) (by simp)
  have b_2 : wC.cell? ⟨wA.heap.size, 2, none⟩ = some (.int .i64 i.sh) := gC.cell (by go_simp) (by simp)
  have b_3 : wC.cell? ⟨wA.heap.size, 3, none⟩ = some (.int .i64 i.nu) := gC.cell (by go_simp) (by simp)
  have b_4 : wC.cell? ⟨wA.heap.size, 4, none⟩ = some (.float .f32 i.pl) := gC.cell (by go_simp) (by simp)
  have b_5 : wC.cell? ⟨wA.heap.size, 5, none⟩ = some (.float .f32 i.sp) := gC.cell (by go_simp) (by simp)
  have b_6 : wC.cell? ⟨wA.heap.size, 6, none⟩ = some (.int .i64 m.g) := gC.cell (by go_simp) (by simp)
  have b_7 : wC.cell? ⟨wA.heap.size, 7, none⟩ = some (.int .i64 m.m) := gC.cell (by go_simp) (by simp)
  have b_8 : wC.cell? ⟨wA.heap.size, 8, none⟩ = some (.int .i64 m.s) := gC.cell (by go_simp) (by simp)
  have b_9 : wC.cell? ⟨wA.heap.size, 9, none⟩ = some (.int .i64 m.a) := gC.cell (by go_simp) (by simp)
  have b_10 : wC.cell? ⟨wA.heap.size, 10, none⟩ = some (.int .i64 m.n) := gC.cell (by go_simp) (by simp)
  have b_11 : wC.cell? ⟨wA.heap.size, 11, none⟩ = some (.slice ai0 ni0 ci0) := gC.cell (by go_simp) (by simp)
  have b_12 : wC.cell? ⟨wA.heap.size, 12, none⟩ = some (.slice ao0 no0 co0) := gC.cell (by go_simp) (by simp)
  have c_0 : wC.cell? ⟨wB.heap.size, 0, none⟩ = some (.int .i64 K) := gC.cell (by go_simp) (by simp)
  have c_1 : wC.cell? ⟨wB.heap.size, 1, none⟩ = some (.int .i64 s) := gC.cell (by go_simp) (by simp)
  have c_2 : wC.cell? ⟨wB.heap.size, 2, none⟩ = some (.int .i64 i.sh) := gC.cell (by go_simp) (by simp)
  have c_3 : wC.cell? ⟨wB.heap.size, 3, none⟩ = some (.int .i64 i.nu) := gC.cell (by go_simp) (by simp)
  have c_4 : wC.cell? ⟨wB.heap.size, 4, none⟩ = some (.float .f32 i.pl) := gC.cell (by go_simp) (by simp)
  have c_5 : wC.cell? ⟨wB.heap.size, 5, none⟩ = some (.float .f32 i.sp) := gC.cell (by go_simp) (by simp)
  have c_6 : wC.cell? ⟨wB.heap.size, 6, none⟩ = some (.int .i64 m.g) := gC.cell (by go_simp) (by simp)
  have c_7 : wC.cell? ⟨wB.heap.size, 7, none⟩ = some (.int .i64 m.m) := gC.cell (by go_simp) (by simp)
  have c_8 : wC.cell? ⟨wB.heap.size, 8, none⟩ = some (.int .i64 m.s) := gC.cell (by go_simp) (by simp)
  have c_9 : wC.cell? ⟨wB.heap.size, 9, none⟩ = some (.int .i64 m.a) := gC.cell (by go_simp) (by simp)
  have c_10 : wC.cell? ⟨wB.heap.size, 10, none⟩ = some (.int .i64 m.n) := gC.cell (by go_simp) (by simp)
  have c_11 : wC.cell? ⟨wB.heap.size, 11, none⟩ = some (.slice ai1 ni1 ci1) := gC.cell (by go_simp) (by simp)
  have c_12 : wC.cell? ⟨wB.heap.size, 12, none⟩ = some (.slice ao1 no1 co1) := gC.cell (by go_simp) (by simp)
  clear a_0 a_1 a_2 a_3 a_4 a_5 a_6 a_7 a_8 a_9 a_10 a_11 a_12
  have GC := Hid.mk' (grownBy_alloc' GB.out _ |>.trans gC)
  have OI0c := Hid.mk' (own_grown (World.ownsRow.alloc OI0b.out _) gC)
  have OO0c := Hid.mk' (own_grown (World.ownsRow.alloc OO0b.out _) gC)
  have OI1c := Hid.mk' (own_grown (World.ownsRow.alloc OI1.out _) gC)
  have OO1c := Hid.mk' (own_grown (World.ownsRow.alloc OO1.out _) gC)
  clear gC OI0b OO0b
  have xAC : wA.heap.size < wC.heap.size := by omega
  have xBC : wB.heap.size < wC.heap.size := by omega
  have xAC' : wA.heap.size ≠ wC.heap.size := by omega
  have xBC' : wB.heap.size ≠ wC.heap.size := by omega
  go_wp2_with fail
  refine Calls.mono (sameRecord_any K s i m is es (.slice ai1 ni1 ci1) (.slice ao1 no1 co1) (.slice ai0 ni0 ci0) (.slice ao0 no0 co0) _ (Lies.of_own (World.ownsRow.alloc OI1c.out _)) (Lies.of_own (World.ownsRow.alloc OO1c.out _)) (Lies.of_own (World.ownsRow.alloc OI0c.out _)) (Lies.of_own (World.ownsRow.alloc OO0c.out _)) (Nat.le_trans HS.out.1 (by decide)) (Nat.le_trans HS.out.2.1 (by decide)) HS.out.2.2.1 HS.out.2.2.2.1 HS.out.2.2.2.2) ?_
  rintro e wD ⟨rfl, gD⟩
  have d_0 : wD.cell? ⟨wA.heap.size, 0, none⟩ = some (.int .i64 K) := gD.cell (by go_simp) (by simp)
  have d_1 : wD.cell? ⟨wA.heap.size, 1, none⟩ = some (.int .i64 s) := gD.cell (by go_simp) (by simp)
  have d_2 : wD.cell? ⟨wA.heap.size, 2, none⟩ = some (.int .i64 i.sh) := gD.cell (by go_simp) (by simp)
  have d_3 : wD.cell? ⟨wA.heap.size, 3, none⟩ = some (.int .i64 i.nu) := gD.cell (by go_simp) (by simp)
  have d_4 : wD.cell? ⟨wA.heap.size, 4, none⟩ = some (.float .f32 i.pl) := gD.cell (by go_simp) (by simp)
  have d_5 : wD.cell? ⟨wA.heap.size, 5, none⟩ = some (.float .f32 i.sp) := gD.cell (by go_simp) (by simp)
  have d_6 : wD.cell? ⟨wA.heap.size, 6, none⟩ = some (.int .i64 m.g) := gD.cell (by go_simp) (by simp)
  have d_7 : wD.cell? ⟨wA.heap.size, 7, none⟩ = some (.int .i64 m.m) := gD.cell (by go_simp) (by simp)
  have d_8 : wD.cell? ⟨wA.heap.size, 8, none⟩ = some (.int .i64 m.s) := gD.cell (by go_simp) (by simp)
  have d_9 : wD.cell? ⟨wA.heap.size, 9, none⟩ = some (.int .i64 m.a) := gD.cell (by go_simp) (by simp)
  have d_10 : wD.cell? ⟨wA.heap.size, 10, none⟩ = some (.int .i64 m.n) := gD.cell (by go_simp) (by simp)
  have d_11 : wD.cell? ⟨wA.heap.size, 11, none⟩ = some (.slice ai0 ni0 ci0) := gD.cell (by go_simp) (by simp)
  have d_12 : wD.cell? ⟨wA.heap.size, 12, none⟩ = some (.slice ao0 no0 co0) := gD.cell (by go_simp) (by simp)
  have e_0 : wD.cell? ⟨wB.heap.size, 0, none⟩ = some (.int .i64 K) := gD.cell (by go_simp) (by simp)
  have e_1 : wD.cell? ⟨wB.heap.size, 1, none⟩ = some (.int .i64 s) := gD.cell (by go_simp) (by simp)
  have e_2 : wD.cell? ⟨wB.heap.size, 2, none⟩ = some (.int .i64 i.sh) := gD.cell (by go_simp) (by simp)
  have e_3 : wD.cell? ⟨wB.heap.size, 3, none⟩ = some (.int .i64 i.nu) := gD.cell (by go_simp) (by simp)
  have e_4 : wD.cell? ⟨wB.heap.size, 4, none⟩ = some (.float .f32 i.pl) := gD.cell (by go_simp) (by simp)
  have e_5 : wD.cell? ⟨wB.heap.size, 5, none⟩ = some (.float .f32 i.sp) := gD.cell (by go_simp) (by simp)
  have e_6 : wD.cell? ⟨wB.heap.size, 6, none⟩ = some (.int .i64 m.g) := gD.cell (by go_simp) (by simp)
  have e_7 : wD.cell? ⟨wB.heap.size, 7, none⟩ = some (.int .i64 m.m) := gD.cell (by go_simp) (by simp)
  have e_8 : wD.cell? ⟨wB.heap.size, 8, none⟩ = some (.int .i64 m.s) := gD.cell (by go_simp) (by simp)
  have e_9 : wD.cell? ⟨wB.heap.size, 9, none⟩ = some (.int .i64 m.a) := gD.cell (by go_simp) (by simp)
  have e_10 : wD.cell? ⟨wB.heap.size, 10, none⟩ = some (.int .i64 m.n) := gD.cell (by go_simp) (by simp)
  have e_11 : wD.cell? ⟨wB.heap.size, 11, none⟩ = some (.slice ai1 ni1 ci1) := gD.cell (by go_simp) (by simp)
  have e_12 : wD.cell? ⟨wB.heap.size, 12, none⟩ = some (.slice ao1 no1 co1) := gD.cell (by go_simp) (by simp)
  have f_0 : wD.cell? ⟨wC.heap.size, 0, none⟩ = some (.int .i64 K) := gD.cell (by go_simp) (by simp)
  have f_1 : wD.cell? ⟨wC.heap.size, 1, none⟩ = some (.int .i64 s) := gD.cell (by go_simp) (by simp)
  have f_2 : wD.cell? ⟨wC.heap.size, 2, none⟩ = some (.int .i64 i.sh) := gD.cell (by go_simp) (by simp)
  have f_3 : wD.cell? ⟨wC.heap.size, 3, none⟩ = some (.int .i64 i.nu) := gD.cell (by go_simp) (by simp)
  have f_4 : wD.cell? ⟨wC.heap.size, 4, none⟩ = some (.float .f32 i.pl) := gD.cell (by go_simp) (by simp)
  have f_5 : wD.cell? ⟨wC.heap.size, 5, none⟩ = some (.float .f32 i.sp) := gD.cell (by go_simp) (by simp)
  have f_6 : wD.cell? ⟨wC.heap.size, 6, none⟩ = some (.int .i64 m.g) := gD.cell (by go_simp) (by simp)
  have f_7 : wD.cell? ⟨wC.heap.size, 7, none⟩ = some (.int .i64 m.m) := gD.cell (by go_simp) (by simp)
  have f_8 : wD.cell? ⟨wC.heap.size, 8, none⟩ = some (.int .i64 m.s) := gD.cell (by go_simp) (by simp)
  have f_9 : wD.cell? ⟨wC.heap.size, 9, none⟩ = some (.int .i64 m.a) := gD.cell (by go_simp) (by simp)
  have f_10 : wD.cell? ⟨wC.heap.size, 10, none⟩ = some (.int .i64 m.n) := gD.cell (by go_simp) (by simp)
  have f_11 : wD.cell? ⟨wC.heap.size, 11, none⟩ = some (.slice ai2 ni2 ci2) := gD.cell (by go_simp) (by simp)
  have f_12 : wD.cell? ⟨wC.heap.size, 12, none⟩ = some (.slice ao2 no2 co2) := gD.cell (by go_simp) (by simp)
  clear b_0 b_1 b_2 b_3 b_4 b_5 b_6 b_7 b_8 b_9 b_10 b_11 b_12
  clear c_0 c_1 c_2 c_3 c_4 c_5 c_6 c_7 c_8 c_9 c_10 c_11 c_12
  have GD := Hid.mk' (grownBy_alloc' GC.out _ |>.trans gD)
  have GCD := Hid.mk' ((World.grownBy_alloc wC _ none).trans gD)
  clear gD
  go_wp2_with fail
  refine Calls.mono (sameRecord_any K s i m is es (.slice ai2 ni2 ci2) (.slice ao2 no2 co2) (.slice ai0 ni0 ci0) (.slice ao0 no0 co0) _ (Lies.of_own (own_grown OI2.out GCD.out)) (Lies.of_own (own_grown OO2.out GCD.out)) (Lies.of_own (own_grown OI0c.out GCD.out)) (Lies.of_own (own_grown OO0c.out GCD.out)) (Nat.le_trans HS.out.1 (by decide)) (Nat.le_trans HS.out.2.1 (by decide)) HS.out.2.2.1 HS.out.2.2.2.1 HS.out.2.2.2.2) ?_
  rintro e wE ⟨rfl, gE⟩
  have g_0 : wE.cell? ⟨wB.heap.size, 0, none⟩ = some (.int .i64 K) := gE.cell (by go_simp) (by simp)
  have g_1 : wE.cell? ⟨wB.heap.size, 1, none⟩ = some (.int .i64 s) := gE.cell (by go_simp) (by simp)
  have g_2 : wE.cell? ⟨wB.heap.size, 2, none⟩ = some (.int .i64 i.sh) := gE.cell (by go_simp) (by simp)
  have g_3 : wE.cell? ⟨wB.heap.size, 3, none⟩ = some (.int .i64 i.nu) := gE.cell (by go_simp) (by simp)
  have g_4 : wE.cell? ⟨wB.heap.size, 4, none⟩ = some (.float .f32 i.pl) := gE.cell (by go_simp) (by simp)
  have g_5 : wE.cell? ⟨wB.heap.size, 5, none⟩ = some (.float .f32 i.sp) := gE.cell (by go_simp) (by simp)
  have g_6 : wE.cell? ⟨wB.heap.size, 6, none⟩ = some (.int .i64 m.g) := gE.cell (by go_simp) (by simp)
  have g_7 : wE.cell? ⟨wB.heap.size, 7, none⟩ = some (.int .i64 m.m) := gE.cell (by go_simp) (by simp)
  have g_8 : wE.cell? ⟨wB.heap.size, 8, none⟩ = some (.int .i64 m.s) := gE.cell (by go_simp) (by simp)
  have g_9 : wE.cell? ⟨wB.heap.size, 9, none⟩ = some (.int .i64 m.a) := gE.cell (by go_simp) (by simp)
  have g_10 : wE.cell? ⟨wB.heap.size, 10, none⟩ = some (.int .i64 m.n) := gE.cell (by go_simp) (by simp)
  have g_11 : wE.cell? ⟨wB.heap.size, 11, none⟩ = some (.slice ai1 ni1 ci1) := gE.cell (by go_simp) (by simp)
  have g_12 : wE.cell? ⟨wB.heap.size, 12, none⟩ = some (.slice ao1 no1 co1) := gE.cell (by go_simp) (by simp)
  have h_0 : wE.cell? ⟨wC.heap.size, 0, none⟩ = some (.int .i64 K) := gE.cell (by go_simp) (by simp)
  have h_1 : wE.cell? ⟨wC.heap.size, 1, none⟩ = some (.int .i64 s) := gE.cell (by go_simp) (by simp)
  have h_2 : wE.cell? ⟨wC.heap.size, 2, none⟩ = some (.int .i64 i.sh) := gE.cell (by go_simp) (by simp)
  have h_3 : wE.cell? ⟨wC.heap.size, 3, none⟩ = some (.int .i64 i.nu) := gE.cell (by go_simp) (by simp)
  have h_4 : wE.cell? ⟨wC.heap.size, 4, none⟩ = some (.float .f32 i.pl) := gE.cell (by go_simp) (by simp)
  have h_5 : wE.cell? ⟨wC.heap.size, 5, none⟩ = some (.float .f32 i.sp) := gE.cell (by go_simp) (by simp)
  have h_6 : wE.cell? ⟨wC.heap.size, 6, none⟩ = some (.int .i64 m.g) := gE.cell (by go_simp) (by simp)
  have h_7 : wE.cell? ⟨wC.heap.size, 7, none⟩ = some (.int .i64 m.m) := gE.cell (by go_simp) (by simp)
  have h_8 : wE.cell? ⟨wC.heap.size, 8, none⟩ = some (.int .i64 m.s) := gE.cell (by go_simp) (by simp)
  have h_9 : wE.cell? ⟨wC.heap.size, 9, none⟩ = some (.int .i64 m.a) := gE.cell (by go_simp) (by simp)
  have h_10 : wE.cell? ⟨wC.heap.size, 10, none⟩ = some (.int .i64 m.n) := gE.cell (by go_simp) (by simp)
  have h_11 : wE.cell? ⟨wC.heap.size, 11, none⟩ = some (.slice ai2 ni2 ci2) := gE.cell (by go_simp) (by simp)
  have h_12 : wE.cell? ⟨wC.heap.size, 12, none⟩ = some (.slice ao2 no2 co2) := gE.cell (by go_simp) (by simp)
  clear d_0 d_1 d_2 d_3 d_4 d_5 d_6 d_7 d_8 d_9 d_10 d_11 d_12
  clear e_0 e_1 e_2 e_3 e_4 e_5 e_6 e_7 e_8 e_9 e_10 e_11 e_12
  clear f_0 f_1 f_2 f_3 f_4 f_5 f_6 f_7 f_8 f_9 f_10 f_11 f_12
  have GE := Hid.mk' (GD.out.trans gE)
  have GCE := Hid.mk' (GCD.out.trans gE)
  have zE := GCE.out.size
  have zE1 : wC.heap.size < wE.heap.size := World.block_lt_of_cell? wE _ h_0
  have xBE : wB.heap.size < wE.heap.size := by omega
  have xBE' : wB.heap.size ≠ wE.heap.size := by omega
  have xCE' : wC.heap.size ≠ wE.heap.size := by omega
  clear gE
  obtain ⟨q1, q2⟩ := NN1.out HB.out
  injection q1 with q1 q1b q1c
  injection q2 with q2 q2b q2c
  subst q1 q1b q1c q2 q2b q2c
  have LI1 : Hid (∀ j, Value.ownBlock (.slice none 0 0) = some j → j < wB.heap.size) := fun j hj => (OI1.out.lt j hj).2
  have LO1 : Hid (∀ j, Value.ownBlock (.slice none 0 0) = some j → j < wB.heap.size) := fun j hj => (OO1.out.lt j hj).2
  have LI2 : Hid (∀ j, Value.ownBlock (.slice ai2 ni2 ci2) = some j → wB.heap.size < j ∧ j < wC.heap.size) := fun j hj => by have := OI2.out.lt j hj; simp at this; omega
  have LO2 : Hid (∀ j, Value.ownBlock (.slice ao2 no2 co2) = some j → wB.heap.size < j ∧ j < wC.heap.size) := fun j hj => by have := OO2.out.lt j hj; simp at this; omega
  have QI1 := Hid.mk' (own_base (own_grown OI1c.out GCE.out) (Nat.zero_le _))
  have QO1 := Hid.mk' (own_base (own_grown OO1c.out GCE.out) (Nat.zero_le _))
  have QI2 := Hid.mk' (own_base (own_grown OI2.out GCE.out) (Nat.zero_le _))
  have QO2 := Hid.mk' (own_base (own_grown OO2.out GCE.out) (Nat.zero_le _))
  go_wp2_with fail
  have zw : wC.heap.size < wE.heap.size := World.block_lt_of_cell? wE _ h_0
  have BK0 : Hid (Book (wE.alloc (.cells #[.slice none 0 0, .slice none 0 0, .slice none 0 0] 52)) 0 wE.heap.size (.slice none 0 0) (.slice none 0 0) [] [] (fun _ => False)) :=
    ⟨by simp, by simp [Value.ownBlock], by simp [Value.ownBlock], by simp, by go_simp, by go_simp, by go_simp, fun o => by go_simp, World.ownsRow_nil _ _ _ _, World.ownsRow_nil _ _ _ _, by simp [Value.ownBlock], by simp, by simp, by simp, by simp, by simp⟩
  refine Calls.mono (ownRecord_any 0 wE.heap.size (.slice none 0 0) (.slice none 0 0) [] [] (fun _ => False) K s i m (.slice none 0 0) (.slice none 0 0) is es _ BK0.out (World.ownsRow.alloc QI1.out _) (World.ownsRow.alloc QO1.out _) (Nat.le_trans HS.out.1 (by decide)) (Nat.le_trans HS.out.2.1 (by decide)) (by simp) (by simp) (fun j _ => by simp [Value.ownBlock]) (fun j _ => by simp [Value.ownBlock]) AP1.out (fun e => by have := LI1.out _ e; omega) (fun e => by have := LO1.out _ e; omega)) ?_
  rintro e w1 ⟨rfl, vI', vE', xi', xe', A', ow⟩
  have OW := Hid.mk' ow
  have NC : Hid (¬ (wC.heap.size = wE.heap.size ∨ Value.ownBlock (.slice none 0 0) = some wC.heap.size ∨ Value.ownBlock (.slice none 0 0) = some wC.heap.size ∨ Value.ownBlock (.slice none 0 0) = some wC.heap.size ∨ Value.ownBlock (.slice none 0 0) = some wC.heap.size)) := fun e => by
    rcases e with e | e | e | e | e
    · omega
    · simp [Value.ownBlock] at e
    · simp [Value.ownBlock] at e
    · have := LI1.out _ e; omega
    · have := LO1.out _ e; omega
  have y_0 : w1.cell? ⟨wC.heap.size, 0, none⟩ = some (.int .i64 K) := ow.o.cell (a := ⟨wC.heap.size, 0, none⟩) (by go_simp) NC.out
  have y_1 : w1.cell? ⟨wC.heap.size, 1, none⟩ = some (.int .i64 s) := ow.o.cell (a := ⟨wC.heap.size, 1, none⟩) (by go_simp) NC.out
  have y_2 : w1.cell? ⟨wC.heap.size, 2, none⟩ = some (.int .i64 i.sh) := ow.o.cell (a := ⟨wC.heap.size, 2, none⟩) (by go_simp) NC.out
  have y_3 : w1.cell? ⟨wC.heap.size, 3, none⟩ = some (.int .i64 i.nu) := ow.o.cell (a := ⟨wC.heap.size, 3, none⟩) (by go_simp) NC.out
  have y_4 : w1.cell? ⟨wC.heap.size, 4, none⟩ = some (.float .f32 i.pl) := ow.o.cell (a := ⟨wC.heap.size, 4, none⟩) (by go_simp) NC.out
  have y_5 : w1.cell? ⟨wC.heap.size, 5, none⟩ = some (.float .f32 i.sp) := ow.o.cell (a := ⟨wC.heap.size, 5, none⟩) (by go_simp) NC.out
  have y_6 : w1.cell? ⟨wC.heap.size, 6, none⟩ = some (.int .i64 m.g) := ow.o.cell (a := ⟨wC.heap.size, 6, none⟩) (by go_simp) NC.out
  have y_7 : w1.cell? ⟨wC.heap.size, 7, none⟩ = some (.int .i64 m.m) := ow.o.cell (a := ⟨wC.heap.size, 7, none⟩) (by go_simp) NC.out
  have y_8 : w1.cell? ⟨wC.heap.size, 8, none⟩ = some (.int .i64 m.s) := ow.o.cell (a := ⟨wC.heap.size, 8, none⟩) (by go_simp) NC.out
  have y_9 : w1.cell? ⟨wC.heap.size, 9, none⟩ = some (.int .i64 m.a) := ow.o.cell (a := ⟨wC.heap.size, 9, none⟩) (by go_simp) NC.out
  have y_10 : w1.cell? ⟨wC.heap.size, 10, none⟩ = some (.int .i64 m.n) := ow.o.cell (a := ⟨wC.heap.size, 10, none⟩) (by go_simp) NC.out
  have y_11 : w1.cell? ⟨wC.heap.size, 11, none⟩ = some (.slice ai2 ni2 ci2) := ow.o.cell (a := ⟨wC.heap.size, 11, none⟩) (by go_simp) NC.out
  have y_12 : w1.cell? ⟨wC.heap.size, 12, none⟩ = some (.slice ao2 no2 co2) := ow.o.cell (a := ⟨wC.heap.size, 12, none⟩) (by go_simp) NC.out
  clear h_0 h_1 h_2 h_3 h_4 h_5 h_6 h_7 h_8 h_9 h_10 h_11 h_12 ow
  clear g_0 g_1 g_2 g_3 g_4 g_5 g_6 g_7 g_8 g_9 g_10 g_11 g_12
  have N2 : Hid (∀ j, (Value.ownBlock (.slice ai2 ni2 ci2) = some j ∨ Value.ownBlock (.slice ao2 no2 co2) = some j) → ¬ (j = wE.heap.size ∨ Value.ownBlock (.slice none 0 0) = some j ∨ Value.ownBlock (.slice none 0 0) = some j ∨ Value.ownBlock (.slice none 0 0) = some j ∨ Value.ownBlock (.slice none 0 0) = some j) ∧ ¬ A' j ∧ vI'.ownBlock ≠ some j ∧ vE'.ownBlock ≠ some j) := fun j hj => by
    have hr : wB.heap.size < j ∧ j < wC.heap.size := by
      rcases hj with hj | hj
      · exact LI2.out j hj
      · exact LO2.out j hj
    refine ⟨fun e => ?_, fun e => ?_, fun e => ?_, fun e => ?_⟩
    · rcases e with e | e | e | e | e
      · omega
      · simp [Value.ownBlock] at e
      · simp [Value.ownBlock] at e
      · have := LI1.out _ e; omega
      · have := LO1.out _ e; omega
    · rcases OW.out.a j e with e | e | e | e
      · exact e
      · have := LI1.out _ e; omega
      · have := LO1.out _ e; omega
      · simp at e; omega
    · rcases OW.out.i j e with e | e
      · simp [Value.ownBlock] at e
      · simp at e; omega
    · rcases OW.out.e j e with e | e
      · simp [Value.ownBlock] at e
      · simp at e; omega
  have SI2 := Hid.mk' (OW.out.o.own (World.ownsRow.alloc QI2.out _) (fun j hj => (N2.out j (.inl hj)).1))
  have SO2 := Hid.mk' (OW.out.o.own (World.ownsRow.alloc QO2.out _) (fun j hj => (N2.out j (.inr hj)).1))
  have li := OW.out.ni
  have le := OW.out.ne
  simp at li le
  go_wp2_with fail
  refine Calls.mono (ownRecord_any 0 wE.heap.size vI' vE' xi' xe' A' K s i m (.slice ai2 ni2 ci2) (.slice ao2 no2 co2) is es _ OW.out.b SI2.out SO2.out (Nat.le_trans HS.out.1 (by decide)) (Nat.le_trans HS.out.2.1 (by decide)) (by omega) (by omega) (fun j hj => (N2.out j (.inl hj)).2) (fun j hj => (N2.out j (.inr hj)).2) AP2.out (fun e => by have := LI2.out _ e; omega) (fun e => by have := LO2.out _ e; omega)) ?_
  rintro e w2 ⟨rfl, vI2, vE2, xi2, xe2, A2, ow2⟩
  have OW2 := Hid.mk' ow2
  have li2 := ow2.ni
  have le2 := ow2.ne
  clear ow2
  go_wp2_with fail
  refine Calls.mono (looks_any 0 wE.heap.size vI2 vE2 xi2 xe2 A2 _ OW2.out.b (by omega) (by omega)) ?_
  rintro e w3 ⟨rfl, g3⟩
  go_wp2
  go_ret
  have sA := GA.out.size
  have sG := GE.out.size
  have l1 : ∀ j, Value.ownBlock (.slice none 0 0) = some j → w.heap.size ≤ j := fun j hj => by have := (OI1.out.lt j hj).1; simp at this; omega
  have l2 : ∀ j, Value.ownBlock (.slice none 0 0) = some j → w.heap.size ≤ j := fun j hj => by have := (OO1.out.lt j hj).1; simp at this; omega
  have q1 := grown_of_only (grownBy_alloc' GE.out _) OW.out.o (fun j e => by
    rcases e with e | e | e | e | e
    · omega
    · simp [Value.ownBlock] at e
    · simp [Value.ownBlock] at e
    · exact l1 j e
    · exact l2 j e)
  have q2 := grown_of_only q1 OW2.out.o (fun j e => by
    rcases e with e | e | e | e | e
    · omega
    · rcases OW.out.i j e with e | e
      · simp [Value.ownBlock] at e
      · simp at e; omega
    · rcases OW.out.e j e with e | e
      · simp [Value.ownBlock] at e
      · simp at e; omega
    · have := LI2.out j e; omega
    · have := LO2.out j e; omega)
  exact ⟨rfl, q2.trans g3⟩

set_option maxHeartbeats 4000000 in
set_option maxRecDepth 100000 in
theorem decodes_yes (l : List UInt8) (w : World) (hl : l.length ≤ 2000000) (hB : decB l = true) :
    Calls Try.prog 14 #[.string (S l)] w fun e w' => e = .returned (.bool true) ∧ w.grownBy w' none := by
  have hsf := run_store_float
  have c0 := fun w => (refDecode_any l w hl).mono (fun e w' h => dec_uni h)
  have c1 := fun w => (decode_any l w).mono (fun e w' h => dec_uni h)
  have hsm := decP_small l
  have HE : Hid (decB l = true → mayB (decP l) = true ∧ enc (decP l) = l ∧ WfR (decP l)) := fun h => by
    have h2 := h
    simp only [decB, Bool.and_eq_true, beq_iff_eq] at h2
    rw [decP, if_pos h]
    exact ⟨h2.1, h2.2, dec_wf l⟩
  have hE : decE l = 0 := by rw [decE, hB]; rfl
  rw [hE] at c0 c1
  generalize decP l = P at *
  obtain ⟨K, s, i, m, is, es⟩ := P
  simp only at c0 c1 hsm
  have C0 := Hid.mk' c0
  have C1 := Hid.mk' c1
  have HS := Hid.mk' hsm
  have HB := Hid.mk' hB
  clear c0 c1 hsm hE hB
  go_enter Try.func14, Try.ntmps14
  go_wp2_with fail
  refine Calls.mono (C0.out _) ?_
  rintro e wA ⟨gA, vi0, vo0, rfl, oi0, oo0, _, nn0⟩
  obtain ⟨ai0, ni0, ci0, rfl⟩ := slice_of oi0
  obtain ⟨ao0, no0, co0, rfl⟩ := slice_of oo0
  unfold rv
  have OI0 := Hid.mk' oi0
  have OO0 := Hid.mk' oo0
  clear oi0 oo0 nn0
  have GA := Hid.mk' gA
  clear gA
  go_wp2_with fail
  refine Calls.mono (C1.out _) ?_
  rintro e wB ⟨gB, vi1, vo1, rfl, oi1, oo1, ap1, nn1⟩
  obtain ⟨ai1, ni1, ci1, rfl⟩ := slice_of oi1
  obtain ⟨ao1, no1, co1, rfl⟩ := slice_of oo1
  unfold rv
  have OI1 := Hid.mk' oi1
  have OO1 := Hid.mk' oo1
  have AP1 := Hid.mk' ap1
  have NN1 := Hid.mk' nn1
  clear oi1 oo1 ap1 nn1
  have zB := gB.size
  simp at zB
  have xAB : wA.heap.size < wB.heap.size := by omega
  have xAB' : wA.heap.size ≠ wB.heap.size := by omega
  have a_0 : wB.cell? ⟨wA.heap.size, 0, none⟩ = some (.int .i64 K) := gB.cell (by go_simp) (by simp)
  have a_1 : wB.cell? ⟨wA.heap.size, 1, none⟩ = some (.int .i64 s) := gB.cell (by go_simp) (by simp)
  have a_2 : wB.cell? ⟨wA.heap.size, 2, none⟩ = some (.int .i64 i.sh) := gB.cell (by go_simp) (by simp)
  have a_3 : wB.cell? ⟨wA.heap.size, 3, none⟩ = some (.int .i64 i.nu) := gB.cell (by go_simp) (by simp)
  have a_4 : wB.cell? ⟨wA.heap.size, 4, none⟩ = some (.float .f32 i.pl) := gB.cell (by go_simp) (by simp)
  have a_5 : wB.cell? ⟨wA.heap.size, 5, none⟩ = some (.float .f32 i.sp) := gB.cell (by go_simp) (by simp)
  have a_6 : wB.cell? ⟨wA.heap.size, 6, none⟩ = some (.int .i64 m.g) := gB.cell (by go_simp) (by simp)
  have a_7 : wB.cell? ⟨wA.heap.size, 7, none⟩ = some (.int .i64 m.m) := gB.cell (by go_simp) (by simp)
  have a_8 : wB.cell? ⟨wA.heap.size, 8, none⟩ = some (.int .i64 m.s) := gB.cell (by go_simp) (by simp)
  have a_9 : wB.cell? ⟨wA.heap.size, 9, none⟩ = some (.int .i64 m.a) := gB.cell (by go_simp) (by simp)
  have a_10 : wB.cell? ⟨wA.heap.size, 10, none⟩ = some (.int .i64 m.n) := gB.cell (by go_simp) (by simp)
  have a_11 : wB.cell? ⟨wA.heap.size, 11, none⟩ = some (.slice ai0 ni0 ci0) := gB.cell (by go_simp) (by simp)
  have a_12 : wB.cell? ⟨wA.heap.size, 12, none⟩ = some (.slice ao0 no0 co0) := gB.cell (by go_simp) (by simp)
  have GB := Hid.mk' (grownBy_alloc' GA.out _ |>.trans gB)
  have OI0b := Hid.mk' (own_grown (World.ownsRow.alloc OI0.out _) gB)
  have OO0b := Hid.mk' (own_grown (World.ownsRow.alloc OO0.out _) gB)
  clear gB OI0 OO0
  go_wp2_with fail
  refine Calls.mono (C1.out _) ?_
  rintro e wC ⟨gC, vi2, vo2, rfl, oi2, oo2, ap2, nn2⟩
  obtain ⟨ai2, ni2, ci2, rfl⟩ := slice_of oi2
  obtain ⟨ao2, no2, co2, rfl⟩ := slice_of oo2
  unfold rv
  have OI2 := Hid.mk' oi2
  have OO2 := Hid.mk' oo2
  have AP2 := Hid.mk' ap2
  clear oi2 oo2 ap2 nn2
  have zC := gC.size
  simp at zC
  have b_0 : wC.cell? ⟨wA.heap.size, 0, none⟩ = some (.int .i64 K) := gC.cell (by go_simp) (by simp)
  have b_1 : wC.cell? ⟨wA.heap.size, 1, none⟩ = some (.int .i64 s) := gC.cell (by go_simp) (by simp)
  have b_2 : wC.cell? ⟨wA.heap.size, 2, none⟩ = some (.int .i64 i.sh) := gC.cell (by go_simp) (by simp)
  have b_3 : wC.cell? ⟨wA.heap.size, 3, none⟩ = some (.int .i64 i.nu) := gC.cell (by go_simp) (by simp)
  have b_4 : wC.cell? ⟨wA.heap.size, 4, none⟩ = some (.float .f32 i.pl) := gC.cell (by go_simp) (by simp)
  have b_5 : wC.cell? ⟨wA.heap.size, 5, none⟩ = some (.float .f32 i.sp) := gC.cell (by go_simp) (by simp)
  have b_6 : wC.cell? ⟨wA.heap.size, 6, none⟩ = some (.int .i64 m.g) := gC.cell (by go_simp) (by simp)
  have b_7 : wC.cell? ⟨wA.heap.size, 7, none⟩ = some (.int .i64 m.m) := gC.cell (by go_simp) (by simp)
  have b_8 : wC.cell? ⟨wA.heap.size, 8, none⟩ = some (.int .i64 m.s) := gC.cell (by go_simp) (by simp)
  have b_9 : wC.cell? ⟨wA.heap.size, 9, none⟩ = some (.int .i64 m.a) := gC.cell (by go_simp) (by simp)
  have b_10 : wC.cell? ⟨wA.heap.size, 10, none⟩ = some (.int .i64 m.n) := gC.cell (by go_simp) (by simp)
  have b_11 : wC.cell? ⟨wA.heap.size, 11, none⟩ = some (.slice ai0 ni0 ci0) := gC.cell (by go_simp) (by simp)
  have b_12 : wC.cell? ⟨wA.heap.size, 12, none⟩ = some (.slice ao0 no0 co0) := gC.cell (by go_simp) (by simp)
  have c_0 : wC.cell? ⟨wB.heap.size, 0, none⟩ = some (.int .i64 K) := gC.cell (by go_simp) (by simp)
  have c_1 : wC.cell? ⟨wB.heap.size, 1, none⟩ = some (.int .i64 s) := gC.cell (by go_simp) (by simp)
  have c_2 : wC.cell? ⟨wB.heap.size, 2, none⟩ = some (.int .i64 i.sh) := gC.cell (by go_simp) (by simp)
  have c_3 : wC.cell? ⟨wB.heap.size, 3, none⟩ = some (.int .i64 i.nu) := gC.cell (by go_simp) (by simp)
  have c_4 : wC.cell? ⟨wB.heap.size, 4, none⟩ = some (.float .f32 i.pl) := gC.cell (by go_simp) (by simp)
  have c_5 : wC.cell? ⟨wB.heap.size, 5, none⟩ = some (.float .f32 i.sp) := gC.cell (by go_simp) (by simp)
  have c_6 : wC.cell? ⟨wB.heap.size, 6, none⟩ = some (.int .i64 m.g) := gC.cell (by go_simp) (by simp)
  have c_7 : wC.cell? ⟨wB.heap.size, 7, none⟩ = some (.int .i64 m.m) := gC.cell (by go_simp) (by simp)
  have c_8 : wC.cell? ⟨wB.heap.size, 8, none⟩ = some (.int .i64 m.s) := gC.cell (by go_simp) (by simp)
  have c_9 : wC.cell? ⟨wB.heap.size, 9, none⟩ = some (.int .i64 m.a) := gC.cell (by go_simp) (by simp)
  have c_10 : wC.cell? ⟨wB.heap.size, 10, none⟩ = some (.int .i64 m.n) := gC.cell (by go_simp) (by simp)
  have c_11 : wC.cell? ⟨wB.heap.size, 11, none⟩ = some (.slice ai1 ni1 ci1) := gC.cell (by go_simp) (by simp)
  have c_12 : wC.cell? ⟨wB.heap.size, 12, none⟩ = some (.slice ao1 no1 co1) := gC.cell (by go_simp) (by simp)
  clear a_0 a_1 a_2 a_3 a_4 a_5 a_6 a_7 a_8 a_9 a_10 a_11 a_12
  have GC := Hid.mk' (grownBy_alloc' GB.out _ |>.trans gC)
  have OI0c := Hid.mk' (own_grown (World.ownsRow.alloc OI0b.out _) gC)
  have OO0c := Hid.mk' (own_grown (World.ownsRow.alloc OO0b.out _) gC)
  have OI1c := Hid.mk' (own_grown (World.ownsRow.alloc OI1.out _) gC)
  have OO1c := Hid.mk' (own_grown (World.ownsRow.alloc OO1.out _) gC)
  clear gC OI0b OO0b
  have xAC : wA.heap.size < wC.heap.size := by omega
  have xBC : wB.heap.size < wC.heap.size := by omega
  have xAC' : wA.heap.size ≠ wC.heap.size := by omega
  have xBC' : wB.heap.size ≠ wC.heap.size := by omega
  go_wp2_with fail
  refine Calls.mono (sameRecord_any K s i m is es (.slice ai1 ni1 ci1) (.slice ao1 no1 co1) (.slice ai0 ni0 ci0) (.slice ao0 no0 co0) _ (Lies.of_own (World.ownsRow.alloc OI1c.out _)) (Lies.of_own (World.ownsRow.alloc OO1c.out _)) (Lies.of_own (World.ownsRow.alloc OI0c.out _)) (Lies.of_own (World.ownsRow.alloc OO0c.out _)) (Nat.le_trans HS.out.1 (by decide)) (Nat.le_trans HS.out.2.1 (by decide)) HS.out.2.2.1 HS.out.2.2.2.1 HS.out.2.2.2.2) ?_
  rintro e wD ⟨rfl, gD⟩
  have d_0 : wD.cell? ⟨wA.heap.size, 0, none⟩ = some (.int .i64 K) := gD.cell (by go_simp) (by simp)
  have d_1 : wD.cell? ⟨wA.heap.size, 1, none⟩ = some (.int .i64 s) := gD.cell (by go_simp) (by simp)
  have d_2 : wD.cell? ⟨wA.heap.size, 2, none⟩ = some (.int .i64 i.sh) := gD.cell (by go_simp) (by simp)
  have d_3 : wD.cell? ⟨wA.heap.size, 3, none⟩ = some (.int .i64 i.nu) := gD.cell (by go_simp) (by simp)
  have d_4 : wD.cell? ⟨wA.heap.size, 4, none⟩ = some (.float .f32 i.pl) := gD.cell (by go_simp) (by simp)
  have d_5 : wD.cell? ⟨wA.heap.size, 5, none⟩ = some (.float .f32 i.sp) := gD.cell (by go_simp) (by simp)
  have d_6 : wD.cell? ⟨wA.heap.size, 6, none⟩ = some (.int .i64 m.g) := gD.cell (by go_simp) (by simp)
  have d_7 : wD.cell? ⟨wA.heap.size, 7, none⟩ = some (.int .i64 m.m) := gD.cell (by go_simp) (by simp)
  have d_8 : wD.cell? ⟨wA.heap.size, 8, none⟩ = some (.int .i64 m.s) := gD.cell (by go_simp) (by simp)
  have d_9 : wD.cell? ⟨wA.heap.size, 9, none⟩ = some (.int .i64 m.a) := gD.cell (by go_simp) (by simp)
  have d_10 : wD.cell? ⟨wA.heap.size, 10, none⟩ = some (.int .i64 m.n) := gD.cell (by go_simp) (by simp)
  have d_11 : wD.cell? ⟨wA.heap.size, 11, none⟩ = some (.slice ai0 ni0 ci0) := gD.cell (by go_simp) (by simp)
  have d_12 : wD.cell? ⟨wA.heap.size, 12, none⟩ = some (.slice ao0 no0 co0) := gD.cell (by go_simp) (by simp)
  have e_0 : wD.cell? ⟨wB.heap.size, 0, none⟩ = some (.int .i64 K) := gD.cell (by go_simp) (by simp)
  have e_1 : wD.cell? ⟨wB.heap.size, 1, none⟩ = some (.int .i64 s) := gD.cell (by go_simp) (by simp)
  have e_2 : wD.cell? ⟨wB.heap.size, 2, none⟩ = some (.int .i64 i.sh) := gD.cell (by go_simp) (by simp)
  have e_3 : wD.cell? ⟨wB.heap.size, 3, none⟩ = some (.int .i64 i.nu) := gD.cell (by go_simp) (by simp)
  have e_4 : wD.cell? ⟨wB.heap.size, 4, none⟩ = some (.float .f32 i.pl) := gD.cell (by go_simp) (by simp)
  have e_5 : wD.cell? ⟨wB.heap.size, 5, none⟩ = some (.float .f32 i.sp) := gD.cell (by go_simp) (by simp)
  have e_6 : wD.cell? ⟨wB.heap.size, 6, none⟩ = some (.int .i64 m.g) := gD.cell (by go_simp) (by simp)
  have e_7 : wD.cell? ⟨wB.heap.size, 7, none⟩ = some (.int .i64 m.m) := gD.cell (by go_simp) (by simp)
  have e_8 : wD.cell? ⟨wB.heap.size, 8, none⟩ = some (.int .i64 m.s) := gD.cell (by go_simp) (by simp)
  have e_9 : wD.cell? ⟨wB.heap.size, 9, none⟩ = some (.int .i64 m.a) := gD.cell (by go_simp) (by simp)
  have e_10 : wD.cell? ⟨wB.heap.size, 10, none⟩ = some (.int .i64 m.n) := gD.cell (by go_simp) (by simp)
  have e_11 : wD.cell? ⟨wB.heap.size, 11, none⟩ = some (.slice ai1 ni1 ci1) := gD.cell (by go_simp) (by simp)
  have e_12 : wD.cell? ⟨wB.heap.size, 12, none⟩ = some (.slice ao1 no1 co1) := gD.cell (by go_simp) (by simp)
  have f_0 : wD.cell? ⟨wC.heap.size, 0, none⟩ = some (.int .i64 K) := gD.cell (by go_simp) (by simp)
  have f_1 : wD.cell? ⟨wC.heap.size, 1, none⟩ = some (.int .i64 s) := gD.cell (by go_simp) (by simp)
  have f_2 : wD.cell? ⟨wC.heap.size, 2, none⟩ = some (.int .i64 i.sh) := gD.cell (by go_simp) (by simp)
  have f_3 : wD.cell? ⟨wC.heap.size, 3, none⟩ = some (.int .i64 i.nu) := gD.cell (by go_simp) (by simp)
  have f_4 : wD.cell? ⟨wC.heap.size, 4, none⟩ = some (.float .f32 i.pl) := gD.cell (by go_simp) (by simp)
  have f_5 : wD.cell? ⟨wC.heap.size, 5, none⟩ = some (.float .f32 i.sp) := gD.cell (by go_simp) (by simp)
  have f_6 : wD.cell? ⟨wC.heap.size, 6, none⟩ = some (.int .i64 m.g) := gD.cell (by go_simp) (by simp)
  have f_7 : wD.cell? ⟨wC.heap.size, 7, none⟩ = some (.int .i64 m.m) := gD.cell (by go_simp) (by simp)
  have f_8 : wD.cell? ⟨wC.heap.size, 8, none⟩ = some (.int .i64 m.s) := gD.cell (by go_simp) (by simp)
  have f_9 : wD.cell? ⟨wC.heap.size, 9, none⟩ = some (.int .i64 m.a) := gD.cell (by go_simp) (by simp)
  have f_10 : wD.cell? ⟨wC.heap.size, 10, none⟩ = some (.int .i64 m.n) := gD.cell (by go_simp) (by simp)
  have f_11 : wD.cell? ⟨wC.heap.size, 11, none⟩ = some (.slice ai2 ni2 ci2) := gD.cell (by go_simp) (by simp)
  have f_12 : wD.cell? ⟨wC.heap.size, 12, none⟩ = some (.slice ao2 no2 co2) := gD.cell (by go_simp) (by simp)
  clear b_0 b_1 b_2 b_3 b_4 b_5 b_6 b_7 b_8 b_9 b_10 b_11 b_12
  clear c_0 c_1 c_2 c_3 c_4 c_5 c_6 c_7 c_8 c_9 c_10 c_11 c_12
  have GD := Hid.mk' (grownBy_alloc' GC.out _ |>.trans gD)
  have GCD := Hid.mk' ((World.grownBy_alloc wC _ none).trans gD)
  clear gD
  go_wp2_with fail
  refine Calls.mono (sameRecord_any K s i m is es (.slice ai2 ni2 ci2) (.slice ao2 no2 co2) (.slice ai0 ni0 ci0) (.slice ao0 no0 co0) _ (Lies.of_own (own_grown OI2.out GCD.out)) (Lies.of_own (own_grown OO2.out GCD.out)) (Lies.of_own (own_grown OI0c.out GCD.out)) (Lies.of_own (own_grown OO0c.out GCD.out)) (Nat.le_trans HS.out.1 (by decide)) (Nat.le_trans HS.out.2.1 (by decide)) HS.out.2.2.1 HS.out.2.2.2.1 HS.out.2.2.2.2) ?_
  rintro e wE ⟨rfl, gE⟩
  have g_0 : wE.cell? ⟨wB.heap.size, 0, none⟩ = some (.int .i64 K) := gE.cell (by go_simp) (by simp)
  have g_1 : wE.cell? ⟨wB.heap.size, 1, none⟩ = some (.int .i64 s) := gE.cell (by go_simp) (by simp)
  have g_2 : wE.cell? ⟨wB.heap.size, 2, none⟩ = some (.int .i64 i.sh) := gE.cell (by go_simp) (by simp)
  have g_3 : wE.cell? ⟨wB.heap.size, 3, none⟩ = some (.int .i64 i.nu) := gE.cell (by go_simp) (by simp)
  have g_4 : wE.cell? ⟨wB.heap.size, 4, none⟩ = some (.float .f32 i.pl) := gE.cell (by go_simp) (by simp)
  have g_5 : wE.cell? ⟨wB.heap.size, 5, none⟩ = some (.float .f32 i.sp) := gE.cell (by go_simp) (by simp)
  have g_6 : wE.cell? ⟨wB.heap.size, 6, none⟩ = some (.int .i64 m.g) := gE.cell (by go_simp) (by simp)
  have g_7 : wE.cell? ⟨wB.heap.size, 7, none⟩ = some (.int .i64 m.m) := gE.cell (by go_simp) (by simp)
  have g_8 : wE.cell? ⟨wB.heap.size, 8, none⟩ = some (.int .i64 m.s) := gE.cell (by go_simp) (by simp)
  have g_9 : wE.cell? ⟨wB.heap.size, 9, none⟩ = some (.int .i64 m.a) := gE.cell (by go_simp) (by simp)
  have g_10 : wE.cell? ⟨wB.heap.size, 10, none⟩ = some (.int .i64 m.n) := gE.cell (by go_simp) (by simp)
  have g_11 : wE.cell? ⟨wB.heap.size, 11, none⟩ = some (.slice ai1 ni1 ci1) := gE.cell (by go_simp) (by simp)
  have g_12 : wE.cell? ⟨wB.heap.size, 12, none⟩ = some (.slice ao1 no1 co1) := gE.cell (by go_simp) (by simp)
  have h_0 : wE.cell? ⟨wC.heap.size, 0, none⟩ = some (.int .i64 K) := gE.cell (by go_simp) (by simp)
  have h_1 : wE.cell? ⟨wC.heap.size, 1, none⟩ = some (.int .i64 s) := gE.cell (by go_simp) (by simp)
  have h_2 : wE.cell? ⟨wC.heap.size, 2, none⟩ = some (.int .i64 i.sh) := gE.cell (by go_simp) (by simp)
  have h_3 : wE.cell? ⟨wC.heap.size, 3, none⟩ = some (.int .i64 i.nu) := gE.cell (by go_simp) (by simp)
  have h_4 : wE.cell? ⟨wC.heap.size, 4, none⟩ = some (.float .f32 i.pl) := gE.cell (by go_simp) (by simp)
  have h_5 : wE.cell? ⟨wC.heap.size, 5, none⟩ = some (.float .f32 i.sp) := gE.cell (by go_simp) (by simp)
  have h_6 : wE.cell? ⟨wC.heap.size, 6, none⟩ = some (.int .i64 m.g) := gE.cell (by go_simp) (by simp)
  have h_7 : wE.cell? ⟨wC.heap.size, 7, none⟩ = some (.int .i64 m.m) := gE.cell (by go_simp) (by simp)
  have h_8 : wE.cell? ⟨wC.heap.size, 8, none⟩ = some (.int .i64 m.s) := gE.cell (by go_simp) (by simp)
  have h_9 : wE.cell? ⟨wC.heap.size, 9, none⟩ = some (.int .i64 m.a) := gE.cell (by go_simp) (by simp)
  have h_10 : wE.cell? ⟨wC.heap.size, 10, none⟩ = some (.int .i64 m.n) := gE.cell (by go_simp) (by simp)
  have h_11 : wE.cell? ⟨wC.heap.size, 11, none⟩ = some (.slice ai2 ni2 ci2) := gE.cell (by go_simp) (by simp)
  have h_12 : wE.cell? ⟨wC.heap.size, 12, none⟩ = some (.slice ao2 no2 co2) := gE.cell (by go_simp) (by simp)
  clear d_0 d_1 d_2 d_3 d_4 d_5 d_6 d_7 d_8 d_9 d_10 d_11 d_12
  clear e_0 e_1 e_2 e_3 e_4 e_5 e_6 e_7 e_8 e_9 e_10 e_11 e_12
  clear f_0 f_1 f_2 f_3 f_4 f_5 f_6 f_7 f_8 f_9 f_10 f_11 f_12
  have GE := Hid.mk' (GD.out.trans gE)
  have GCE := Hid.mk' (GCD.out.trans gE)
  have zE := GCE.out.size
  have zE1 : wC.heap.size < wE.heap.size := World.block_lt_of_cell? wE _ h_0
  have xBE : wB.heap.size < wE.heap.size := by omega
  have xBE' : wB.heap.size ≠ wE.heap.size := by omega
  have xCE' : wC.heap.size ≠ wE.heap.size := by omega
  clear gE
  have LI1 : Hid (∀ j, Value.ownBlock (.slice ai1 ni1 ci1) = some j → j < wB.heap.size) := fun j hj => (OI1.out.lt j hj).2
  have LO1 : Hid (∀ j, Value.ownBlock (.slice ao1 no1 co1) = some j → j < wB.heap.size) := fun j hj => (OO1.out.lt j hj).2
  have LI2 : Hid (∀ j, Value.ownBlock (.slice ai2 ni2 ci2) = some j → wB.heap.size < j ∧ j < wC.heap.size) := fun j hj => by have := OI2.out.lt j hj; simp at this; omega
  have LO2 : Hid (∀ j, Value.ownBlock (.slice ao2 no2 co2) = some j → wB.heap.size < j ∧ j < wC.heap.size) := fun j hj => by have := OO2.out.lt j hj; simp at this; omega
  have QI1 := Hid.mk' (own_base (own_grown OI1c.out GCE.out) (Nat.zero_le _))
  have QO1 := Hid.mk' (own_base (own_grown OO1c.out GCE.out) (Nat.zero_le _))
  have QI2 := Hid.mk' (own_base (own_grown OI2.out GCE.out) (Nat.zero_le _))
  have QO2 := Hid.mk' (own_base (own_grown OO2.out GCE.out) (Nat.zero_le _))
  go_wp2_with fail
  obtain ⟨hmm, hee, hwf⟩ := HE.out HB.out
  have ce := fun w' (g : wE.grownBy w' none) => refEncode_yes ⟨K, s, i, m, is, es⟩ (.slice ai1 ni1 ci1) (.slice ao1 no1 co1) w' (Lies.of_own (own_grown QI1.out g)) (Lies.of_own (own_grown QO1.out g)) hwf (Nat.le_trans HS.out.1 (by decide)) (Nat.le_trans HS.out.2.1 (by decide)) hmm
  rw [hee] at ce
  refine Calls.mono (ce _ (grownBy_refl _ _)) ?_
  rintro e wF ⟨rfl, gF⟩
  have zF := gF.size
  have xBF : wB.heap.size < wF.heap.size := by omega
  have xBF' : wB.heap.size ≠ wF.heap.size := by omega
  have xCF : wC.heap.size < wF.heap.size := by omega
  have xCF' : wC.heap.size ≠ wF.heap.size := by omega
  have k_0 : wF.cell? ⟨wB.heap.size, 0, none⟩ = some (.int .i64 K) := gF.cell (by go_simp) (by simp)
  have k_1 : wF.cell? ⟨wB.heap.size, 1, none⟩ = some (.int .i64 s) := gF.cell (by go_simp) (by simp)
  have k_2 : wF.cell? ⟨wB.heap.size, 2, none⟩ = some (.int .i64 i.sh) := gF.cell (by go_simp) (by simp)
  have k_3 : wF.cell? ⟨wB.heap.size, 3, none⟩ = some (.int .i64 i.nu) := gF.cell (by go_simp) (by simp)
  have k_4 : wF.cell? ⟨wB.heap.size, 4, none⟩ = some (.float .f32 i.pl) := gF.cell (by go_simp) (by simp)
  have k_5 : wF.cell? ⟨wB.heap.size, 5, none⟩ = some (.float .f32 i.sp) := gF.cell (by go_simp) (by simp)
  have k_6 : wF.cell? ⟨wB.heap.size, 6, none⟩ = some (.int .i64 m.g) := gF.cell (by go_simp) (by simp)
  have k_7 : wF.cell? ⟨wB.heap.size, 7, none⟩ = some (.int .i64 m.m) := gF.cell (by go_simp) (by simp)
  have k_8 : wF.cell? ⟨wB.heap.size, 8, none⟩ = some (.int .i64 m.s) := gF.cell (by go_simp) (by simp)
  have k_9 : wF.cell? ⟨wB.heap.size, 9, none⟩ = some (.int .i64 m.a) := gF.cell (by go_simp) (by simp)
  have k_10 : wF.cell? ⟨wB.heap.size, 10, none⟩ = some (.int .i64 m.n) := gF.cell (by go_simp) (by simp)
  have k_11 : wF.cell? ⟨wB.heap.size, 11, none⟩ = some (.slice ai1 ni1 ci1) := gF.cell (by go_simp) (by simp)
  have k_12 : wF.cell? ⟨wB.heap.size, 12, none⟩ = some (.slice ao1 no1 co1) := gF.cell (by go_simp) (by simp)
  have n_0 : wF.cell? ⟨wC.heap.size, 0, none⟩ = some (.int .i64 K) := gF.cell (by go_simp) (by simp)
  have n_1 : wF.cell? ⟨wC.heap.size, 1, none⟩ = some (.int .i64 s) := gF.cell (by go_simp) (by simp)
  have n_2 : wF.cell? ⟨wC.heap.size, 2, none⟩ = some (.int .i64 i.sh) := gF.cell (by go_simp) (by simp)
  have n_3 : wF.cell? ⟨wC.heap.size, 3, none⟩ = some (.int .i64 i.nu) := gF.cell (by go_simp) (by simp)
  have n_4 : wF.cell? ⟨wC.heap.size, 4, none⟩ = some (.float .f32 i.pl) := gF.cell (by go_simp) (by simp)
  have n_5 : wF.cell? ⟨wC.heap.size, 5, none⟩ = some (.float .f32 i.sp) := gF.cell (by go_simp) (by simp)
  have n_6 : wF.cell? ⟨wC.heap.size, 6, none⟩ = some (.int .i64 m.g) := gF.cell (by go_simp) (by simp)
  have n_7 : wF.cell? ⟨wC.heap.size, 7, none⟩ = some (.int .i64 m.m) := gF.cell (by go_simp) (by simp)
  have n_8 : wF.cell? ⟨wC.heap.size, 8, none⟩ = some (.int .i64 m.s) := gF.cell (by go_simp) (by simp)
  have n_9 : wF.cell? ⟨wC.heap.size, 9, none⟩ = some (.int .i64 m.a) := gF.cell (by go_simp) (by simp)
  have n_10 : wF.cell? ⟨wC.heap.size, 10, none⟩ = some (.int .i64 m.n) := gF.cell (by go_simp) (by simp)
  have n_11 : wF.cell? ⟨wC.heap.size, 11, none⟩ = some (.slice ai2 ni2 ci2) := gF.cell (by go_simp) (by simp)
  have n_12 : wF.cell? ⟨wC.heap.size, 12, none⟩ = some (.slice ao2 no2 co2) := gF.cell (by go_simp) (by simp)
  clear g_0 g_1 g_2 g_3 g_4 g_5 g_6 g_7 g_8 g_9 g_10 g_11 g_12
  clear h_0 h_1 h_2 h_3 h_4 h_5 h_6 h_7 h_8 h_9 h_10 h_11 h_12
  have GF := Hid.mk' (GE.out.trans gF)
  have RI1 := Hid.mk' (own_grown QI1.out gF)
  have RO1 := Hid.mk' (own_grown QO1.out gF)
  have RI2 := Hid.mk' (own_grown QI2.out gF)
  have RO2 := Hid.mk' (own_grown QO2.out gF)
  clear gF ce
  go_wp2_with fail
  have zw : wC.heap.size < wF.heap.size := World.block_lt_of_cell? wF _ n_0
  have BK0 : Hid (Book (wF.alloc (.cells #[.slice none 0 0, .slice none 0 0, .slice none 0 0] 52)) 0 wF.heap.size (.slice none 0 0) (.slice none 0 0) [] [] (fun _ => False)) :=
    ⟨by simp, by simp [Value.ownBlock], by simp [Value.ownBlock], by simp, by go_simp, by go_simp, by go_simp, fun o => by go_simp, World.ownsRow_nil _ _ _ _, World.ownsRow_nil _ _ _ _, by simp [Value.ownBlock], by simp, by simp, by simp, by simp, by simp⟩
  refine Calls.mono (ownRecord_any 0 wF.heap.size (.slice none 0 0) (.slice none 0 0) [] [] (fun _ => False) K s i m (.slice ai1 ni1 ci1) (.slice ao1 no1 co1) is es _ BK0.out (World.ownsRow.alloc RI1.out _) (World.ownsRow.alloc RO1.out _) (Nat.le_trans HS.out.1 (by decide)) (Nat.le_trans HS.out.2.1 (by decide)) (by simp) (by simp) (fun j _ => by simp [Value.ownBlock]) (fun j _ => by simp [Value.ownBlock]) AP1.out (fun e => by have := LI1.out _ e; omega) (fun e => by have := LO1.out _ e; omega)) ?_
  rintro e w1 ⟨rfl, vI', vE', xi', xe', A', ow⟩
  have OW := Hid.mk' ow
  have NC : Hid (¬ (wC.heap.size = wF.heap.size ∨ Value.ownBlock (.slice none 0 0) = some wC.heap.size ∨ Value.ownBlock (.slice none 0 0) = some wC.heap.size ∨ Value.ownBlock (.slice ai1 ni1 ci1) = some wC.heap.size ∨ Value.ownBlock (.slice ao1 no1 co1) = some wC.heap.size)) := fun e => by
    rcases e with e | e | e | e | e
    · omega
    · simp [Value.ownBlock] at e
    · simp [Value.ownBlock] at e
    · have := LI1.out _ e; omega
    · have := LO1.out _ e; omega
  have y_0 : w1.cell? ⟨wC.heap.size, 0, none⟩ = some (.int .i64 K) := ow.o.cell (a := ⟨wC.heap.size, 0, none⟩) (by go_simp) NC.out
  have y_1 : w1.cell? ⟨wC.heap.size, 1, none⟩ = some (.int .i64 s) := ow.o.cell (a := ⟨wC.heap.size, 1, none⟩) (by go_simp) NC.out
  have y_2 : w1.cell? ⟨wC.heap.size, 2, none⟩ = some (.int .i64 i.sh) := ow.o.cell (a := ⟨wC.heap.size, 2, none⟩) (by go_simp) NC.out
  have y_3 : w1.cell? ⟨wC.heap.size, 3, none⟩ = some (.int .i64 i.nu) := ow.o.cell (a := ⟨wC.heap.size, 3, none⟩) (by go_simp) NC.out
  have y_4 : w1.cell? ⟨wC.heap.size, 4, none⟩ = some (.float .f32 i.pl) := ow.o.cell (a := ⟨wC.heap.size, 4, none⟩) (by go_simp) NC.out
  have y_5 : w1.cell? ⟨wC.heap.size, 5, none⟩ = some (.float .f32 i.sp) := ow.o.cell (a := ⟨wC.heap.size, 5, none⟩) (by go_simp) NC.out
  have y_6 : w1.cell? ⟨wC.heap.size, 6, none⟩ = some (.int .i64 m.g) := ow.o.cell (a := ⟨wC.heap.size, 6, none⟩) (by go_simp) NC.out
  have y_7 : w1.cell? ⟨wC.heap.size, 7, none⟩ = some (.int .i64 m.m) := ow.o.cell (a := ⟨wC.heap.size, 7, none⟩) (by go_simp) NC.out
  have y_8 : w1.cell? ⟨wC.heap.size, 8, none⟩ = some (.int .i64 m.s) := ow.o.cell (a := ⟨wC.heap.size, 8, none⟩) (by go_simp) NC.out
  have y_9 : w1.cell? ⟨wC.heap.size, 9, none⟩ = some (.int .i64 m.a) := ow.o.cell (a := ⟨wC.heap.size, 9, none⟩) (by go_simp) NC.out
  have y_10 : w1.cell? ⟨wC.heap.size, 10, none⟩ = some (.int .i64 m.n) := ow.o.cell (a := ⟨wC.heap.size, 10, none⟩) (by go_simp) NC.out
  have y_11 : w1.cell? ⟨wC.heap.size, 11, none⟩ = some (.slice ai2 ni2 ci2) := ow.o.cell (a := ⟨wC.heap.size, 11, none⟩) (by go_simp) NC.out
  have y_12 : w1.cell? ⟨wC.heap.size, 12, none⟩ = some (.slice ao2 no2 co2) := ow.o.cell (a := ⟨wC.heap.size, 12, none⟩) (by go_simp) NC.out
  clear n_0 n_1 n_2 n_3 n_4 n_5 n_6 n_7 n_8 n_9 n_10 n_11 n_12 ow
  clear k_0 k_1 k_2 k_3 k_4 k_5 k_6 k_7 k_8 k_9 k_10 k_11 k_12
  have N2 : Hid (∀ j, (Value.ownBlock (.slice ai2 ni2 ci2) = some j ∨ Value.ownBlock (.slice ao2 no2 co2) = some j) → ¬ (j = wF.heap.size ∨ Value.ownBlock (.slice none 0 0) = some j ∨ Value.ownBlock (.slice none 0 0) = some j ∨ Value.ownBlock (.slice ai1 ni1 ci1) = some j ∨ Value.ownBlock (.slice ao1 no1 co1) = some j) ∧ ¬ A' j ∧ vI'.ownBlock ≠ some j ∧ vE'.ownBlock ≠ some j) := fun j hj => by
    have hr : wB.heap.size < j ∧ j < wC.heap.size := by
      rcases hj with hj | hj
      · exact LI2.out j hj
      · exact LO2.out j hj
    refine ⟨fun e => ?_, fun e => ?_, fun e => ?_, fun e => ?_⟩
    · rcases e with e | e | e | e | e
      · omega
      · simp [Value.ownBlock] at e
      · simp [Value.ownBlock] at e
      · have := LI1.out _ e; omega
      · have := LO1.out _ e; omega
    · rcases OW.out.a j e with e | e | e | e
      · exact e
      · have := LI1.out _ e; omega
      · have := LO1.out _ e; omega
      · simp at e; omega
    · rcases OW.out.i j e with e | e
      · simp [Value.ownBlock] at e
      · simp at e; omega
    · rcases OW.out.e j e with e | e
      · simp [Value.ownBlock] at e
      · simp at e; omega
  have SI2 := Hid.mk' (OW.out.o.own (World.ownsRow.alloc RI2.out _) (fun j hj => (N2.out j (.inl hj)).1))
  have SO2 := Hid.mk' (OW.out.o.own (World.ownsRow.alloc RO2.out _) (fun j hj => (N2.out j (.inr hj)).1))
  have li := OW.out.ni
  have le := OW.out.ne
  simp at li le
  go_wp2_with fail
  refine Calls.mono (ownRecord_any 0 wF.heap.size vI' vE' xi' xe' A' K s i m (.slice ai2 ni2 ci2) (.slice ao2 no2 co2) is es _ OW.out.b SI2.out SO2.out (Nat.le_trans HS.out.1 (by decide)) (Nat.le_trans HS.out.2.1 (by decide)) (by omega) (by omega) (fun j hj => (N2.out j (.inl hj)).2) (fun j hj => (N2.out j (.inr hj)).2) AP2.out (fun e => by have := LI2.out _ e; omega) (fun e => by have := LO2.out _ e; omega)) ?_
  rintro e w2 ⟨rfl, vI2, vE2, xi2, xe2, A2, ow2⟩
  have OW2 := Hid.mk' ow2
  have li2 := ow2.ni
  have le2 := ow2.ne
  clear ow2
  go_wp2_with fail
  refine Calls.mono (looks_any 0 wF.heap.size vI2 vE2 xi2 xe2 A2 _ OW2.out.b (by omega) (by omega)) ?_
  rintro e w3 ⟨rfl, g3⟩
  go_wp2
  go_ret
  have sA := GA.out.size
  have sG := GF.out.size
  have l1 : ∀ j, Value.ownBlock (.slice ai1 ni1 ci1) = some j → w.heap.size ≤ j := fun j hj => by have := (OI1.out.lt j hj).1; simp at this; omega
  have l2 : ∀ j, Value.ownBlock (.slice ao1 no1 co1) = some j → w.heap.size ≤ j := fun j hj => by have := (OO1.out.lt j hj).1; simp at this; omega
  have q1 := grown_of_only (grownBy_alloc' GF.out _) OW.out.o (fun j e => by
    rcases e with e | e | e | e | e
    · omega
    · simp [Value.ownBlock] at e
    · simp [Value.ownBlock] at e
    · exact l1 j e
    · exact l2 j e)
  have q2 := grown_of_only q1 OW2.out.o (fun j e => by
    rcases e with e | e | e | e | e
    · omega
    · rcases OW.out.i j e with e | e
      · simp [Value.ownBlock] at e
      · simp at e; omega
    · rcases OW.out.e j e with e | e
      · simp [Value.ownBlock] at e
      · simp at e; omega
    · have := LI2.out j e; omega
    · have := LO2.out j e; omega)
  exact ⟨rfl, q2.trans g3⟩

theorem decodes_any (l : List UInt8) (w : World) (hl : l.length ≤ 2000000) :
    Calls Try.prog 14 #[.string (S l)] w fun e w' => e = .returned (.bool true) ∧ w.grownBy w' none := by
  cases h : decB l
  · exact decodes_no l w hl h
  · exact decodes_yes l w hl h
end Go.Proofs.Ytammnaafdhhjaaa
