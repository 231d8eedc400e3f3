import Derived.Test.YtammnaafdhhjaaaW4
/- Ytammnaafdhhjaaa: a record is read: one kind. -/
namespace Go.Proofs.Ytammnaafdhhjaaa
open Go.RowKit

set_option maxHeartbeats 4000000 in
theorem record_other (l : List UInt8) (K : Int) (hK : Hid (b1 l = K)) (k1 : (K == 1) = false) (k2 : (K == 2) = false) (k4 : (K == 4) = false) (k7 : (K == 7) = false) (k5 : (K == 5) = false) (k8 : (K == 8) = false) (k6 : (K == 6) = false) (b : Nat) (w : World) (h : w.cell? ⟨b, 0, none⟩ = some (.string (S l))) (hf : w.frozen? ⟨b, 0, none⟩ = false) :
    Calls Try.prog 37 #[.pointer (some ⟨b, 0, none⟩)] w fun e w' => RecPost b w ((⟨K, 0, it0, mk0, [], []⟩ : Rc)) e w' := by
  have hb : b < w.heap.size := World.block_lt_of_cell? w _ h
  have hsf := run_store_float
  go_enter Try.func37, Try.ntmps37
  go_wp2_with fail
  refine Calls.mono (oneByte_any l b _ ?_ ?_) ?_
  · go_simp
  · go_simp
  rintro e w1 ⟨rfl, r1⟩
  rw [hK.out]
  have ca1_0 : w1.cell? ⟨w.heap.size, 0, none⟩ = some (.int .i64 0) := r1.keep (by go_simp) (by omega)
  have ca1_1 : w1.cell? ⟨w.heap.size, 1, none⟩ = some (.int .i64 0) := r1.keep (by go_simp) (by omega)
  have ca1_2 : w1.cell? ⟨w.heap.size, 2, none⟩ = some (.int .i64 0) := r1.keep (by go_simp) (by omega)
  have ca1_3 : w1.cell? ⟨w.heap.size, 3, none⟩ = some (.int .i64 0) := r1.keep (by go_simp) (by omega)
  have ca1_4 : w1.cell? ⟨w.heap.size, 4, none⟩ = some (.float .f32 0) := r1.keep (by go_simp) (by omega)
  have ca1_5 : w1.cell? ⟨w.heap.size, 5, none⟩ = some (.float .f32 0) := r1.keep (by go_simp) (by omega)
  have ca1_6 : w1.cell? ⟨w.heap.size, 6, none⟩ = some (.int .i64 0) := r1.keep (by go_simp) (by omega)
  have ca1_7 : w1.cell? ⟨w.heap.size, 7, none⟩ = some (.int .i64 0) := r1.keep (by go_simp) (by omega)
  have ca1_8 : w1.cell? ⟨w.heap.size, 8, none⟩ = some (.int .i64 0) := r1.keep (by go_simp) (by omega)
  have ca1_9 : w1.cell? ⟨w.heap.size, 9, none⟩ = some (.int .i64 0) := r1.keep (by go_simp) (by omega)
  have ca1_10 : w1.cell? ⟨w.heap.size, 10, none⟩ = some (.int .i64 0) := r1.keep (by go_simp) (by omega)
  have ca1_11 : w1.cell? ⟨w.heap.size, 11, none⟩ = some (.slice none 0 0) := r1.keep (by go_simp) (by omega)
  have ca1_12 : w1.cell? ⟨w.heap.size, 12, none⟩ = some (.slice none 0 0) := r1.keep (by go_simp) (by omega)
  have fa1 : ∀ o, w1.frozen? ⟨w.heap.size, o, none⟩ = false := r1.thaw (fun o => by go_simp) (by simp; try omega) (by omega)
  have z1 := r1.size
  simp at z1
  have hc1 := r1.c
  have hf1 := r1.f
  have R1 := r1.pre (World.grownBy_alloc _ _ _)
  have y1 : b < w1.heap.size := by omega
  have x1 : w.heap.size < w1.heap.size := by omega
  have y2 : b ≠ w1.heap.size := by omega
  have x2 : w.heap.size ≠ w1.heap.size := by omega
  go_wp2
  refine bodyPost_ret (v := rv ((⟨K, 0, it0, mk0, [], []⟩ : Rc)).kind ((⟨K, 0, it0, mk0, [], []⟩ : Rc)).seq ((⟨K, 0, it0, mk0, [], []⟩ : Rc)).it ((⟨K, 0, it0, mk0, [], []⟩ : Rc)).mks (.slice none 0 0) (.slice none 0 0)) (by simp [results, Try.results37, go_sem, rv, it0, mk0, *]) rfl ⟨_, _, rfl, ?_, ?_, ?_, by simp [Value.ownBlock]⟩
  · exact ((((((((((((((R1.store hb (k := w.heap.size) (by omega) _ _).store hb (k := w.heap.size) (by omega) _ _).store hb (k := w.heap.size) (by omega) _ _).store hb (k := w.heap.size) (by omega) _ _).store hb (k := w.heap.size) (by omega) _ _).store hb (k := w.heap.size) (by omega) _ _).store hb (k := w.heap.size) (by omega) _ _).store hb (k := w.heap.size) (by omega) _ _).store hb (k := w.heap.size) (by omega) _ _).store hb (k := w.heap.size) (by omega) _ _).store hb (k := w.heap.size) (by omega) _ _).store hb (k := w.heap.size) (by omega) _ _).store hb (k := w.heap.size) (by omega) _ _).alloc _).g
  · exact OwnI.nil _ _
  · exact OwnE.nil _ _

end Go.Proofs.Ytammnaafdhhjaaa

/- Ytammnaafdhhjaaa: a record is read: one kind. -/
namespace Go.Proofs.Ytammnaafdhhjaaa
open Go.RowKit

set_option maxHeartbeats 4000000 in
theorem record_1 (l : List UInt8) (hK : Hid (b1 l = 1)) (b : Nat) (w : World) (h : w.cell? ⟨b, 0, none⟩ = some (.string (S l))) (hf : w.frozen? ⟨b, 0, none⟩ = false) :
    Calls Try.prog 37 #[.pointer (some ⟨b, 0, none⟩)] w fun e w' => RecPost b w (pRc 1 (t1 l)) e w' := by
  have hb : b < w.heap.size := World.block_lt_of_cell? w _ h
  have hsf := run_store_float
  go_enter Try.func37, Try.ntmps37
  go_wp2_with fail
  refine Calls.mono (oneByte_any l b _ ?_ ?_) ?_
  · go_simp
  · go_simp
  rintro e w1 ⟨rfl, r1⟩
  rw [hK.out]
  have ca1_0 : w1.cell? ⟨w.heap.size, 0, none⟩ = some (.int .i64 0) := r1.keep (by go_simp) (by omega)
  have ca1_1 : w1.cell? ⟨w.heap.size, 1, none⟩ = some (.int .i64 0) := r1.keep (by go_simp) (by omega)
  have ca1_2 : w1.cell? ⟨w.heap.size, 2, none⟩ = some (.int .i64 0) := r1.keep (by go_simp) (by omega)
  have ca1_3 : w1.cell? ⟨w.heap.size, 3, none⟩ = some (.int .i64 0) := r1.keep (by go_simp) (by omega)
  have ca1_4 : w1.cell? ⟨w.heap.size, 4, none⟩ = some (.float .f32 0) := r1.keep (by go_simp) (by omega)
  have ca1_5 : w1.cell? ⟨w.heap.size, 5, none⟩ = some (.float .f32 0) := r1.keep (by go_simp) (by omega)
  have ca1_6 : w1.cell? ⟨w.heap.size, 6, none⟩ = some (.int .i64 0) := r1.keep (by go_simp) (by omega)
  have ca1_7 : w1.cell? ⟨w.heap.size, 7, none⟩ = some (.int .i64 0) := r1.keep (by go_simp) (by omega)
  have ca1_8 : w1.cell? ⟨w.heap.size, 8, none⟩ = some (.int .i64 0) := r1.keep (by go_simp) (by omega)
  have ca1_9 : w1.cell? ⟨w.heap.size, 9, none⟩ = some (.int .i64 0) := r1.keep (by go_simp) (by omega)
  have ca1_10 : w1.cell? ⟨w.heap.size, 10, none⟩ = some (.int .i64 0) := r1.keep (by go_simp) (by omega)
  have ca1_11 : w1.cell? ⟨w.heap.size, 11, none⟩ = some (.slice none 0 0) := r1.keep (by go_simp) (by omega)
  have ca1_12 : w1.cell? ⟨w.heap.size, 12, none⟩ = some (.slice none 0 0) := r1.keep (by go_simp) (by omega)
  have fa1 : ∀ o, w1.frozen? ⟨w.heap.size, o, none⟩ = false := r1.thaw (fun o => by go_simp) (by simp; try omega) (by omega)
  have z1 := r1.size
  simp at z1
  have hc1 := r1.c
  have hf1 := r1.f
  have R1 := r1.pre (World.grownBy_alloc _ _ _)
  have y1 : b < w1.heap.size := by omega
  have x1 : w.heap.size < w1.heap.size := by omega
  have y2 : b ≠ w1.heap.size := by omega
  have x2 : w.heap.size ≠ w1.heap.size := by omega
  go_wp2_with fail
  refine Calls.mono (thing_any (t1 l) b _ ?_ ?_) ?_
  · go_simp
  · go_simp
  rintro e w2 ⟨rfl, r2⟩
  have ca2_0 : w2.cell? ⟨w.heap.size, 0, none⟩ = some (.int .i64 0) := r2.keep (by go_simp) (by omega)
  have ca2_1 : w2.cell? ⟨w.heap.size, 1, none⟩ = some (.int .i64 0) := r2.keep (by go_simp) (by omega)
  have ca2_2 : w2.cell? ⟨w.heap.size, 2, none⟩ = some (.int .i64 0) := r2.keep (by go_simp) (by omega)
  have ca2_3 : w2.cell? ⟨w.heap.size, 3, none⟩ = some (.int .i64 0) := r2.keep (by go_simp) (by omega)
  have ca2_4 : w2.cell? ⟨w.heap.size, 4, none⟩ = some (.float .f32 0) := r2.keep (by go_simp) (by omega)
  have ca2_5 : w2.cell? ⟨w.heap.size, 5, none⟩ = some (.float .f32 0) := r2.keep (by go_simp) (by omega)
  have ca2_6 : w2.cell? ⟨w.heap.size, 6, none⟩ = some (.int .i64 0) := r2.keep (by go_simp) (by omega)
  have ca2_7 : w2.cell? ⟨w.heap.size, 7, none⟩ = some (.int .i64 0) := r2.keep (by go_simp) (by omega)
  have ca2_8 : w2.cell? ⟨w.heap.size, 8, none⟩ = some (.int .i64 0) := r2.keep (by go_simp) (by omega)
  have ca2_9 : w2.cell? ⟨w.heap.size, 9, none⟩ = some (.int .i64 0) := r2.keep (by go_simp) (by omega)
  have ca2_10 : w2.cell? ⟨w.heap.size, 10, none⟩ = some (.int .i64 0) := r2.keep (by go_simp) (by omega)
  have ca2_11 : w2.cell? ⟨w.heap.size, 11, none⟩ = some (.slice none 0 0) := r2.keep (by go_simp) (by omega)
  have ca2_12 : w2.cell? ⟨w.heap.size, 12, none⟩ = some (.slice none 0 0) := r2.keep (by go_simp) (by omega)
  have fa2 : ∀ o, w2.frozen? ⟨w.heap.size, o, none⟩ = false := r2.thaw (fun o => by go_simp) (by simp; try omega) (by omega)
  have cb2_0 : w2.cell? ⟨w1.heap.size, 0, none⟩ = some (.int .i64 (1)) := r2.keep (by go_simp) (by omega)
  have cb2_1 : w2.cell? ⟨w1.heap.size, 1, none⟩ = some (.int .i64 0) := r2.keep (by go_simp) (by omega)
  have cb2_2 : w2.cell? ⟨w1.heap.size, 2, none⟩ = some (.int .i64 0) := r2.keep (by go_simp) (by omega)
  have cb2_3 : w2.cell? ⟨w1.heap.size, 3, none⟩ = some (.int .i64 0) := r2.keep (by go_simp) (by omega)
  have cb2_4 : w2.cell? ⟨w1.heap.size, 4, none⟩ = some (.float .f32 0) := r2.keep (by go_simp) (by omega)
  have cb2_5 : w2.cell? ⟨w1.heap.size, 5, none⟩ = some (.float .f32 0) := r2.keep (by go_simp) (by omega)
  have cb2_6 : w2.cell? ⟨w1.heap.size, 6, none⟩ = some (.int .i64 0) := r2.keep (by go_simp) (by omega)
  have cb2_7 : w2.cell? ⟨w1.heap.size, 7, none⟩ = some (.int .i64 0) := r2.keep (by go_simp) (by omega)
  have cb2_8 : w2.cell? ⟨w1.heap.size, 8, none⟩ = some (.int .i64 0) := r2.keep (by go_simp) (by omega)
  have cb2_9 : w2.cell? ⟨w1.heap.size, 9, none⟩ = some (.int .i64 0) := r2.keep (by go_simp) (by omega)
  have cb2_10 : w2.cell? ⟨w1.heap.size, 10, none⟩ = some (.int .i64 0) := r2.keep (by go_simp) (by omega)
  have cb2_11 : w2.cell? ⟨w1.heap.size, 11, none⟩ = some (.slice none 0 0) := r2.keep (by go_simp) (by omega)
  have cb2_12 : w2.cell? ⟨w1.heap.size, 12, none⟩ = some (.slice none 0 0) := r2.keep (by go_simp) (by omega)
  have fb2 : ∀ o, w2.frozen? ⟨w1.heap.size, o, none⟩ = false := r2.thaw (fun o => by go_simp) (by simp; try omega) (by omega)
  have z2 := r2.size
  simp at z2
  have hc2 := r2.c
  have hf2 := r2.f
  have R2 := r2.pre (R1.alloc _).g
  clear ca1_0 ca1_1 ca1_2 ca1_3 ca1_4 ca1_5 ca1_6 ca1_7 ca1_8 ca1_9 ca1_10 ca1_11 ca1_12 fa1 hc1 hf1
  go_wp2
  refine bodyPost_ret (v := rv (pRc 1 (t1 l)).kind (pRc 1 (t1 l)).seq (pRc 1 (t1 l)).it (pRc 1 (t1 l)).mks (.slice none 0 0) (.slice none 0 0)) (by simp [results, Try.results37, go_sem, rv, pRc, mk0, *]) rfl ⟨_, _, rfl, ?_, ?_, ?_, by simp [Value.ownBlock]⟩
  · exact (((((((((((((((((R2.store hb (k := w1.heap.size) (by omega) 2 (.int .i64 (pIt (t1 l)).sh)).store hb (k := w1.heap.size) (by omega) 3 (.int .i64 (pIt (t1 l)).nu)).store hb (k := w1.heap.size) (by omega) 4 (.float .f32 (pIt (t1 l)).pl)).store hb (k := w1.heap.size) (by omega) 5 (.float .f32 (pIt (t1 l)).sp)).store hb (k := w.heap.size) (by omega) _ _).store hb (k := w.heap.size) (by omega) _ _).store hb (k := w.heap.size) (by omega) _ _).store hb (k := w.heap.size) (by omega) _ _).store hb (k := w.heap.size) (by omega) _ _).store hb (k := w.heap.size) (by omega) _ _).store hb (k := w.heap.size) (by omega) _ _).store hb (k := w.heap.size) (by omega) _ _).store hb (k := w.heap.size) (by omega) _ _).store hb (k := w.heap.size) (by omega) _ _).store hb (k := w.heap.size) (by omega) _ _).store hb (k := w.heap.size) (by omega) _ _).store hb (k := w.heap.size) (by omega) _ _).g
  · simp only [pRc]; simp; exact OwnI.nil _ _
  · simp only [pRc]; simp; exact OwnE.nil _ _

end Go.Proofs.Ytammnaafdhhjaaa

/- Ytammnaafdhhjaaa: a record is read: one kind. -/
namespace Go.Proofs.Ytammnaafdhhjaaa
open Go.RowKit

set_option maxHeartbeats 4000000 in
theorem record_2 (l : List UInt8) (hK : Hid (b1 l = 2)) (b : Nat) (w : World) (h : w.cell? ⟨b, 0, none⟩ = some (.string (S l))) (hf : w.frozen? ⟨b, 0, none⟩ = false) :
    Calls Try.prog 37 #[.pointer (some ⟨b, 0, none⟩)] w fun e w' => RecPost b w (pRc 2 (t1 l)) e w' := by
  have hb : b < w.heap.size := World.block_lt_of_cell? w _ h
  have hsf := run_store_float
  go_enter Try.func37, Try.ntmps37
  go_wp2_with fail
  refine Calls.mono (oneByte_any l b _ ?_ ?_) ?_
  · go_simp
  · go_simp
  rintro e w1 ⟨rfl, r1⟩
  rw [hK.out]
  have ca1_0 : w1.cell? ⟨w.heap.size, 0, none⟩ = some (.int .i64 0) := r1.keep (by go_simp) (by omega)
  have ca1_1 : w1.cell? ⟨w.heap.size, 1, none⟩ = some (.int .i64 0) := r1.keep (by go_simp) (by omega)
  have ca1_2 : w1.cell? ⟨w.heap.size, 2, none⟩ = some (.int .i64 0) := r1.keep (by go_simp) (by omega)
  have ca1_3 : w1.cell? ⟨w.heap.size, 3, none⟩ = some (.int .i64 0) := r1.keep (by go_simp) (by omega)
  have ca1_4 : w1.cell? ⟨w.heap.size, 4, none⟩ = some (.float .f32 0) := r1.keep (by go_simp) (by omega)
  have ca1_5 : w1.cell? ⟨w.heap.size, 5, none⟩ = some (.float .f32 0) := r1.keep (by go_simp) (by omega)
  have ca1_6 : w1.cell? ⟨w.heap.size, 6, none⟩ = some (.int .i64 0) := r1.keep (by go_simp) (by omega)
  have ca1_7 : w1.cell? ⟨w.heap.size, 7, none⟩ = some (.int .i64 0) := r1.keep (by go_simp) (by omega)
  have ca1_8 : w1.cell? ⟨w.heap.size, 8, none⟩ = some (.int .i64 0) := r1.keep (by go_simp) (by omega)
  have ca1_9 : w1.cell? ⟨w.heap.size, 9, none⟩ = some (.int .i64 0) := r1.keep (by go_simp) (by omega)
  have ca1_10 : w1.cell? ⟨w.heap.size, 10, none⟩ = some (.int .i64 0) := r1.keep (by go_simp) (by omega)
  have ca1_11 : w1.cell? ⟨w.heap.size, 11, none⟩ = some (.slice none 0 0) := r1.keep (by go_simp) (by omega)
  have ca1_12 : w1.cell? ⟨w.heap.size, 12, none⟩ = some (.slice none 0 0) := r1.keep (by go_simp) (by omega)
  have fa1 : ∀ o, w1.frozen? ⟨w.heap.size, o, none⟩ = false := r1.thaw (fun o => by go_simp) (by simp; try omega) (by omega)
  have z1 := r1.size
  simp at z1
  have hc1 := r1.c
  have hf1 := r1.f
  have R1 := r1.pre (World.grownBy_alloc _ _ _)
  have y1 : b < w1.heap.size := by omega
  have x1 : w.heap.size < w1.heap.size := by omega
  have y2 : b ≠ w1.heap.size := by omega
  have x2 : w.heap.size ≠ w1.heap.size := by omega
  go_wp2_with fail
  refine Calls.mono (id_any (t1 l) b _ ?_ ?_) ?_
  · go_simp
  · go_simp
  rintro e w2 ⟨rfl, r2⟩
  have ca2_0 : w2.cell? ⟨w.heap.size, 0, none⟩ = some (.int .i64 0) := r2.keep (by go_simp) (by omega)
  have ca2_1 : w2.cell? ⟨w.heap.size, 1, none⟩ = some (.int .i64 0) := r2.keep (by go_simp) (by omega)
  have ca2_2 : w2.cell? ⟨w.heap.size, 2, none⟩ = some (.int .i64 0) := r2.keep (by go_simp) (by omega)
  have ca2_3 : w2.cell? ⟨w.heap.size, 3, none⟩ = some (.int .i64 0) := r2.keep (by go_simp) (by omega)
  have ca2_4 : w2.cell? ⟨w.heap.size, 4, none⟩ = some (.float .f32 0) := r2.keep (by go_simp) (by omega)
  have ca2_5 : w2.cell? ⟨w.heap.size, 5, none⟩ = some (.float .f32 0) := r2.keep (by go_simp) (by omega)
  have ca2_6 : w2.cell? ⟨w.heap.size, 6, none⟩ = some (.int .i64 0) := r2.keep (by go_simp) (by omega)
  have ca2_7 : w2.cell? ⟨w.heap.size, 7, none⟩ = some (.int .i64 0) := r2.keep (by go_simp) (by omega)
  have ca2_8 : w2.cell? ⟨w.heap.size, 8, none⟩ = some (.int .i64 0) := r2.keep (by go_simp) (by omega)
  have ca2_9 : w2.cell? ⟨w.heap.size, 9, none⟩ = some (.int .i64 0) := r2.keep (by go_simp) (by omega)
  have ca2_10 : w2.cell? ⟨w.heap.size, 10, none⟩ = some (.int .i64 0) := r2.keep (by go_simp) (by omega)
  have ca2_11 : w2.cell? ⟨w.heap.size, 11, none⟩ = some (.slice none 0 0) := r2.keep (by go_simp) (by omega)
  have ca2_12 : w2.cell? ⟨w.heap.size, 12, none⟩ = some (.slice none 0 0) := r2.keep (by go_simp) (by omega)
  have fa2 : ∀ o, w2.frozen? ⟨w.heap.size, o, none⟩ = false := r2.thaw (fun o => by go_simp) (by simp; try omega) (by omega)
  have cb2_0 : w2.cell? ⟨w1.heap.size, 0, none⟩ = some (.int .i64 (2)) := r2.keep (by go_simp) (by omega)
  have cb2_1 : w2.cell? ⟨w1.heap.size, 1, none⟩ = some (.int .i64 0) := r2.keep (by go_simp) (by omega)
  have cb2_2 : w2.cell? ⟨w1.heap.size, 2, none⟩ = some (.int .i64 0) := r2.keep (by go_simp) (by omega)
  have cb2_3 : w2.cell? ⟨w1.heap.size, 3, none⟩ = some (.int .i64 0) := r2.keep (by go_simp) (by omega)
  have cb2_4 : w2.cell? ⟨w1.heap.size, 4, none⟩ = some (.float .f32 0) := r2.keep (by go_simp) (by omega)
  have cb2_5 : w2.cell? ⟨w1.heap.size, 5, none⟩ = some (.float .f32 0) := r2.keep (by go_simp) (by omega)
  have cb2_6 : w2.cell? ⟨w1.heap.size, 6, none⟩ = some (.int .i64 0) := r2.keep (by go_simp) (by omega)
  have cb2_7 : w2.cell? ⟨w1.heap.size, 7, none⟩ = some (.int .i64 0) := r2.keep (by go_simp) (by omega)
  have cb2_8 : w2.cell? ⟨w1.heap.size, 8, none⟩ = some (.int .i64 0) := r2.keep (by go_simp) (by omega)
  have cb2_9 : w2.cell? ⟨w1.heap.size, 9, none⟩ = some (.int .i64 0) := r2.keep (by go_simp) (by omega)
  have cb2_10 : w2.cell? ⟨w1.heap.size, 10, none⟩ = some (.int .i64 0) := r2.keep (by go_simp) (by omega)
  have cb2_11 : w2.cell? ⟨w1.heap.size, 11, none⟩ = some (.slice none 0 0) := r2.keep (by go_simp) (by omega)
  have cb2_12 : w2.cell? ⟨w1.heap.size, 12, none⟩ = some (.slice none 0 0) := r2.keep (by go_simp) (by omega)
  have fb2 : ∀ o, w2.frozen? ⟨w1.heap.size, o, none⟩ = false := r2.thaw (fun o => by go_simp) (by simp; try omega) (by omega)
  have z2 := r2.size
  simp at z2
  have hc2 := r2.c
  have hf2 := r2.f
  have R2 := r2.pre (R1.alloc _).g
  clear ca1_0 ca1_1 ca1_2 ca1_3 ca1_4 ca1_5 ca1_6 ca1_7 ca1_8 ca1_9 ca1_10 ca1_11 ca1_12 fa1 hc1 hf1
  go_wp2
  refine bodyPost_ret (v := rv (pRc 2 (t1 l)).kind (pRc 2 (t1 l)).seq (pRc 2 (t1 l)).it (pRc 2 (t1 l)).mks (.slice none 0 0) (.slice none 0 0)) (by simp [results, Try.results37, go_sem, rv, pRc, mk0, *]) rfl ⟨_, _, rfl, ?_, ?_, ?_, by simp [Value.ownBlock]⟩
  · exact (((((((((((((((R2.store hb (k := w1.heap.size) (by omega) 2 (.int .i64 (b1 (t1 l)))).store hb (k := w1.heap.size) (by omega) 3 (.int .i64 (b2 (t1 (t1 l))))).store hb (k := w.heap.size) (by omega) _ _).store hb (k := w.heap.size) (by omega) _ _).store hb (k := w.heap.size) (by omega) _ _).store hb (k := w.heap.size) (by omega) _ _).store hb (k := w.heap.size) (by omega) _ _).store hb (k := w.heap.size) (by omega) _ _).store hb (k := w.heap.size) (by omega) _ _).store hb (k := w.heap.size) (by omega) _ _).store hb (k := w.heap.size) (by omega) _ _).store hb (k := w.heap.size) (by omega) _ _).store hb (k := w.heap.size) (by omega) _ _).store hb (k := w.heap.size) (by omega) _ _).store hb (k := w.heap.size) (by omega) _ _).g
  · simp only [pRc]; simp; exact OwnI.nil _ _
  · simp only [pRc]; simp; exact OwnE.nil _ _

end Go.Proofs.Ytammnaafdhhjaaa

/- Ytammnaafdhhjaaa: a record is read: one kind. -/
namespace Go.Proofs.Ytammnaafdhhjaaa
open Go.RowKit

set_option maxHeartbeats 4000000 in
theorem record_4 (l : List UInt8) (hK : Hid (b1 l = 4)) (b : Nat) (w : World) (h : w.cell? ⟨b, 0, none⟩ = some (.string (S l))) (hf : w.frozen? ⟨b, 0, none⟩ = false) :
    Calls Try.prog 37 #[.pointer (some ⟨b, 0, none⟩)] w fun e w' => RecPost b w (pRc 4 (t1 l)) e w' := by
  have hb : b < w.heap.size := World.block_lt_of_cell? w _ h
  have hsf := run_store_float
  go_enter Try.func37, Try.ntmps37
  go_wp2_with fail
  refine Calls.mono (oneByte_any l b _ ?_ ?_) ?_
  · go_simp
  · go_simp
  rintro e w1 ⟨rfl, r1⟩
  rw [hK.out]
  have ca1_0 : w1.cell? ⟨w.heap.size, 0, none⟩ = some (.int .i64 0) := r1.keep (by go_simp) (by omega)
  have ca1_1 : w1.cell? ⟨w.heap.size, 1, none⟩ = some (.int .i64 0) := r1.keep (by go_simp) (by omega)
  have ca1_2 : w1.cell? ⟨w.heap.size, 2, none⟩ = some (.int .i64 0) := r1.keep (by go_simp) (by omega)
  have ca1_3 : w1.cell? ⟨w.heap.size, 3, none⟩ = some (.int .i64 0) := r1.keep (by go_simp) (by omega)
  have ca1_4 : w1.cell? ⟨w.heap.size, 4, none⟩ = some (.float .f32 0) := r1.keep (by go_simp) (by omega)
  have ca1_5 : w1.cell? ⟨w.heap.size, 5, none⟩ = some (.float .f32 0) := r1.keep (by go_simp) (by omega)
  have ca1_6 : w1.cell? ⟨w.heap.size, 6, none⟩ = some (.int .i64 0) := r1.keep (by go_simp) (by omega)
  have ca1_7 : w1.cell? ⟨w.heap.size, 7, none⟩ = some (.int .i64 0) := r1.keep (by go_simp) (by omega)
  have ca1_8 : w1.cell? ⟨w.heap.size, 8, none⟩ = some (.int .i64 0) := r1.keep (by go_simp) (by omega)
  have ca1_9 : w1.cell? ⟨w.heap.size, 9, none⟩ = some (.int .i64 0) := r1.keep (by go_simp) (by omega)
  have ca1_10 : w1.cell? ⟨w.heap.size, 10, none⟩ = some (.int .i64 0) := r1.keep (by go_simp) (by omega)
  have ca1_11 : w1.cell? ⟨w.heap.size, 11, none⟩ = some (.slice none 0 0) := r1.keep (by go_simp) (by omega)
  have ca1_12 : w1.cell? ⟨w.heap.size, 12, none⟩ = some (.slice none 0 0) := r1.keep (by go_simp) (by omega)
  have fa1 : ∀ o, w1.frozen? ⟨w.heap.size, o, none⟩ = false := r1.thaw (fun o => by go_simp) (by simp; try omega) (by omega)
  have z1 := r1.size
  simp at z1
  have hc1 := r1.c
  have hf1 := r1.f
  have R1 := r1.pre (World.grownBy_alloc _ _ _)
  have y1 : b < w1.heap.size := by omega
  have x1 : w.heap.size < w1.heap.size := by omega
  have y2 : b ≠ w1.heap.size := by omega
  have x2 : w.heap.size ≠ w1.heap.size := by omega
  go_wp2_with fail
  refine Calls.mono (number_any (t1 l) b _ ?_ ?_) ?_
  · go_simp
  · go_simp
  rintro e w2 ⟨rfl, r2⟩
  have ca2_0 : w2.cell? ⟨w.heap.size, 0, none⟩ = some (.int .i64 0) := r2.keep (by go_simp) (by omega)
  have ca2_1 : w2.cell? ⟨w.heap.size, 1, none⟩ = some (.int .i64 0) := r2.keep (by go_simp) (by omega)
  have ca2_2 : w2.cell? ⟨w.heap.size, 2, none⟩ = some (.int .i64 0) := r2.keep (by go_simp) (by omega)
  have ca2_3 : w2.cell? ⟨w.heap.size, 3, none⟩ = some (.int .i64 0) := r2.keep (by go_simp) (by omega)
  have ca2_4 : w2.cell? ⟨w.heap.size, 4, none⟩ = some (.float .f32 0) := r2.keep (by go_simp) (by omega)
  have ca2_5 : w2.cell? ⟨w.heap.size, 5, none⟩ = some (.float .f32 0) := r2.keep (by go_simp) (by omega)
  have ca2_6 : w2.cell? ⟨w.heap.size, 6, none⟩ = some (.int .i64 0) := r2.keep (by go_simp) (by omega)
  have ca2_7 : w2.cell? ⟨w.heap.size, 7, none⟩ = some (.int .i64 0) := r2.keep (by go_simp) (by omega)
  have ca2_8 : w2.cell? ⟨w.heap.size, 8, none⟩ = some (.int .i64 0) := r2.keep (by go_simp) (by omega)
  have ca2_9 : w2.cell? ⟨w.heap.size, 9, none⟩ = some (.int .i64 0) := r2.keep (by go_simp) (by omega)
  have ca2_10 : w2.cell? ⟨w.heap.size, 10, none⟩ = some (.int .i64 0) := r2.keep (by go_simp) (by omega)
  have ca2_11 : w2.cell? ⟨w.heap.size, 11, none⟩ = some (.slice none 0 0) := r2.keep (by go_simp) (by omega)
  have ca2_12 : w2.cell? ⟨w.heap.size, 12, none⟩ = some (.slice none 0 0) := r2.keep (by go_simp) (by omega)
  have fa2 : ∀ o, w2.frozen? ⟨w.heap.size, o, none⟩ = false := r2.thaw (fun o => by go_simp) (by simp; try omega) (by omega)
  have cb2_0 : w2.cell? ⟨w1.heap.size, 0, none⟩ = some (.int .i64 (4)) := r2.keep (by go_simp) (by omega)
  have cb2_1 : w2.cell? ⟨w1.heap.size, 1, none⟩ = some (.int .i64 0) := r2.keep (by go_simp) (by omega)
  have cb2_2 : w2.cell? ⟨w1.heap.size, 2, none⟩ = some (.int .i64 0) := r2.keep (by go_simp) (by omega)
  have cb2_3 : w2.cell? ⟨w1.heap.size, 3, none⟩ = some (.int .i64 0) := r2.keep (by go_simp) (by omega)
  have cb2_4 : w2.cell? ⟨w1.heap.size, 4, none⟩ = some (.float .f32 0) := r2.keep (by go_simp) (by omega)
  have cb2_5 : w2.cell? ⟨w1.heap.size, 5, none⟩ = some (.float .f32 0) := r2.keep (by go_simp) (by omega)
  have cb2_6 : w2.cell? ⟨w1.heap.size, 6, none⟩ = some (.int .i64 0) := r2.keep (by go_simp) (by omega)
  have cb2_7 : w2.cell? ⟨w1.heap.size, 7, none⟩ = some (.int .i64 0) := r2.keep (by go_simp) (by omega)
  have cb2_8 : w2.cell? ⟨w1.heap.size, 8, none⟩ = some (.int .i64 0) := r2.keep (by go_simp) (by omega)
  have cb2_9 : w2.cell? ⟨w1.heap.size, 9, none⟩ = some (.int .i64 0) := r2.keep (by go_simp) (by omega)
  have cb2_10 : w2.cell? ⟨w1.heap.size, 10, none⟩ = some (.int .i64 0) := r2.keep (by go_simp) (by omega)
  have cb2_11 : w2.cell? ⟨w1.heap.size, 11, none⟩ = some (.slice none 0 0) := r2.keep (by go_simp) (by omega)
  have cb2_12 : w2.cell? ⟨w1.heap.size, 12, none⟩ = some (.slice none 0 0) := r2.keep (by go_simp) (by omega)
  have fb2 : ∀ o, w2.frozen? ⟨w1.heap.size, o, none⟩ = false := r2.thaw (fun o => by go_simp) (by simp; try omega) (by omega)
  have z2 := r2.size
  simp at z2
  have hc2 := r2.c
  have hf2 := r2.f
  have R2 := r2.pre (R1.alloc _).g
  clear ca1_0 ca1_1 ca1_2 ca1_3 ca1_4 ca1_5 ca1_6 ca1_7 ca1_8 ca1_9 ca1_10 ca1_11 ca1_12 fa1 hc1 hf1
  go_wp2_with fail
  refine Calls.mono (thing_any (t2 (t1 l)) b _ ?_ ?_) ?_
  · go_simp
  · go_simp
  rintro e w3 ⟨rfl, r3⟩
  have ca3_0 : w3.cell? ⟨w.heap.size, 0, none⟩ = some (.int .i64 0) := r3.keep (by go_simp) (by omega)
  have ca3_1 : w3.cell? ⟨w.heap.size, 1, none⟩ = some (.int .i64 0) := r3.keep (by go_simp) (by omega)
  have ca3_2 : w3.cell? ⟨w.heap.size, 2, none⟩ = some (.int .i64 0) := r3.keep (by go_simp) (by omega)
  have ca3_3 : w3.cell? ⟨w.heap.size, 3, none⟩ = some (.int .i64 0) := r3.keep (by go_simp) (by omega)
  have ca3_4 : w3.cell? ⟨w.heap.size, 4, none⟩ = some (.float .f32 0) := r3.keep (by go_simp) (by omega)
  have ca3_5 : w3.cell? ⟨w.heap.size, 5, none⟩ = some (.float .f32 0) := r3.keep (by go_simp) (by omega)
  have ca3_6 : w3.cell? ⟨w.heap.size, 6, none⟩ = some (.int .i64 0) := r3.keep (by go_simp) (by omega)
  have ca3_7 : w3.cell? ⟨w.heap.size, 7, none⟩ = some (.int .i64 0) := r3.keep (by go_simp) (by omega)
  have ca3_8 : w3.cell? ⟨w.heap.size, 8, none⟩ = some (.int .i64 0) := r3.keep (by go_simp) (by omega)
  have ca3_9 : w3.cell? ⟨w.heap.size, 9, none⟩ = some (.int .i64 0) := r3.keep (by go_simp) (by omega)
  have ca3_10 : w3.cell? ⟨w.heap.size, 10, none⟩ = some (.int .i64 0) := r3.keep (by go_simp) (by omega)
  have ca3_11 : w3.cell? ⟨w.heap.size, 11, none⟩ = some (.slice none 0 0) := r3.keep (by go_simp) (by omega)
  have ca3_12 : w3.cell? ⟨w.heap.size, 12, none⟩ = some (.slice none 0 0) := r3.keep (by go_simp) (by omega)
  have fa3 : ∀ o, w3.frozen? ⟨w.heap.size, o, none⟩ = false := r3.thaw (fun o => by go_simp) (by simp; try omega) (by omega)
  have cb3_0 : w3.cell? ⟨w1.heap.size, 0, none⟩ = some (.int .i64 (4)) := r3.keep (by go_simp) (by omega)
  have cb3_1 : w3.cell? ⟨w1.heap.size, 1, none⟩ = some (.int .i64 (b2 (t1 l))) := r3.keep (by go_simp) (by omega)
  have cb3_2 : w3.cell? ⟨w1.heap.size, 2, none⟩ = some (.int .i64 0) := r3.keep (by go_simp) (by omega)
  have cb3_3 : w3.cell? ⟨w1.heap.size, 3, none⟩ = some (.int .i64 0) := r3.keep (by go_simp) (by omega)
  have cb3_4 : w3.cell? ⟨w1.heap.size, 4, none⟩ = some (.float .f32 0) := r3.keep (by go_simp) (by omega)
  have cb3_5 : w3.cell? ⟨w1.heap.size, 5, none⟩ = some (.float .f32 0) := r3.keep (by go_simp) (by omega)
  have cb3_6 : w3.cell? ⟨w1.heap.size, 6, none⟩ = some (.int .i64 0) := r3.keep (by go_simp) (by omega)
  have cb3_7 : w3.cell? ⟨w1.heap.size, 7, none⟩ = some (.int .i64 0) := r3.keep (by go_simp) (by omega)
  have cb3_8 : w3.cell? ⟨w1.heap.size, 8, none⟩ = some (.int .i64 0) := r3.keep (by go_simp) (by omega)
  have cb3_9 : w3.cell? ⟨w1.heap.size, 9, none⟩ = some (.int .i64 0) := r3.keep (by go_simp) (by omega)
  have cb3_10 : w3.cell? ⟨w1.heap.size, 10, none⟩ = some (.int .i64 0) := r3.keep (by go_simp) (by omega)
  have cb3_11 : w3.cell? ⟨w1.heap.size, 11, none⟩ = some (.slice none 0 0) := r3.keep (by go_simp) (by omega)
  have cb3_12 : w3.cell? ⟨w1.heap.size, 12, none⟩ = some (.slice none 0 0) := r3.keep (by go_simp) (by omega)
  have fb3 : ∀ o, w3.frozen? ⟨w1.heap.size, o, none⟩ = false := r3.thaw (fun o => by go_simp) (by simp; try omega) (by omega)
  have z3 := r3.size
  simp at z3
  have hc3 := r3.c
  have hf3 := r3.f
  have R3 := r3.pre (R2.store hb (k := w1.heap.size) (by omega) 1 (.int .i64 (b2 (t1 l)))).g
  clear ca2_0 ca2_1 ca2_2 ca2_3 ca2_4 ca2_5 ca2_6 ca2_7 ca2_8 ca2_9 ca2_10 ca2_11 ca2_12 fa2 cb2_0 cb2_1 cb2_2 cb2_3 cb2_4 cb2_5 cb2_6 cb2_7 cb2_8 cb2_9 cb2_10 cb2_11 cb2_12 fb2 hc2 hf2
  go_wp2
  refine bodyPost_ret (v := rv (pRc 4 (t1 l)).kind (pRc 4 (t1 l)).seq (pRc 4 (t1 l)).it (pRc 4 (t1 l)).mks (.slice none 0 0) (.slice none 0 0)) (by simp [results, Try.results37, go_sem, rv, pRc, mk0, *]) rfl ⟨_, _, rfl, ?_, ?_, ?_, by simp [Value.ownBlock]⟩
  · exact (((((((((((((((((R3.store hb (k := w1.heap.size) (by omega) 2 (.int .i64 (pIt (t2 (t1 l))).sh)).store hb (k := w1.heap.size) (by omega) 3 (.int .i64 (pIt (t2 (t1 l))).nu)).store hb (k := w1.heap.size) (by omega) 4 (.float .f32 (pIt (t2 (t1 l))).pl)).store hb (k := w1.heap.size) (by omega) 5 (.float .f32 (pIt (t2 (t1 l))).sp)).store hb (k := w.heap.size) (by omega) _ _).store hb (k := w.heap.size) (by omega) _ _).store hb (k := w.heap.size) (by omega) _ _).store hb (k := w.heap.size) (by omega) _ _).store hb (k := w.heap.size) (by omega) _ _).store hb (k := w.heap.size) (by omega) _ _).store hb (k := w.heap.size) (by omega) _ _).store hb (k := w.heap.size) (by omega) _ _).store hb (k := w.heap.size) (by omega) _ _).store hb (k := w.heap.size) (by omega) _ _).store hb (k := w.heap.size) (by omega) _ _).store hb (k := w.heap.size) (by omega) _ _).store hb (k := w.heap.size) (by omega) _ _).g
  · simp only [pRc]; simp; exact OwnI.nil _ _
  · simp only [pRc]; simp; exact OwnE.nil _ _

end Go.Proofs.Ytammnaafdhhjaaa
