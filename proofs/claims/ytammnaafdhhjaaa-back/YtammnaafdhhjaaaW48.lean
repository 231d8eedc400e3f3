/- Ytammnaafdhhjaaa: a record is read: one kind. -/
import Derived.Test.YtammnaafdhhjaaaW4
namespace Go.Proofs.Ytammnaafdhhjaaa
open Go.RowKit

set_option maxHeartbeats 4000000 in
theorem record_8 (l : List UInt8) (hK : Hid (b1 l = 8)) (b : Nat) (w : World) (h : w.cell? ⟨b, 0, none⟩ = some (.string (S l))) (hf : w.frozen? ⟨b, 0, none⟩ = false) :
    Calls Try.prog 37 #[.pointer (some ⟨b, 0, none⟩)] w fun e w' => RecPost b w (pRc 8 (t1 l)) e w' := by
  have hb : b < w.heap.size := World.block_lt_of_cell? w _ h
  have hsf := run_store_float
  go_enter Try.func37, Try.ntmps37
  go_wp2_with fail
  refine Calls.mono (oneByte_any l b _ ?_ ?_) ?_
  · go_simp
  · go_simp
  rintro e w1 ⟨rfl, r1⟩
  rw [hK.out]
  have ca1_0 : w1.cell? ⟨w.heap.size, 0, none⟩ = some (.int .i64 0) := r1.keep (by go_simp) (by omega)
  have ca1_1 : w1.cell? ⟨w.heap.size, 1, none⟩ = some (.int .i64 0) := r1.keep (by go_simp) (by omega)
  have ca1_2 : w1.cell? ⟨w.heap.size, 2, none⟩ = some (.int .i64 0) := r1.keep (by go_simp) (by omega)
  have ca1_3 : w1.cell? ⟨w.heap.size, 3, none⟩ = some (.int .i64 0) := r1.keep (by go_simp) (by omega)
  have ca1_4 : w1.cell? ⟨w.heap.size, 4, none⟩ = some (.float .f32 0) := r1.keep (by go_simp) (by omega)
  have ca1_5 : w1.cell? ⟨w.heap.size, 5, none⟩ = some (.float .f32 0) := r1.keep (by go_simp) (by omega)
  have ca1_6 : w1.cell? ⟨w.heap.size, 6, none⟩ = some (.int .i64 0) := r1.keep (by go_simp) (by omega)
  have ca1_7 : w1.cell? ⟨w.heap.size, 7, none⟩ = some (.int .i64 0) := r1.keep (by go_simp) (by omega)
  have ca1_8 : w1.cell? ⟨w.heap.size, 8, none⟩ = some (.int .i64 0) := r1.keep (by go_simp) (by omega)
  have ca1_9 : w1.cell? ⟨w.heap.size, 9, none⟩ = some (.int .i64 0) := r1.keep (by go_simp) (by omega)
  have ca1_10 : w1.cell? ⟨w.heap.size, 10, none⟩ = some (.int .i64 0) := r1.keep (by go_simp) (by omega)
  have ca1_11 : w1.cell? ⟨w.heap.size, 11, none⟩ = some (.slice none 0 0) := r1.keep (by go_simp) (by omega)
  have ca1_12 : w1.cell? ⟨w.heap.size, 12, none⟩ = some (.slice none 0 0) := r1.keep (by go_simp) (by omega)
  have fa1 : ∀ o, w1.frozen? ⟨w.heap.size, o, none⟩ = false := r1.thaw (fun o => by go_simp) (by simp; try omega) (by omega)
  have z1 := r1.size
  simp at z1
  have hc1 := r1.c
  have hf1 := r1.f
  have R1 := r1.pre (World.grownBy_alloc _ _ _)
  have y1 : b < w1.heap.size := by omega
  have x1 : w.heap.size < w1.heap.size := by omega
  have y2 : b ≠ w1.heap.size := by omega
  have x2 : w.heap.size ≠ w1.heap.size := by omega
  go_wp2_with fail
  refine Calls.mono (number_any (t1 l) b _ ?_ ?_) ?_
  · go_simp
  · go_simp
  rintro e w2 ⟨rfl, r2⟩
  have ca2_0 : w2.cell? ⟨w.heap.size, 0, none⟩ = some (.int .i64 0) := r2.keep (by go_simp) (by omega)
  have ca2_1 : w2.cell? ⟨w.heap.size, 1, none⟩ = some (.int .i64 0) := r2.keep (by go_simp) (by omega)
  have ca2_2 : w2.cell? ⟨w.heap.size, 2, none⟩ = some (.int .i64 0) := r2.keep (by go_simp) (by omega)
  have ca2_3 : w2.cell? ⟨w.heap.size, 3, none⟩ = some (.int .i64 0) := r2.keep (by go_simp) (by omega)
  have ca2_4 : w2.cell? ⟨w.heap.size, 4, none⟩ = some (.float .f32 0) := r2.keep (by go_simp) (by omega)
  have ca2_5 : w2.cell? ⟨w.heap.size, 5, none⟩ = some (.float .f32 0) := r2.keep (by go_simp) (by omega)
  have ca2_6 : w2.cell? ⟨w.heap.size, 6, none⟩ = some (.int .i64 0) := r2.keep (by go_simp) (by omega)
  have ca2_7 : w2.cell? ⟨w.heap.size, 7, none⟩ = some (.int .i64 0) := r2.keep (by go_simp) (by omega)
  have ca2_8 : w2.cell? ⟨w.heap.size, 8, none⟩ = some (.int .i64 0) := r2.keep (by go_simp) (by omega)
  have ca2_9 : w2.cell? ⟨w.heap.size, 9, none⟩ = some (.int .i64 0) := r2.keep (by go_simp) (by omega)
  have ca2_10 : w2.cell? ⟨w.heap.size, 10, none⟩ = some (.int .i64 0) := r2.keep (by go_simp) (by omega)
  have ca2_11 : w2.cell? ⟨w.heap.size, 11, none⟩ = some (.slice none 0 0) := r2.keep (by go_simp) (by omega)
  have ca2_12 : w2.cell? ⟨w.heap.size, 12, none⟩ = some (.slice none 0 0) := r2.keep (by go_simp) (by omega)
  have fa2 : ∀ o, w2.frozen? ⟨w.heap.size, o, none⟩ = false := r2.thaw (fun o => by go_simp) (by simp; try omega) (by omega)
  have cb2_0 : w2.cell? ⟨w1.heap.size, 0, none⟩ = some (.int .i64 (8)) := r2.keep (by go_simp) (by omega)
  have cb2_1 : w2.cell? ⟨w1.heap.size, 1, none⟩ = some (.int .i64 0) := r2.keep (by go_simp) (by omega)
  have cb2_2 : w2.cell? ⟨w1.heap.size, 2, none⟩ = some (.int .i64 0) := r2.keep (by go_simp) (by omega)
  have cb2_3 : w2.cell? ⟨w1.heap.size, 3, none⟩ = some (.int .i64 0) := r2.keep (by go_simp) (by omega)
  have cb2_4 : w2.cell? ⟨w1.heap.size, 4, none⟩ = some (.float .f32 0) := r2.keep (by go_simp) (by omega)
  have cb2_5 : w2.cell? ⟨w1.heap.size, 5, none⟩ = some (.float .f32 0) := r2.keep (by go_simp) (by omega)
  have cb2_6 : w2.cell? ⟨w1.heap.size, 6, none⟩ = some (.int .i64 0) := r2.keep (by go_simp) (by omega)
  have cb2_7 : w2.cell? ⟨w1.heap.size, 7, none⟩ = some (.int .i64 0) := r2.keep (by go_simp) (by omega)
  have cb2_8 : w2.cell? ⟨w1.heap.size, 8, none⟩ = some (.int .i64 0) := r2.keep (by go_simp) (by omega)
  have cb2_9 : w2.cell? ⟨w1.heap.size, 9, none⟩ = some (.int .i64 0) := r2.keep (by go_simp) (by omega)
  have cb2_10 : w2.cell? ⟨w1.heap.size, 10, none⟩ = some (.int .i64 0) := r2.keep (by go_simp) (by omega)
  have cb2_11 : w2.cell? ⟨w1.heap.size, 11, none⟩ = some (.slice none 0 0) := r2.keep (by go_simp) (by omega)
  have cb2_12 : w2.cell? ⟨w1.heap.size, 12, none⟩ = some (.slice none 0 0) := r2.keep (by go_simp) (by omega)
  have fb2 : ∀ o, w2.frozen? ⟨w1.heap.size, o, none⟩ = false := r2.thaw (fun o => by go_simp) (by simp; try omega) (by omega)
  have z2 := r2.size
  simp at z2
  have hc2 := r2.c
  have hf2 := r2.f
  have R2 := r2.pre (R1.alloc _).g
  clear ca1_0 ca1_1 ca1_2 ca1_3 ca1_4 ca1_5 ca1_6 ca1_7 ca1_8 ca1_9 ca1_10 ca1_11 ca1_12 fa1 hc1 hf1
  go_wp2
  refine bodyPost_ret (v := rv (pRc 8 (t1 l)).kind (pRc 8 (t1 l)).seq (pRc 8 (t1 l)).it (pRc 8 (t1 l)).mks (.slice none 0 0) (.slice none 0 0)) (by simp [results, Try.results37, go_sem, rv, pRc, it0, mk0, *]) rfl ⟨_, _, rfl, ?_, ?_, ?_, by simp [Value.ownBlock]⟩
  · exact ((((((((((((((R2.store hb (k := w1.heap.size) (by omega) 1 (.int .i64 (b2 (t1 l)))).store hb (k := w.heap.size) (by omega) _ _).store hb (k := w.heap.size) (by omega) _ _).store hb (k := w.heap.size) (by omega) _ _).store hb (k := w.heap.size) (by omega) _ _).store hb (k := w.heap.size) (by omega) _ _).store hb (k := w.heap.size) (by omega) _ _).store hb (k := w.heap.size) (by omega) _ _).store hb (k := w.heap.size) (by omega) _ _).store hb (k := w.heap.size) (by omega) _ _).store hb (k := w.heap.size) (by omega) _ _).store hb (k := w.heap.size) (by omega) _ _).store hb (k := w.heap.size) (by omega) _ _).store hb (k := w.heap.size) (by omega) _ _).g
  · simp only [pRc]; simp; exact OwnI.nil _ _
  · simp only [pRc]; simp; exact OwnE.nil _ _

end Go.Proofs.Ytammnaafdhhjaaa
