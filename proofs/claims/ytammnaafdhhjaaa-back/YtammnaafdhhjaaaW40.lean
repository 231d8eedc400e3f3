/- Ytammnaafdhhjaaa: a record is read: one kind. -/
import Derived.Test.YtammnaafdhhjaaaW4
namespace Go.Proofs.Ytammnaafdhhjaaa
open Go.RowKit

set_option maxHeartbeats 4000000 in
theorem record_other (l : List UInt8) (K : Int) (hK : Hid (b1 l = K)) (k1 : (K == 1) = false) (k2 : (K == 2) = false) (k4 : (K == 4) = false) (k7 : (K == 7) = false) (k5 : (K == 5) = false) (k8 : (K == 8) = false) (k6 : (K == 6) = false) (b : Nat) (w : World) (h : w.cell? ⟨b, 0, none⟩ = some (.string (S l))) (hf : w.frozen? ⟨b, 0, none⟩ = false) :
    Calls Try.prog 37 #[.pointer (some ⟨b, 0, none⟩)] w fun e w' => RecPost b w ((⟨K, 0, it0, mk0, [], []⟩ : Rc)) e w' := by
  have hb : b < w.heap.size := World.block_lt_of_cell? w _ h
  have hsf := run_store_float
  go_enter Try.func37, Try.ntmps37
  go_wp2_with fail
  refine Calls.mono (oneByte_any l b _ ?_ ?_) ?_
  · go_simp
  · go_simp
  rintro e w1 ⟨rfl, r1⟩
  rw [hK.out]
  have ca1_0 : w1.cell? ⟨w.heap.size, 0, none⟩ = some (.int .i64 0) := r1.keep (by go_simp) (by omega)
  have ca1_1 : w1.cell? ⟨w.heap.size, 1, none⟩ = some (.int .i64 0) := r1.keep (by go_simp) (by omega)
  have ca1_2 : w1.cell? ⟨w.heap.size, 2, none⟩ = some (.int .i64 0) := r1.keep (by go_simp) (by omega)
  have ca1_3 : w1.cell? ⟨w.heap.size, 3, none⟩ = some (.int .i64 0) := r1.keep (by go_simp) (by omega)
  have ca1_4 : w1.cell? ⟨w.heap.size, 4, none⟩ = some (.float .f32 0) := r1.keep (by go_simp) (by omega)
  have ca1_5 : w1.cell? ⟨w.heap.size, 5, none⟩ = some (.float .f32 0) := r1.keep (by go_simp) (by omega)
  have ca1_6 : w1.cell? ⟨w.heap.size, 6, none⟩ = some (.int .i64 0) := r1.keep (by go_simp) (by omega)
  have ca1_7 : w1.cell? ⟨w.heap.size, 7, none⟩ = some (.int .i64 0) := r1.keep (by go_simp) (by omega)
  have ca1_8 : w1.cell? ⟨w.heap.size, 8, none⟩ = some (.int .i64 0) := r1.keep (by go_simp) (by omega)
  have ca1_9 : w1.cell? ⟨w.heap.size, 9, none⟩ = some (.int .i64 0) := r1.keep (by go_simp) (by omega)
  have ca1_10 : w1.cell? ⟨w.heap.size, 10, none⟩ = some (.int .i64 0) := r1.keep (by go_simp) (by omega)
  have ca1_11 : w1.cell? ⟨w.heap.size, 11, none⟩ = some (.slice none 0 0) := r1.keep (by go_simp) (by omega)
  have ca1_12 : w1.cell? ⟨w.heap.size, 12, none⟩ = some (.slice none 0 0) := r1.keep (by go_simp) (by omega)
  have fa1 : ∀ o, w1.frozen? ⟨w.heap.size, o, none⟩ = false := r1.thaw (fun o => by go_simp) (by simp; try omega) (by omega)
  have z1 := r1.size
  simp at z1
  have hc1 := r1.c
  have hf1 := r1.f
  have R1 := r1.pre (World.grownBy_alloc _ _ _)
  have y1 : b < w1.heap.size := by omega
  have x1 : w.heap.size < w1.heap.size := by omega
  have y2 : b ≠ w1.heap.size := by omega
  have x2 : w.heap.size ≠ w1.heap.size := by omega
  go_wp2
  refine bodyPost_ret (v := rv ((⟨K, 0, it0, mk0, [], []⟩ : Rc)).kind ((⟨K, 0, it0, mk0, [], []⟩ : Rc)).seq ((⟨K, 0, it0, mk0, [], []⟩ : Rc)).it ((⟨K, 0, it0, mk0, [], []⟩ : Rc)).mks (.slice none 0 0) (.slice none 0 0)) (by simp [results, Try.results37, go_sem, rv, it0, mk0, *]) rfl ⟨_, _, rfl, ?_, ?_, ?_, by simp [Value.ownBlock]⟩
  · exact ((((((((((((((R1.store hb (k := w.heap.size) (by omega) _ _).store hb (k := w.heap.size) (by omega) _ _).store hb (k := w.heap.size) (by omega) _ _).store hb (k := w.heap.size) (by omega) _ _).store hb (k := w.heap.size) (by omega) _ _).store hb (k := w.heap.size) (by omega) _ _).store hb (k := w.heap.size) (by omega) _ _).store hb (k := w.heap.size) (by omega) _ _).store hb (k := w.heap.size) (by omega) _ _).store hb (k := w.heap.size) (by omega) _ _).store hb (k := w.heap.size) (by omega) _ _).store hb (k := w.heap.size) (by omega) _ _).store hb (k := w.heap.size) (by omega) _ _).alloc _).g
  · exact OwnI.nil _ _
  · exact OwnE.nil _ _

end Go.Proofs.Ytammnaafdhhjaaa
