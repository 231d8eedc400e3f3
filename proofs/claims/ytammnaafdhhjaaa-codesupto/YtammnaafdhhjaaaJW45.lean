import Derived.Test.YtammnaafdhhjaaaW4
/- Ytammnaafdhhjaaa: a record is read: one kind. -/
namespace Go.Proofs.Ytammnaafdhhjaaa
open Go.RowKit

set_option maxHeartbeats 4000000 in
theorem record_5 (l : List UInt8) (hK : Hid (b1 l = 5)) (b : Nat) (w : World) (h : w.cell? ⟨b, 0, none⟩ = some (.string (S l))) (hf : w.frozen? ⟨b, 0, none⟩ = false) :
    Calls Try.prog 37 #[.pointer (some ⟨b, 0, none⟩)] w fun e w' => RecPost b w (pRc 5 (t1 l)) e w' := by
  have hb : b < w.heap.size := World.block_lt_of_cell? w _ h
  have hsf := run_store_float
  go_enter Try.func37, Try.ntmps37
  go_wp2_with fail
  refine Calls.mono (oneByte_any l b _ ?_ ?_) ?_
  · go_simp
  · go_simp
  rintro e w1 ⟨rfl, r1⟩
  rw [hK.out]
  have ca1_0 : w1.cell? ⟨w.heap.size, 0, none⟩ = some (.int .i64 0) := r1.keep (by go_simp) (by omega)
  have ca1_1 : w1.cell? ⟨w.heap.size, 1, none⟩ = some (.int .i64 0) := r1.keep (by go_simp) (by omega)
  have ca1_2 : w1.cell? ⟨w.heap.size, 2, none⟩ = some (.int .i64 0) := r1.keep (by go_simp) (by omega)
  have ca1_3 : w1.cell? ⟨w.heap.size, 3, none⟩ = some (.int .i64 0) := r1.keep (by go_simp) (by omega)
  have ca1_4 : w1.cell? ⟨w.heap.size, 4, none⟩ = some (.float .f32 0) := r1.keep (by go_simp) (by omega)
  have ca1_5 : w1.cell? ⟨w.heap.size, 5, none⟩ = some (.float .f32 0) := r1.keep (by go_simp) (by omega)
  have ca1_6 : w1.cell? ⟨w.heap.size, 6, none⟩ = some (.int .i64 0) := r1.keep (by go_simp) (by omega)
  have ca1_7 : w1.cell? ⟨w.heap.size, 7, none⟩ = some (.int .i64 0) := r1.keep (by go_simp) (by omega)
  have ca1_8 : w1.cell? ⟨w.heap.size, 8, none⟩ = some (.int .i64 0) := r1.keep (by go_simp) (by omega)
  have ca1_9 : w1.cell? ⟨w.heap.size, 9, none⟩ = some (.int .i64 0) := r1.keep (by go_simp) (by omega)
  have ca1_10 : w1.cell? ⟨w.heap.size, 10, none⟩ = some (.int .i64 0) := r1.keep (by go_simp) (by omega)
  have ca1_11 : w1.cell? ⟨w.heap.size, 11, none⟩ = some (.slice none 0 0) := r1.keep (by go_simp) (by omega)
  have ca1_12 : w1.cell? ⟨w.heap.size, 12, none⟩ = some (.slice none 0 0) := r1.keep (by go_simp) (by omega)
  have fa1 : ∀ o, w1.frozen? ⟨w.heap.size, o, none⟩ = false := r1.thaw (fun o => by go_simp) (by simp; try omega) (by omega)
  have z1 := r1.size
  simp at z1
  have hc1 := r1.c
  have hf1 := r1.f
  have R1 := r1.pre (World.grownBy_alloc _ _ _)
  have y1 : b < w1.heap.size := by omega
  have x1 : w.heap.size < w1.heap.size := by omega
  have y2 : b ≠ w1.heap.size := by omega
  have x2 : w.heap.size ≠ w1.heap.size := by omega
  go_wp2_with fail
  refine Calls.mono (number_any (t1 l) b _ ?_ ?_) ?_
  · go_simp
  · go_simp
  rintro e w2 ⟨rfl, r2⟩
  have ca2_0 : w2.cell? ⟨w.heap.size, 0, none⟩ = some (.int .i64 0) := r2.keep (by go_simp) (by omega)
  have ca2_1 : w2.cell? ⟨w.heap.size, 1, none⟩ = some (.int .i64 0) := r2.keep (by go_simp) (by omega)
  have ca2_2 : w2.cell? ⟨w.heap.size, 2, none⟩ = some (.int .i64 0) := r2.keep (by go_simp) (by omega)
  have ca2_3 : w2.cell? ⟨w.heap.size, 3, none⟩ = some (.int .i64 0) := r2.keep (by go_simp) (by omega)
  have ca2_4 : w2.cell? ⟨w.heap.size, 4, none⟩ = some (.float .f32 0) := r2.keep (by go_simp) (by omega)
  have ca2_5 : w2.cell? ⟨w.heap.size, 5, none⟩ = some (.float .f32 0) := r2.keep (by go_simp) (by omega)
  have ca2_6 : w2.cell? ⟨w.heap.size, 6, none⟩ = some (.int .i64 0) := r2.keep (by go_simp) (by omega)
  have ca2_7 : w2.cell? ⟨w.heap.size, 7, none⟩ = some (.int .i64 0) := r2.keep (by go_simp) (by omega)
  have ca2_8 : w2.cell? ⟨w.heap.size, 8, none⟩ = some (.int .i64 0) := r2.keep (by go_simp) (by omega)
  have ca2_9 : w2.cell? ⟨w.heap.size, 9, none⟩ = some (.int .i64 0) := r2.keep (by go_simp) (by omega)
  have ca2_10 : w2.cell? ⟨w.heap.size, 10, none⟩ = some (.int .i64 0) := r2.keep (by go_simp) (by omega)
  have ca2_11 : w2.cell? ⟨w.heap.size, 11, none⟩ = some (.slice none 0 0) := r2.keep (by go_simp) (by omega)
  have ca2_12 : w2.cell? ⟨w.heap.size, 12, none⟩ = some (.slice none 0 0) := r2.keep (by go_simp) (by omega)
  have fa2 : ∀ o, w2.frozen? ⟨w.heap.size, o, none⟩ = false := r2.thaw (fun o => by go_simp) (by simp; try omega) (by omega)
  have cb2_0 : w2.cell? ⟨w1.heap.size, 0, none⟩ = some (.int .i64 (5)) := r2.keep (by go_simp) (by omega)
  have cb2_1 : w2.cell? ⟨w1.heap.size, 1, none⟩ = some (.int .i64 0) := r2.keep (by go_simp) (by omega)
  have cb2_2 : w2.cell? ⟨w1.heap.size, 2, none⟩ = some (.int .i64 0) := r2.keep (by go_simp) (by omega)
  have cb2_3 : w2.cell? ⟨w1.heap.size, 3, none⟩ = some (.int .i64 0) := r2.keep (by go_simp) (by omega)
  have cb2_4 : w2.cell? ⟨w1.heap.size, 4, none⟩ = some (.float .f32 0) := r2.keep (by go_simp) (by omega)
  have cb2_5 : w2.cell? ⟨w1.heap.size, 5, none⟩ = some (.float .f32 0) := r2.keep (by go_simp) (by omega)
  have cb2_6 : w2.cell? ⟨w1.heap.size, 6, none⟩ = some (.int .i64 0) := r2.keep (by go_simp) (by omega)
  have cb2_7 : w2.cell? ⟨w1.heap.size, 7, none⟩ = some (.int .i64 0) := r2.keep (by go_simp) (by omega)
  have cb2_8 : w2.cell? ⟨w1.heap.size, 8, none⟩ = some (.int .i64 0) := r2.keep (by go_simp) (by omega)
  have cb2_9 : w2.cell? ⟨w1.heap.size, 9, none⟩ = some (.int .i64 0) := r2.keep (by go_simp) (by omega)
  have cb2_10 : w2.cell? ⟨w1.heap.size, 10, none⟩ = some (.int .i64 0) := r2.keep (by go_simp) (by omega)
  have cb2_11 : w2.cell? ⟨w1.heap.size, 11, none⟩ = some (.slice none 0 0) := r2.keep (by go_simp) (by omega)
  have cb2_12 : w2.cell? ⟨w1.heap.size, 12, none⟩ = some (.slice none 0 0) := r2.keep (by go_simp) (by omega)
  have fb2 : ∀ o, w2.frozen? ⟨w1.heap.size, o, none⟩ = false := r2.thaw (fun o => by go_simp) (by simp; try omega) (by omega)
  have z2 := r2.size
  simp at z2
  have hc2 := r2.c
  have hf2 := r2.f
  have R2 := r2.pre (R1.alloc _).g
  clear ca1_0 ca1_1 ca1_2 ca1_3 ca1_4 ca1_5 ca1_6 ca1_7 ca1_8 ca1_9 ca1_10 ca1_11 ca1_12 fa1 hc1 hf1
  go_wp2
  refine bodyPost_ret (v := rv (pRc 5 (t1 l)).kind (pRc 5 (t1 l)).seq (pRc 5 (t1 l)).it (pRc 5 (t1 l)).mks (.slice none 0 0) (.slice none 0 0)) (by simp [results, Try.results37, go_sem, rv, pRc, it0, mk0, *]) rfl ⟨_, _, rfl, ?_, ?_, ?_, by simp [Value.ownBlock]⟩
  · exact ((((((((((((((R2.store hb (k := w1.heap.size) (by omega) 1 (.int .i64 (b2 (t1 l)))).store hb (k := w.heap.size) (by omega) _ _).store hb (k := w.heap.size) (by omega) _ _).store hb (k := w.heap.size) (by omega) _ _).store hb (k := w.heap.size) (by omega) _ _).store hb (k := w.heap.size) (by omega) _ _).store hb (k := w.heap.size) (by omega) _ _).store hb (k := w.heap.size) (by omega) _ _).store hb (k := w.heap.size) (by omega) _ _).store hb (k := w.heap.size) (by omega) _ _).store hb (k := w.heap.size) (by omega) _ _).store hb (k := w.heap.size) (by omega) _ _).store hb (k := w.heap.size) (by omega) _ _).store hb (k := w.heap.size) (by omega) _ _).g
  · simp only [pRc]; simp; exact OwnI.nil _ _
  · simp only [pRc]; simp; exact OwnE.nil _ _

end Go.Proofs.Ytammnaafdhhjaaa

/- Ytammnaafdhhjaaa: a record is read: one kind. -/
namespace Go.Proofs.Ytammnaafdhhjaaa
open Go.RowKit

theorem heap_size_setCell (w : World) (a : Addr) (u : Value) : (w.setCell a u).heap.size = w.heap.size := by simp [World.setCell]
theorem own_base {B B' : Nat} {e : TypeId} {size : Nat} {v : Value} {n : Nat} {xs : List Value} {w : World} (h : w.ownsRow B e size v n xs) (hB : B' ≤ B) : w.ownsRow B' e size v n xs := by
  refine ⟨h.1, ?_⟩
  rcases h.2 with hn | ⟨g, cap, cur, hv, hb, r⟩
  · exact .inl hn
  · exact .inr ⟨g, cap, cur, hv, by omega, r⟩

set_option maxHeartbeats 4000000 in
theorem record_6 (l : List UInt8) (hK : Hid (b1 l = 6)) (ni no : Nat) (hi : Hid (b1 (tMk (t1 l)) = (ni : Int))) (ho : Hid (b1 (tItN ni (t1 (tMk (t1 l)))) = (no : Int))) (b : Nat) (w : World) (h : w.cell? ⟨b, 0, none⟩ = some (.string (S l))) (hf : w.frozen? ⟨b, 0, none⟩ = false) :
    Calls Try.prog 37 #[.pointer (some ⟨b, 0, none⟩)] w fun e w' => RecPost b w (pRc 6 (t1 l)) e w' := by
  have hb : b < w.heap.size := World.block_lt_of_cell? w _ h
  have hsf := run_store_float
  go_enter Try.func37, Try.ntmps37
  go_wp2_with fail
  refine Calls.mono (oneByte_any l b _ ?_ ?_) ?_
  · go_simp
  · go_simp
  rintro e w1 ⟨rfl, r1⟩
  rw [hK.out]
  have ca1_0 : w1.cell? ⟨w.heap.size, 0, none⟩ = some (.int .i64 0) := r1.keep (by go_simp) (by omega)
  have ca1_1 : w1.cell? ⟨w.heap.size, 1, none⟩ = some (.int .i64 0) := r1.keep (by go_simp) (by omega)
  have ca1_2 : w1.cell? ⟨w.heap.size, 2, none⟩ = some (.int .i64 0) := r1.keep (by go_simp) (by omega)
  have ca1_3 : w1.cell? ⟨w.heap.size, 3, none⟩ = some (.int .i64 0) := r1.keep (by go_simp) (by omega)
  have ca1_4 : w1.cell? ⟨w.heap.size, 4, none⟩ = some (.float .f32 0) := r1.keep (by go_simp) (by omega)
  have ca1_5 : w1.cell? ⟨w.heap.size, 5, none⟩ = some (.float .f32 0) := r1.keep (by go_simp) (by omega)
  have ca1_6 : w1.cell? ⟨w.heap.size, 6, none⟩ = some (.int .i64 0) := r1.keep (by go_simp) (by omega)
  have ca1_7 : w1.cell? ⟨w.heap.size, 7, none⟩ = some (.int .i64 0) := r1.keep (by go_simp) (by omega)
  have ca1_8 : w1.cell? ⟨w.heap.size, 8, none⟩ = some (.int .i64 0) := r1.keep (by go_simp) (by omega)
  have ca1_9 : w1.cell? ⟨w.heap.size, 9, none⟩ = some (.int .i64 0) := r1.keep (by go_simp) (by omega)
  have ca1_10 : w1.cell? ⟨w.heap.size, 10, none⟩ = some (.int .i64 0) := r1.keep (by go_simp) (by omega)
  have ca1_11 : w1.cell? ⟨w.heap.size, 11, none⟩ = some (.slice none 0 0) := r1.keep (by go_simp) (by omega)
  have ca1_12 : w1.cell? ⟨w.heap.size, 12, none⟩ = some (.slice none 0 0) := r1.keep (by go_simp) (by omega)
  have fa1 : ∀ o, w1.frozen? ⟨w.heap.size, o, none⟩ = false := r1.thaw (fun o => by go_simp) (by simp; try omega) (by omega)
  have z1 := r1.size
  simp at z1
  have hc1 := r1.c
  have hf1 := r1.f
  have R1 := r1.pre (World.grownBy_alloc _ _ _)
  have y1 : b < w1.heap.size := by omega
  have x1 : w.heap.size < w1.heap.size := by omega
  have y2 : b ≠ w1.heap.size := by omega
  have x2 : w.heap.size ≠ w1.heap.size := by omega
  go_wp2_with fail
  refine Calls.mono (marks_any (t1 l) b _ ?_ ?_) ?_
  · go_simp
  · go_simp
  rintro e w2 ⟨rfl, r2⟩
  have ca2_0 : w2.cell? ⟨w.heap.size, 0, none⟩ = some (.int .i64 0) := r2.keep (by go_simp) (by omega)
  have ca2_1 : w2.cell? ⟨w.heap.size, 1, none⟩ = some (.int .i64 0) := r2.keep (by go_simp) (by omega)
  have ca2_2 : w2.cell? ⟨w.heap.size, 2, none⟩ = some (.int .i64 0) := r2.keep (by go_simp) (by omega)
  have ca2_3 : w2.cell? ⟨w.heap.size, 3, none⟩ = some (.int .i64 0) := r2.keep (by go_simp) (by omega)
  have ca2_4 : w2.cell? ⟨w.heap.size, 4, none⟩ = some (.float .f32 0) := r2.keep (by go_simp) (by omega)
  have ca2_5 : w2.cell? ⟨w.heap.size, 5, none⟩ = some (.float .f32 0) := r2.keep (by go_simp) (by omega)
  have ca2_6 : w2.cell? ⟨w.heap.size, 6, none⟩ = some (.int .i64 0) := r2.keep (by go_simp) (by omega)
  have ca2_7 : w2.cell? ⟨w.heap.size, 7, none⟩ = some (.int .i64 0) := r2.keep (by go_simp) (by omega)
  have ca2_8 : w2.cell? ⟨w.heap.size, 8, none⟩ = some (.int .i64 0) := r2.keep (by go_simp) (by omega)
  have ca2_9 : w2.cell? ⟨w.heap.size, 9, none⟩ = some (.int .i64 0) := r2.keep (by go_simp) (by omega)
  have ca2_10 : w2.cell? ⟨w.heap.size, 10, none⟩ = some (.int .i64 0) := r2.keep (by go_simp) (by omega)
  have ca2_11 : w2.cell? ⟨w.heap.size, 11, none⟩ = some (.slice none 0 0) := r2.keep (by go_simp) (by omega)
  have ca2_12 : w2.cell? ⟨w.heap.size, 12, none⟩ = some (.slice none 0 0) := r2.keep (by go_simp) (by omega)
  have fa2 : ∀ o, w2.frozen? ⟨w.heap.size, o, none⟩ = false := r2.thaw (fun o => by go_simp) (by simp; try omega) (by omega)
  have cb2_0 : w2.cell? ⟨w1.heap.size, 0, none⟩ = some (.int .i64 (6)) := r2.keep (by go_simp) (by omega)
  have cb2_1 : w2.cell? ⟨w1.heap.size, 1, none⟩ = some (.int .i64 0) := r2.keep (by go_simp) (by omega)
  have cb2_2 : w2.cell? ⟨w1.heap.size, 2, none⟩ = some (.int .i64 0) := r2.keep (by go_simp) (by omega)
  have cb2_3 : w2.cell? ⟨w1.heap.size, 3, none⟩ = some (.int .i64 0) := r2.keep (by go_simp) (by omega)
  have cb2_4 : w2.cell? ⟨w1.heap.size, 4, none⟩ = some (.float .f32 0) := r2.keep (by go_simp) (by omega)
  have cb2_5 : w2.cell? ⟨w1.heap.size, 5, none⟩ = some (.float .f32 0) := r2.keep (by go_simp) (by omega)
  have cb2_6 : w2.cell? ⟨w1.heap.size, 6, none⟩ = some (.int .i64 0) := r2.keep (by go_simp) (by omega)
  have cb2_7 : w2.cell? ⟨w1.heap.size, 7, none⟩ = some (.int .i64 0) := r2.keep (by go_simp) (by omega)
  have cb2_8 : w2.cell? ⟨w1.heap.size, 8, none⟩ = some (.int .i64 0) := r2.keep (by go_simp) (by omega)
  have cb2_9 : w2.cell? ⟨w1.heap.size, 9, none⟩ = some (.int .i64 0) := r2.keep (by go_simp) (by omega)
  have cb2_10 : w2.cell? ⟨w1.heap.size, 10, none⟩ = some (.int .i64 0) := r2.keep (by go_simp) (by omega)
  have cb2_11 : w2.cell? ⟨w1.heap.size, 11, none⟩ = some (.slice none 0 0) := r2.keep (by go_simp) (by omega)
  have cb2_12 : w2.cell? ⟨w1.heap.size, 12, none⟩ = some (.slice none 0 0) := r2.keep (by go_simp) (by omega)
  have fb2 : ∀ o, w2.frozen? ⟨w1.heap.size, o, none⟩ = false := r2.thaw (fun o => by go_simp) (by simp; try omega) (by omega)
  have z2 := r2.size
  simp at z2
  have hc2 := r2.c
  have hf2 := r2.f
  have R2 := r2.pre (R1.alloc _).g
  clear ca1_0 ca1_1 ca1_2 ca1_3 ca1_4 ca1_5 ca1_6 ca1_7 ca1_8 ca1_9 ca1_10 ca1_11 ca1_12 fa1 hc1 hf1
  go_wp2_with fail
  refine Calls.mono (items_any (tMk (t1 l)) ni hi b _ ?_ ?_) ?_
  · go_simp
  · go_simp
  rintro e w3 ⟨v3, rfl, r3, o3⟩
  obtain ⟨a3, n3, q3, rfl⟩ := slice_of o3
  have O3 := Hid.mk' o3
  clear o3
  have ca3_0 : w3.cell? ⟨w.heap.size, 0, none⟩ = some (.int .i64 0) := r3.keep (by go_simp) (by omega)
  have ca3_1 : w3.cell? ⟨w.heap.size, 1, none⟩ = some (.int .i64 0) := r3.keep (by go_simp) (by omega)
  have ca3_2 : w3.cell? ⟨w.heap.size, 2, none⟩ = some (.int .i64 0) := r3.keep (by go_simp) (by omega)
  have ca3_3 : w3.cell? ⟨w.heap.size, 3, none⟩ = some (.int .i64 0) := r3.keep (by go_simp) (by omega)
  have ca3_4 : w3.cell? ⟨w.heap.size, 4, none⟩ = some (.float .f32 0) := r3.keep (by go_simp) (by omega)
  have ca3_5 : w3.cell? ⟨w.heap.size, 5, none⟩ = some (.float .f32 0) := r3.keep (by go_simp) (by omega)
  have ca3_6 : w3.cell? ⟨w.heap.size, 6, none⟩ = some (.int .i64 0) := r3.keep (by go_simp) (by omega)
  have ca3_7 : w3.cell? ⟨w.heap.size, 7, none⟩ = some (.int .i64 0) := r3.keep (by go_simp) (by omega)
  have ca3_8 : w3.cell? ⟨w.heap.size, 8, none⟩ = some (.int .i64 0) := r3.keep (by go_simp) (by omega)
  have ca3_9 : w3.cell? ⟨w.heap.size, 9, none⟩ = some (.int .i64 0) := r3.keep (by go_simp) (by omega)
  have ca3_10 : w3.cell? ⟨w.heap.size, 10, none⟩ = some (.int .i64 0) := r3.keep (by go_simp) (by omega)
  have ca3_11 : w3.cell? ⟨w.heap.size, 11, none⟩ = some (.slice none 0 0) := r3.keep (by go_simp) (by omega)
  have ca3_12 : w3.cell? ⟨w.heap.size, 12, none⟩ = some (.slice none 0 0) := r3.keep (by go_simp) (by omega)
  have fa3 : ∀ o, w3.frozen? ⟨w.heap.size, o, none⟩ = false := r3.thaw (fun o => by go_simp) (by simp; try omega) (by omega)
  have cb3_0 : w3.cell? ⟨w1.heap.size, 0, none⟩ = some (.int .i64 (6)) := r3.keep (by go_simp) (by omega)
  have cb3_1 : w3.cell? ⟨w1.heap.size, 1, none⟩ = some (.int .i64 0) := r3.keep (by go_simp) (by omega)
  have cb3_2 : w3.cell? ⟨w1.heap.size, 2, none⟩ = some (.int .i64 0) := r3.keep (by go_simp) (by omega)
  have cb3_3 : w3.cell? ⟨w1.heap.size, 3, none⟩ = some (.int .i64 0) := r3.keep (by go_simp) (by omega)
  have cb3_4 : w3.cell? ⟨w1.heap.size, 4, none⟩ = some (.float .f32 0) := r3.keep (by go_simp) (by omega)
  have cb3_5 : w3.cell? ⟨w1.heap.size, 5, none⟩ = some (.float .f32 0) := r3.keep (by go_simp) (by omega)
  have cb3_6 : w3.cell? ⟨w1.heap.size, 6, none⟩ = some (.int .i64 (pMk (t1 l)).g) := r3.keep (by go_simp) (by omega)
  have cb3_7 : w3.cell? ⟨w1.heap.size, 7, none⟩ = some (.int .i64 (pMk (t1 l)).m) := r3.keep (by go_simp) (by omega)
  have cb3_8 : w3.cell? ⟨w1.heap.size, 8, none⟩ = some (.int .i64 (pMk (t1 l)).s) := r3.keep (by go_simp) (by omega)
  have cb3_9 : w3.cell? ⟨w1.heap.size, 9, none⟩ = some (.int .i64 (pMk (t1 l)).a) := r3.keep (by go_simp) (by omega)
  have cb3_10 : w3.cell? ⟨w1.heap.size, 10, none⟩ = some (.int .i64 (pMk (t1 l)).n) := r3.keep (by go_simp) (by omega)
  have cb3_11 : w3.cell? ⟨w1.heap.size, 11, none⟩ = some (.slice none 0 0) := r3.keep (by go_simp) (by omega)
  have cb3_12 : w3.cell? ⟨w1.heap.size, 12, none⟩ = some (.slice none 0 0) := r3.keep (by go_simp) (by omega)
  have fb3 : ∀ o, w3.frozen? ⟨w1.heap.size, o, none⟩ = false := r3.thaw (fun o => by go_simp) (by simp; try omega) (by omega)
  have z3 := r3.size
  simp at z3
  have hc3 := r3.c
  have hf3 := r3.f
  have R3 := r3.pre (((((R2.store hb (k := w1.heap.size) (by omega) 6 (.int .i64 (pMk (t1 l)).g)).store hb (k := w1.heap.size) (by omega) 7 (.int .i64 (pMk (t1 l)).m)).store hb (k := w1.heap.size) (by omega) 8 (.int .i64 (pMk (t1 l)).s)).store hb (k := w1.heap.size) (by omega) 9 (.int .i64 (pMk (t1 l)).a)).store hb (k := w1.heap.size) (by omega) 10 (.int .i64 (pMk (t1 l)).n)).g
  clear ca2_0 ca2_1 ca2_2 ca2_3 ca2_4 ca2_5 ca2_6 ca2_7 ca2_8 ca2_9 ca2_10 ca2_11 ca2_12 fa2 cb2_0 cb2_1 cb2_2 cb2_3 cb2_4 cb2_5 cb2_6 cb2_7 cb2_8 cb2_9 cb2_10 cb2_11 cb2_12 fb2 hc2 hf2
  go_wp2_with fail
  refine Calls.mono (outbox_any (tItN ni (t1 (tMk (t1 l)))) no ho b _ ?_ ?_) ?_
  · go_simp
  · go_simp
  rintro e w4 ⟨v4, rfl, r4, o4⟩
  obtain ⟨a4, n4, q4, rfl⟩ := slice_of o4
  have O4 := Hid.mk' o4
  clear o4
  have ca4_0 : w4.cell? ⟨w.heap.size, 0, none⟩ = some (.int .i64 0) := r4.keep (by go_simp) (by omega)
  have ca4_1 : w4.cell? ⟨w.heap.size, 1, none⟩ = some (.int .i64 0) := r4.keep (by go_simp) (by omega)
  have ca4_2 : w4.cell? ⟨w.heap.size, 2, none⟩ = some (.int .i64 0) := r4.keep (by go_simp) (by omega)
  have ca4_3 : w4.cell? ⟨w.heap.size, 3, none⟩ = some (.int .i64 0) := r4.keep (by go_simp) (by omega)
  have ca4_4 : w4.cell? ⟨w.heap.size, 4, none⟩ = some (.float .f32 0) := r4.keep (by go_simp) (by omega)
  have ca4_5 : w4.cell? ⟨w.heap.size, 5, none⟩ = some (.float .f32 0) := r4.keep (by go_simp) (by omega)
  have ca4_6 : w4.cell? ⟨w.heap.size, 6, none⟩ = some (.int .i64 0) := r4.keep (by go_simp) (by omega)
  have ca4_7 : w4.cell? ⟨w.heap.size, 7, none⟩ = some (.int .i64 0) := r4.keep (by go_simp) (by omega)
  have ca4_8 : w4.cell? ⟨w.heap.size, 8, none⟩ = some (.int .i64 0) := r4.keep (by go_simp) (by omega)
  have ca4_9 : w4.cell? ⟨w.heap.size, 9, none⟩ = some (.int .i64 0) := r4.keep (by go_simp) (by omega)
  have ca4_10 : w4.cell? ⟨w.heap.size, 10, none⟩ = some (.int .i64 0) := r4.keep (by go_simp) (by omega)
  have ca4_11 : w4.cell? ⟨w.heap.size, 11, none⟩ = some (.slice none 0 0) := r4.keep (by go_simp) (by omega)
  have ca4_12 : w4.cell? ⟨w.heap.size, 12, none⟩ = some (.slice none 0 0) := r4.keep (by go_simp) (by omega)
  have fa4 : ∀ o, w4.frozen? ⟨w.heap.size, o, none⟩ = false := r4.thaw (fun o => by go_simp) (by simp; try omega) (by omega)
  have cb4_0 : w4.cell? ⟨w1.heap.size, 0, none⟩ = some (.int .i64 (6)) := r4.keep (by go_simp) (by omega)
  have cb4_1 : w4.cell? ⟨w1.heap.size, 1, none⟩ = some (.int .i64 0) := r4.keep (by go_simp) (by omega)
  have cb4_2 : w4.cell? ⟨w1.heap.size, 2, none⟩ = some (.int .i64 0) := r4.keep (by go_simp) (by omega)
  have cb4_3 : w4.cell? ⟨w1.heap.size, 3, none⟩ = some (.int .i64 0) := r4.keep (by go_simp) (by omega)
  have cb4_4 : w4.cell? ⟨w1.heap.size, 4, none⟩ = some (.float .f32 0) := r4.keep (by go_simp) (by omega)
  have cb4_5 : w4.cell? ⟨w1.heap.size, 5, none⟩ = some (.float .f32 0) := r4.keep (by go_simp) (by omega)
  have cb4_6 : w4.cell? ⟨w1.heap.size, 6, none⟩ = some (.int .i64 (pMk (t1 l)).g) := r4.keep (by go_simp) (by omega)
  have cb4_7 : w4.cell? ⟨w1.heap.size, 7, none⟩ = some (.int .i64 (pMk (t1 l)).m) := r4.keep (by go_simp) (by omega)
  have cb4_8 : w4.cell? ⟨w1.heap.size, 8, none⟩ = some (.int .i64 (pMk (t1 l)).s) := r4.keep (by go_simp) (by omega)
  have cb4_9 : w4.cell? ⟨w1.heap.size, 9, none⟩ = some (.int .i64 (pMk (t1 l)).a) := r4.keep (by go_simp) (by omega)
  have cb4_10 : w4.cell? ⟨w1.heap.size, 10, none⟩ = some (.int .i64 (pMk (t1 l)).n) := r4.keep (by go_simp) (by omega)
  have cb4_11 : w4.cell? ⟨w1.heap.size, 11, none⟩ = some (.slice a3 n3 q3) := r4.keep (by go_simp) (by omega)
  have cb4_12 : w4.cell? ⟨w1.heap.size, 12, none⟩ = some (.slice none 0 0) := r4.keep (by go_simp) (by omega)
  have fb4 : ∀ o, w4.frozen? ⟨w1.heap.size, o, none⟩ = false := r4.thaw (fun o => by go_simp) (by simp; try omega) (by omega)
  have z4 := r4.size
  simp at z4
  have hc4 := r4.c
  have hf4 := r4.f
  have R4 := r4.pre (R3.store hb (k := w1.heap.size) (by omega) 11 (.slice a3 n3 q3)).g
  clear ca3_0 ca3_1 ca3_2 ca3_3 ca3_4 ca3_5 ca3_6 ca3_7 ca3_8 ca3_9 ca3_10 ca3_11 ca3_12 fa3 cb3_0 cb3_1 cb3_2 cb3_3 cb3_4 cb3_5 cb3_6 cb3_7 cb3_8 cb3_9 cb3_10 cb3_11 cb3_12 fb3 hc3 hf3
  go_wp2
  have E : (pRc 6 (t1 l)) = ⟨6, 0, it0, pMk (t1 l), pItN ni (t1 (tMk (t1 l))), pEnN no (t1 (tItN ni (t1 (tMk (t1 l)))))⟩ := by
    have e1 : (b1 (tMk (t1 l))).toNat = ni := by rw [hi.out]; rfl
    have e2 : (b1 (tItN ni (t1 (tMk (t1 l))))).toNat = no := by rw [ho.out]; rfl
    simp [pRc, e1, e2]
  rw [E]
  have O3' := O3.out
  have O4' := O4.out
  simp only [heap_size_setCell] at O3' O4'
  have k3 : ∀ k, k ≤ w1.heap.size → Value.ownBlock (.slice a3 n3 q3) ≠ some k := fun k hk e => by have := (O3'.lt k e).1; omega
  have k4 : ∀ k, k ≤ w1.heap.size → Value.ownBlock (.slice a4 n4 q4) ≠ some k := fun k hk e => by have := (O4'.lt k e).1; omega
  have P3 := own_rd (own_store O3' w1.heap.size 11 (.slice a3 n3 q3) (k3 _ (Nat.le_refl _))) r4 (by omega)
  have hx : w.heap.size ≤ w1.heap.size := by omega
  refine bodyPost_ret (v := rv 6 0 it0 (pMk (t1 l)) (.slice a3 n3 q3) (.slice a4 n4 q4)) (by simp [results, Try.results37, go_sem, rv, it0, *]) rfl ⟨_, _, rfl, ?_, ?_, ?_, ?_⟩
  · exact ((((((((((((((R4.store hb (k := w1.heap.size) (by omega) 12 (.slice a4 n4 q4)).store hb (k := w.heap.size) (by omega) _ _).store hb (k := w.heap.size) (by omega) _ _).store hb (k := w.heap.size) (by omega) _ _).store hb (k := w.heap.size) (by omega) _ _).store hb (k := w.heap.size) (by omega) _ _).store hb (k := w.heap.size) (by omega) _ _).store hb (k := w.heap.size) (by omega) _ _).store hb (k := w.heap.size) (by omega) _ _).store hb (k := w.heap.size) (by omega) _ _).store hb (k := w.heap.size) (by omega) _ _).store hb (k := w.heap.size) (by omega) _ _).store hb (k := w.heap.size) (by omega) _ _).store hb (k := w.heap.size) (by omega) _ _).g
  · exact own_base (own_store (own_store (own_store (own_store (own_store (own_store (own_store (own_store (own_store (own_store (own_store (own_store (own_store (own_store P3 w1.heap.size 12 (.slice a4 n4 q4) (k3 _ (Nat.le_refl _))) w.heap.size _ _ (k3 _ hx)) w.heap.size _ _ (k3 _ hx)) w.heap.size _ _ (k3 _ hx)) w.heap.size _ _ (k3 _ hx)) w.heap.size _ _ (k3 _ hx)) w.heap.size _ _ (k3 _ hx)) w.heap.size _ _ (k3 _ hx)) w.heap.size _ _ (k3 _ hx)) w.heap.size _ _ (k3 _ hx)) w.heap.size _ _ (k3 _ hx)) w.heap.size _ _ (k3 _ hx)) w.heap.size _ _ (k3 _ hx)) w.heap.size _ _ (k3 _ hx)) (by omega)
  · exact own_base (own_store (own_store (own_store (own_store (own_store (own_store (own_store (own_store (own_store (own_store (own_store (own_store (own_store (own_store O4' w1.heap.size 12 (.slice a4 n4 q4) (k4 _ (Nat.le_refl _))) w.heap.size _ _ (k4 _ hx)) w.heap.size _ _ (k4 _ hx)) w.heap.size _ _ (k4 _ hx)) w.heap.size _ _ (k4 _ hx)) w.heap.size _ _ (k4 _ hx)) w.heap.size _ _ (k4 _ hx)) w.heap.size _ _ (k4 _ hx)) w.heap.size _ _ (k4 _ hx)) w.heap.size _ _ (k4 _ hx)) w.heap.size _ _ (k4 _ hx)) w.heap.size _ _ (k4 _ hx)) w.heap.size _ _ (k4 _ hx)) w.heap.size _ _ (k4 _ hx)) (by omega)
  · intro j e3 e4
    have h3 := (own_store O3' w1.heap.size 11 (.slice a3 n3 q3) (k3 _ (Nat.le_refl _))).lt j e3
    have h4 := O4'.lt j e4
    simp only [heap_size_setCell] at h3
    omega

end Go.Proofs.Ytammnaafdhhjaaa

/- Ytammnaafdhhjaaa: a record is read: one kind. -/
namespace Go.Proofs.Ytammnaafdhhjaaa
open Go.RowKit

set_option maxHeartbeats 4000000 in
theorem record_7 (l : List UInt8) (hK : Hid (b1 l = 7)) (b : Nat) (w : World) (h : w.cell? ⟨b, 0, none⟩ = some (.string (S l))) (hf : w.frozen? ⟨b, 0, none⟩ = false) :
    Calls Try.prog 37 #[.pointer (some ⟨b, 0, none⟩)] w fun e w' => RecPost b w (pRc 7 (t1 l)) e w' := by
  have hb : b < w.heap.size := World.block_lt_of_cell? w _ h
  have hsf := run_store_float
  go_enter Try.func37, Try.ntmps37
  go_wp2_with fail
  refine Calls.mono (oneByte_any l b _ ?_ ?_) ?_
  · go_simp
  · go_simp
  rintro e w1 ⟨rfl, r1⟩
  rw [hK.out]
  have ca1_0 : w1.cell? ⟨w.heap.size, 0, none⟩ = some (.int .i64 0) := r1.keep (by go_simp) (by omega)
  have ca1_1 : w1.cell? ⟨w.heap.size, 1, none⟩ = some (.int .i64 0) := r1.keep (by go_simp) (by omega)
  have ca1_2 : w1.cell? ⟨w.heap.size, 2, none⟩ = some (.int .i64 0) := r1.keep (by go_simp) (by omega)
  have ca1_3 : w1.cell? ⟨w.heap.size, 3, none⟩ = some (.int .i64 0) := r1.keep (by go_simp) (by omega)
  have ca1_4 : w1.cell? ⟨w.heap.size, 4, none⟩ = some (.float .f32 0) := r1.keep (by go_simp) (by omega)
  have ca1_5 : w1.cell? ⟨w.heap.size, 5, none⟩ = some (.float .f32 0) := r1.keep (by go_simp) (by omega)
  have ca1_6 : w1.cell? ⟨w.heap.size, 6, none⟩ = some (.int .i64 0) := r1.keep (by go_simp) (by omega)
  have ca1_7 : w1.cell? ⟨w.heap.size, 7, none⟩ = some (.int .i64 0) := r1.keep (by go_simp) (by omega)
  have ca1_8 : w1.cell? ⟨w.heap.size, 8, none⟩ = some (.int .i64 0) := r1.keep (by go_simp) (by omega)
  have ca1_9 : w1.cell? ⟨w.heap.size, 9, none⟩ = some (.int .i64 0) := r1.keep (by go_simp) (by omega)
  have ca1_10 : w1.cell? ⟨w.heap.size, 10, none⟩ = some (.int .i64 0) := r1.keep (by go_simp) (by omega)
  have ca1_11 : w1.cell? ⟨w.heap.size, 11, none⟩ = some (.slice none 0 0) := r1.keep (by go_simp) (by omega)
  have ca1_12 : w1.cell? ⟨w.heap.size, 12, none⟩ = some (.slice none 0 0) := r1.keep (by go_simp) (by omega)
  have fa1 : ∀ o, w1.frozen? ⟨w.heap.size, o, none⟩ = false := r1.thaw (fun o => by go_simp) (by simp; try omega) (by omega)
  have z1 := r1.size
  simp at z1
  have hc1 := r1.c
  have hf1 := r1.f
  have R1 := r1.pre (World.grownBy_alloc _ _ _)
  have y1 : b < w1.heap.size := by omega
  have x1 : w.heap.size < w1.heap.size := by omega
  have y2 : b ≠ w1.heap.size := by omega
  have x2 : w.heap.size ≠ w1.heap.size := by omega
  go_wp2_with fail
  refine Calls.mono (number_any (t1 l) b _ ?_ ?_) ?_
  · go_simp
  · go_simp
  rintro e w2 ⟨rfl, r2⟩
  have ca2_0 : w2.cell? ⟨w.heap.size, 0, none⟩ = some (.int .i64 0) := r2.keep (by go_simp) (by omega)
  have ca2_1 : w2.cell? ⟨w.heap.size, 1, none⟩ = some (.int .i64 0) := r2.keep (by go_simp) (by omega)
  have ca2_2 : w2.cell? ⟨w.heap.size, 2, none⟩ = some (.int .i64 0) := r2.keep (by go_simp) (by omega)
  have ca2_3 : w2.cell? ⟨w.heap.size, 3, none⟩ = some (.int .i64 0) := r2.keep (by go_simp) (by omega)
  have ca2_4 : w2.cell? ⟨w.heap.size, 4, none⟩ = some (.float .f32 0) := r2.keep (by go_simp) (by omega)
  have ca2_5 : w2.cell? ⟨w.heap.size, 5, none⟩ = some (.float .f32 0) := r2.keep (by go_simp) (by omega)
  have ca2_6 : w2.cell? ⟨w.heap.size, 6, none⟩ = some (.int .i64 0) := r2.keep (by go_simp) (by omega)
  have ca2_7 : w2.cell? ⟨w.heap.size, 7, none⟩ = some (.int .i64 0) := r2.keep (by go_simp) (by omega)
  have ca2_8 : w2.cell? ⟨w.heap.size, 8, none⟩ = some (.int .i64 0) := r2.keep (by go_simp) (by omega)
  have ca2_9 : w2.cell? ⟨w.heap.size, 9, none⟩ = some (.int .i64 0) := r2.keep (by go_simp) (by omega)
  have ca2_10 : w2.cell? ⟨w.heap.size, 10, none⟩ = some (.int .i64 0) := r2.keep (by go_simp) (by omega)
  have ca2_11 : w2.cell? ⟨w.heap.size, 11, none⟩ = some (.slice none 0 0) := r2.keep (by go_simp) (by omega)
  have ca2_12 : w2.cell? ⟨w.heap.size, 12, none⟩ = some (.slice none 0 0) := r2.keep (by go_simp) (by omega)
  have fa2 : ∀ o, w2.frozen? ⟨w.heap.size, o, none⟩ = false := r2.thaw (fun o => by go_simp) (by simp; try omega) (by omega)
  have cb2_0 : w2.cell? ⟨w1.heap.size, 0, none⟩ = some (.int .i64 (7)) := r2.keep (by go_simp) (by omega)
  have cb2_1 : w2.cell? ⟨w1.heap.size, 1, none⟩ = some (.int .i64 0) := r2.keep (by go_simp) (by omega)
  have cb2_2 : w2.cell? ⟨w1.heap.size, 2, none⟩ = some (.int .i64 0) := r2.keep (by go_simp) (by omega)
  have cb2_3 : w2.cell? ⟨w1.heap.size, 3, none⟩ = some (.int .i64 0) := r2.keep (by go_simp) (by omega)
  have cb2_4 : w2.cell? ⟨w1.heap.size, 4, none⟩ = some (.float .f32 0) := r2.keep (by go_simp) (by omega)
  have cb2_5 : w2.cell? ⟨w1.heap.size, 5, none⟩ = some (.float .f32 0) := r2.keep (by go_simp) (by omega)
  have cb2_6 : w2.cell? ⟨w1.heap.size, 6, none⟩ = some (.int .i64 0) := r2.keep (by go_simp) (by omega)
  have cb2_7 : w2.cell? ⟨w1.heap.size, 7, none⟩ = some (.int .i64 0) := r2.keep (by go_simp) (by omega)
  have cb2_8 : w2.cell? ⟨w1.heap.size, 8, none⟩ = some (.int .i64 0) := r2.keep (by go_simp) (by omega)
  have cb2_9 : w2.cell? ⟨w1.heap.size, 9, none⟩ = some (.int .i64 0) := r2.keep (by go_simp) (by omega)
  have cb2_10 : w2.cell? ⟨w1.heap.size, 10, none⟩ = some (.int .i64 0) := r2.keep (by go_simp) (by omega)
  have cb2_11 : w2.cell? ⟨w1.heap.size, 11, none⟩ = some (.slice none 0 0) := r2.keep (by go_simp) (by omega)
  have cb2_12 : w2.cell? ⟨w1.heap.size, 12, none⟩ = some (.slice none 0 0) := r2.keep (by go_simp) (by omega)
  have fb2 : ∀ o, w2.frozen? ⟨w1.heap.size, o, none⟩ = false := r2.thaw (fun o => by go_simp) (by simp; try omega) (by omega)
  have z2 := r2.size
  simp at z2
  have hc2 := r2.c
  have hf2 := r2.f
  have R2 := r2.pre (R1.alloc _).g
  clear ca1_0 ca1_1 ca1_2 ca1_3 ca1_4 ca1_5 ca1_6 ca1_7 ca1_8 ca1_9 ca1_10 ca1_11 ca1_12 fa1 hc1 hf1
  go_wp2_with fail
  refine Calls.mono (thing_any (t2 (t1 l)) b _ ?_ ?_) ?_
  · go_simp
  · go_simp
  rintro e w3 ⟨rfl, r3⟩
  have ca3_0 : w3.cell? ⟨w.heap.size, 0, none⟩ = some (.int .i64 0) := r3.keep (by go_simp) (by omega)
  have ca3_1 : w3.cell? ⟨w.heap.size, 1, none⟩ = some (.int .i64 0) := r3.keep (by go_simp) (by omega)
  have ca3_2 : w3.cell? ⟨w.heap.size, 2, none⟩ = some (.int .i64 0) := r3.keep (by go_simp) (by omega)
  have ca3_3 : w3.cell? ⟨w.heap.size, 3, none⟩ = some (.int .i64 0) := r3.keep (by go_simp) (by omega)
  have ca3_4 : w3.cell? ⟨w.heap.size, 4, none⟩ = some (.float .f32 0) := r3.keep (by go_simp) (by omega)
  have ca3_5 : w3.cell? ⟨w.heap.size, 5, none⟩ = some (.float .f32 0) := r3.keep (by go_simp) (by omega)
  have ca3_6 : w3.cell? ⟨w.heap.size, 6, none⟩ = some (.int .i64 0) := r3.keep (by go_simp) (by omega)
  have ca3_7 : w3.cell? ⟨w.heap.size, 7, none⟩ = some (.int .i64 0) := r3.keep (by go_simp) (by omega)
  have ca3_8 : w3.cell? ⟨w.heap.size, 8, none⟩ = some (.int .i64 0) := r3.keep (by go_simp) (by omega)
  have ca3_9 : w3.cell? ⟨w.heap.size, 9, none⟩ = some (.int .i64 0) := r3.keep (by go_simp) (by omega)
  have ca3_10 : w3.cell? ⟨w.heap.size, 10, none⟩ = some (.int .i64 0) := r3.keep (by go_simp) (by omega)
  have ca3_11 : w3.cell? ⟨w.heap.size, 11, none⟩ = some (.slice none 0 0) := r3.keep (by go_simp) (by omega)
  have ca3_12 : w3.cell? ⟨w.heap.size, 12, none⟩ = some (.slice none 0 0) := r3.keep (by go_simp) (by omega)
  have fa3 : ∀ o, w3.frozen? ⟨w.heap.size, o, none⟩ = false := r3.thaw (fun o => by go_simp) (by simp; try omega) (by omega)
  have cb3_0 : w3.cell? ⟨w1.heap.size, 0, none⟩ = some (.int .i64 (7)) := r3.keep (by go_simp) (by omega)
  have cb3_1 : w3.cell? ⟨w1.heap.size, 1, none⟩ = some (.int .i64 (b2 (t1 l))) := r3.keep (by go_simp) (by omega)
  have cb3_2 : w3.cell? ⟨w1.heap.size, 2, none⟩ = some (.int .i64 0) := r3.keep (by go_simp) (by omega)
  have cb3_3 : w3.cell? ⟨w1.heap.size, 3, none⟩ = some (.int .i64 0) := r3.keep (by go_simp) (by omega)
  have cb3_4 : w3.cell? ⟨w1.heap.size, 4, none⟩ = some (.float .f32 0) := r3.keep (by go_simp) (by omega)
  have cb3_5 : w3.cell? ⟨w1.heap.size, 5, none⟩ = some (.float .f32 0) := r3.keep (by go_simp) (by omega)
  have cb3_6 : w3.cell? ⟨w1.heap.size, 6, none⟩ = some (.int .i64 0) := r3.keep (by go_simp) (by omega)
  have cb3_7 : w3.cell? ⟨w1.heap.size, 7, none⟩ = some (.int .i64 0) := r3.keep (by go_simp) (by omega)
  have cb3_8 : w3.cell? ⟨w1.heap.size, 8, none⟩ = some (.int .i64 0) := r3.keep (by go_simp) (by omega)
  have cb3_9 : w3.cell? ⟨w1.heap.size, 9, none⟩ = some (.int .i64 0) := r3.keep (by go_simp) (by omega)
  have cb3_10 : w3.cell? ⟨w1.heap.size, 10, none⟩ = some (.int .i64 0) := r3.keep (by go_simp) (by omega)
  have cb3_11 : w3.cell? ⟨w1.heap.size, 11, none⟩ = some (.slice none 0 0) := r3.keep (by go_simp) (by omega)
  have cb3_12 : w3.cell? ⟨w1.heap.size, 12, none⟩ = some (.slice none 0 0) := r3.keep (by go_simp) (by omega)
  have fb3 : ∀ o, w3.frozen? ⟨w1.heap.size, o, none⟩ = false := r3.thaw (fun o => by go_simp) (by simp; try omega) (by omega)
  have z3 := r3.size
  simp at z3
  have hc3 := r3.c
  have hf3 := r3.f
  have R3 := r3.pre (R2.store hb (k := w1.heap.size) (by omega) 1 (.int .i64 (b2 (t1 l)))).g
  clear ca2_0 ca2_1 ca2_2 ca2_3 ca2_4 ca2_5 ca2_6 ca2_7 ca2_8 ca2_9 ca2_10 ca2_11 ca2_12 fa2 cb2_0 cb2_1 cb2_2 cb2_3 cb2_4 cb2_5 cb2_6 cb2_7 cb2_8 cb2_9 cb2_10 cb2_11 cb2_12 fb2 hc2 hf2
  go_wp2
  refine bodyPost_ret (v := rv (pRc 7 (t1 l)).kind (pRc 7 (t1 l)).seq (pRc 7 (t1 l)).it (pRc 7 (t1 l)).mks (.slice none 0 0) (.slice none 0 0)) (by simp [results, Try.results37, go_sem, rv, pRc, mk0, *]) rfl ⟨_, _, rfl, ?_, ?_, ?_, by simp [Value.ownBlock]⟩
  · exact (((((((((((((((((R3.store hb (k := w1.heap.size) (by omega) 2 (.int .i64 (pIt (t2 (t1 l))).sh)).store hb (k := w1.heap.size) (by omega) 3 (.int .i64 (pIt (t2 (t1 l))).nu)).store hb (k := w1.heap.size) (by omega) 4 (.float .f32 (pIt (t2 (t1 l))).pl)).store hb (k := w1.heap.size) (by omega) 5 (.float .f32 (pIt (t2 (t1 l))).sp)).store hb (k := w.heap.size) (by omega) _ _).store hb (k := w.heap.size) (by omega) _ _).store hb (k := w.heap.size) (by omega) _ _).store hb (k := w.heap.size) (by omega) _ _).store hb (k := w.heap.size) (by omega) _ _).store hb (k := w.heap.size) (by omega) _ _).store hb (k := w.heap.size) (by omega) _ _).store hb (k := w.heap.size) (by omega) _ _).store hb (k := w.heap.size) (by omega) _ _).store hb (k := w.heap.size) (by omega) _ _).store hb (k := w.heap.size) (by omega) _ _).store hb (k := w.heap.size) (by omega) _ _).store hb (k := w.heap.size) (by omega) _ _).g
  · simp only [pRc]; simp; exact OwnI.nil _ _
  · simp only [pRc]; simp; exact OwnE.nil _ _

end Go.Proofs.Ytammnaafdhhjaaa

/- Ytammnaafdhhjaaa: a record is read: one kind. -/
namespace Go.Proofs.Ytammnaafdhhjaaa
open Go.RowKit

set_option maxHeartbeats 4000000 in
theorem record_8 (l : List UInt8) (hK : Hid (b1 l = 8)) (b : Nat) (w : World) (h : w.cell? ⟨b, 0, none⟩ = some (.string (S l))) (hf : w.frozen? ⟨b, 0, none⟩ = false) :
    Calls Try.prog 37 #[.pointer (some ⟨b, 0, none⟩)] w fun e w' => RecPost b w (pRc 8 (t1 l)) e w' := by
  have hb : b < w.heap.size := World.block_lt_of_cell? w _ h
  have hsf := run_store_float
  go_enter Try.func37, Try.ntmps37
  go_wp2_with fail
  refine Calls.mono (oneByte_any l b _ ?_ ?_) ?_
  · go_simp
  · go_simp
  rintro e w1 ⟨rfl, r1⟩
  rw [hK.out]
  have ca1_0 : w1.cell? ⟨w.heap.size, 0, none⟩ = some (.int .i64 0) := r1.keep (by go_simp) (by omega)
  have ca1_1 : w1.cell? ⟨w.heap.size, 1, none⟩ = some (.int .i64 0) := r1.keep (by go_simp) (by omega)
  have ca1_2 : w1.cell? ⟨w.heap.size, 2, none⟩ = some (.int .i64 0) := r1.keep (by go_simp) (by omega)
  have ca1_3 : w1.cell? ⟨w.heap.size, 3, none⟩ = some (.int .i64 0) := r1.keep (by go_simp) (by omega)
  have ca1_4 : w1.cell? ⟨w.heap.size, 4, none⟩ = some (.float .f32 0) := r1.keep (by go_simp) (by omega)
  have ca1_5 : w1.cell? ⟨w.heap.size, 5, none⟩ = some (.float .f32 0) := r1.keep (by go_simp) (by omega)
  have ca1_6 : w1.cell? ⟨w.heap.size, 6, none⟩ = some (.int .i64 0) := r1.keep (by go_simp) (by omega)
  have ca1_7 : w1.cell? ⟨w.heap.size, 7, none⟩ = some (.int .i64 0) := r1.keep (by go_simp) (by omega)
  have ca1_8 : w1.cell? ⟨w.heap.size, 8, none⟩ = some (.int .i64 0) := r1.keep (by go_simp) (by omega)
  have ca1_9 : w1.cell? ⟨w.heap.size, 9, none⟩ = some (.int .i64 0) := r1.keep (by go_simp) (by omega)
  have ca1_10 : w1.cell? ⟨w.heap.size, 10, none⟩ = some (.int .i64 0) := r1.keep (by go_simp) (by omega)
  have ca1_11 : w1.cell? ⟨w.heap.size, 11, none⟩ = some (.slice none 0 0) := r1.keep (by go_simp) (by omega)
  have ca1_12 : w1.cell? ⟨w.heap.size, 12, none⟩ = some (.slice none 0 0) := r1.keep (by go_simp) (by omega)
  have fa1 : ∀ o, w1.frozen? ⟨w.heap.size, o, none⟩ = false := r1.thaw (fun o => by go_simp) (by simp; try omega) (by omega)
  have z1 := r1.size
  simp at z1
  have hc1 := r1.c
  have hf1 := r1.f
  have R1 := r1.pre (World.grownBy_alloc _ _ _)
  have y1 : b < w1.heap.size := by omega
  have x1 : w.heap.size < w1.heap.size := by omega
  have y2 : b ≠ w1.heap.size := by omega
  have x2 : w.heap.size ≠ w1.heap.size := by omega
  go_wp2_with fail
  refine Calls.mono (number_any (t1 l) b _ ?_ ?_) ?_
  · go_simp
  · go_simp
  rintro e w2 ⟨rfl, r2⟩
  have ca2_0 : w2.cell? ⟨w.heap.size, 0, none⟩ = some (.int .i64 0) := r2.keep (by go_simp) (by omega)
  have ca2_1 : w2.cell? ⟨w.heap.size, 1, none⟩ = some (.int .i64 0) := r2.keep (by go_simp) (by omega)
  have ca2_2 : w2.cell? ⟨w.heap.size, 2, none⟩ = some (.int .i64 0) := r2.keep (by go_simp) (by omega)
  have ca2_3 : w2.cell? ⟨w.heap.size, 3, none⟩ = some (.int .i64 0) := r2.keep (by go_simp) (by omega)
  have ca2_4 : w2.cell? ⟨w.heap.size, 4, none⟩ = some (.float .f32 0) := r2.keep (by go_simp) (by omega)
  have ca2_5 : w2.cell? ⟨w.heap.size, 5, none⟩ = some (.float .f32 0) := r2.keep (by go_simp) (by omega)
  have ca2_6 : w2.cell? ⟨w.heap.size, 6, none⟩ = some (.int .i64 0) := r2.keep (by go_simp) (by omega)
  have ca2_7 : w2.cell? ⟨w.heap.size, 7, none⟩ = some (.int .i64 0) := r2.keep (by go_simp) (by omega)
  have ca2_8 : w2.cell? ⟨w.heap.size, 8, none⟩ = some (.int .i64 0) := r2.keep (by go_simp) (by omega)
  have ca2_9 : w2.cell? ⟨w.heap.size, 9, none⟩ = some (.int .i64 0) := r2.keep (by go_simp) (by omega)
  have ca2_10 : w2.cell? ⟨w.heap.size, 10, none⟩ = some (.int .i64 0) := r2.keep (by go_simp) (by omega)
  have ca2_11 : w2.cell? ⟨w.heap.size, 11, none⟩ = some (.slice none 0 0) := r2.keep (by go_simp) (by omega)
  have ca2_12 : w2.cell? ⟨w.heap.size, 12, none⟩ = some (.slice none 0 0) := r2.keep (by go_simp) (by omega)
  have fa2 : ∀ o, w2.frozen? ⟨w.heap.size, o, none⟩ = false := r2.thaw (fun o => by go_simp) (by simp; try omega) (by omega)
  have cb2_0 : w2.cell? ⟨w1.heap.size, 0, none⟩ = some (.int .i64 (8)) := r2.keep (by go_simp) (by omega)
  have cb2_1 : w2.cell? ⟨w1.heap.size, 1, none⟩ = some (.int .i64 0) := r2.keep (by go_simp) (by omega)
  have cb2_2 : w2.cell? ⟨w1.heap.size, 2, none⟩ = some (.int .i64 0) := r2.keep (by go_simp) (by omega)
  have cb2_3 : w2.cell? ⟨w1.heap.size, 3, none⟩ = some (.int .i64 0) := r2.keep (by go_simp) (by omega)
  have cb2_4 : w2.cell? ⟨w1.heap.size, 4, none⟩ = some (.float .f32 0) := r2.keep (by go_simp) (by omega)
  have cb2_5 : w2.cell? ⟨w1.heap.size, 5, none⟩ = some (.float .f32 0) := r2.keep (by go_simp) (by omega)
  have cb2_6 : w2.cell? ⟨w1.heap.size, 6, none⟩ = some (.int .i64 0) := r2.keep (by go_simp) (by omega)
  have cb2_7 : w2.cell? ⟨w1.heap.size, 7, none⟩ = some (.int .i64 0) := r2.keep (by go_simp) (by omega)
  have cb2_8 : w2.cell? ⟨w1.heap.size, 8, none⟩ = some (.int .i64 0) := r2.keep (by go_simp) (by omega)
  have cb2_9 : w2.cell? ⟨w1.heap.size, 9, none⟩ = some (.int .i64 0) := r2.keep (by go_simp) (by omega)
  have cb2_10 : w2.cell? ⟨w1.heap.size, 10, none⟩ = some (.int .i64 0) := r2.keep (by go_simp) (by omega)
  have cb2_11 : w2.cell? ⟨w1.heap.size, 11, none⟩ = some (.slice none 0 0) := r2.keep (by go_simp) (by omega)
  have cb2_12 : w2.cell? ⟨w1.heap.size, 12, none⟩ = some (.slice none 0 0) := r2.keep (by go_simp) (by omega)
  have fb2 : ∀ o, w2.frozen? ⟨w1.heap.size, o, none⟩ = false := r2.thaw (fun o => by go_simp) (by simp; try omega) (by omega)
  have z2 := r2.size
  simp at z2
  have hc2 := r2.c
  have hf2 := r2.f
  have R2 := r2.pre (R1.alloc _).g
  clear ca1_0 ca1_1 ca1_2 ca1_3 ca1_4 ca1_5 ca1_6 ca1_7 ca1_8 ca1_9 ca1_10 ca1_11 ca1_12 fa1 hc1 hf1
  go_wp2
  refine bodyPost_ret (v := rv (pRc 8 (t1 l)).kind (pRc 8 (t1 l)).seq (pRc 8 (t1 l)).it (pRc 8 (t1 l)).mks (.slice none 0 0) (.slice none 0 0)) (by simp [results, Try.results37, go_sem, rv, pRc, it0, mk0, *]) rfl ⟨_, _, rfl, ?_, ?_, ?_, by simp [Value.ownBlock]⟩
  · exact ((((((((((((((R2.store hb (k := w1.heap.size) (by omega) 1 (.int .i64 (b2 (t1 l)))).store hb (k := w.heap.size) (by omega) _ _).store hb (k := w.heap.size) (by omega) _ _).store hb (k := w.heap.size) (by omega) _ _).store hb (k := w.heap.size) (by omega) _ _).store hb (k := w.heap.size) (by omega) _ _).store hb (k := w.heap.size) (by omega) _ _).store hb (k := w.heap.size) (by omega) _ _).store hb (k := w.heap.size) (by omega) _ _).store hb (k := w.heap.size) (by omega) _ _).store hb (k := w.heap.size) (by omega) _ _).store hb (k := w.heap.size) (by omega) _ _).store hb (k := w.heap.size) (by omega) _ _).store hb (k := w.heap.size) (by omega) _ _).g
  · simp only [pRc]; simp; exact OwnI.nil _ _
  · simp only [pRc]; simp; exact OwnE.nil _ _

end Go.Proofs.Ytammnaafdhhjaaa
