/- Ytammnaafdhhjaaa: the reader's calls: an ID, a thing, marks. -/
import Derived.Test.YtammnaafdhhjaaaW1
namespace Go.Proofs.Ytammnaafdhhjaaa
open Go.RowKit

structure It where
  sh : Int
  nu : Int
  pl : Nat
  sp : Nat
structure En where
  sq : Int
  it : It
structure Mk where
  g : Int
  m : Int
  s : Int
  a : Int
  n : Int
structure Rc where
  kind : Int
  seq : Int
  it : It
  mks : Mk
  items : List It
  outs : List En

def It.cells (i : It) : List Value := [.int .i64 i.sh, .int .i64 i.nu, .float .f32 i.pl, .float .f32 i.sp]
def En.cells (e : En) : List Value := [.int .i64 e.sq, .int .i64 e.it.sh, .int .i64 e.it.nu, .float .f32 e.it.pl, .float .f32 e.it.sp]

def pIt (l : List UInt8) : It := ⟨b1 l, b2 (t1 l), b4 (t2 (t1 l)), b4 (t4 (t2 (t1 l)))⟩
def tIt (l : List UInt8) : List UInt8 := t4 (t4 (t2 (t1 l)))
def pMk (l : List UInt8) : Mk := ⟨b2 l, b2 (t2 l), b2 (t2 (t2 l)), b2 (t2 (t2 (t2 l))), b2 (t2 (t2 (t2 (t2 l))))⟩
def tMk (l : List UInt8) : List UInt8 := t2 (t2 (t2 (t2 (t2 l))))

theorem Rd.keep {b : Nat} {w w' : World} {l : List UInt8} (r : Rd b w w' l) {k o : Nat} {v : Value} (h : w.cell? ⟨k, o, none⟩ = some v) (hne : k ≠ b) : w'.cell? ⟨k, o, none⟩ = some v :=
  r.g.cell h (by intro e; injection e with e; exact hne e)
theorem Rd.thaw {b : Nat} {w w' : World} {l : List UInt8} (r : Rd b w w' l) {k : Nat} (h : ∀ o, w.frozen? ⟨k, o, none⟩ = false) (hk : k < w.heap.size) (hne : k ≠ b) : ∀ o, w'.frozen? ⟨k, o, none⟩ = false := by
  intro o
  rw [World.frozen?_of_block (a := ⟨k, o, none⟩) (r.g.block k hk (by intro e; injection e with e; exact hne e))]; exact h o
theorem Rd.size {b : Nat} {w w' : World} {l : List UInt8} (r : Rd b w w' l) : w.heap.size ≤ w'.heap.size := r.g.size
theorem grownBy_none {w w' : World} (h : w.grownBy w' none) (row : Option Nat) : w.grownBy w' row := ⟨h.os, h.tape, h.output, h.size, fun k hk _ => h.block k hk (by simp)⟩
theorem grownBy_store {w w' : World} {row : Option Nat} (h : w.grownBy w' row) {k : Nat} (hk : w.heap.size ≤ k) (o : Nat) (u : Value) : w.grownBy (w'.setCell ⟨k, o, none⟩ u) row :=
  ⟨h.os, h.tape, h.output, by simpa [World.setCell] using h.size, fun i hi hne => (Below.heap_setCell _ _ _ _ (by simp; omega)).trans (h.block i hi hne)⟩
theorem grownBy_alloc' {w w' : World} {row : Option Nat} (h : w.grownBy w' row) (o : Obj) : w.grownBy (w'.alloc o) row := h.trans (World.grownBy_alloc _ _ _)
theorem Rd.pre {b : Nat} {w W w' : World} {l : List UInt8} (h : w.grownBy W (some b)) (r : Rd b W w' l) : Rd b w w' l := ⟨h.trans r.g, r.c, r.f⟩
theorem Rd.store {b : Nat} {w w' : World} {l : List UInt8} (r : Rd b w w' l) (hb : b < w.heap.size) {k : Nat} (hk : w.heap.size ≤ k) (o : Nat) (u : Value) : Rd b w (w'.setCell ⟨k, o, none⟩ u) l := by
  have hne : b ≠ k := by omega
  have hbl := Below.heap_setCell w' ⟨k, o, none⟩ u b hne
  exact ⟨grownBy_store r.g hk o u, (World.cell?_of_block (a := ⟨b, 0, none⟩) hbl).trans r.c, (World.frozen?_of_block (a := ⟨b, 0, none⟩) hbl).trans r.f⟩
theorem Rd.alloc {b : Nat} {w w' : World} {l : List UInt8} (r : Rd b w w' l) (o : Obj) : Rd b w (w'.alloc o) l := by
  have hbl := Below.heap_alloc w' o b (World.block_lt_of_cell? w' _ r.c)
  exact ⟨grownBy_alloc' r.g o, (World.cell?_of_block (a := ⟨b, 0, none⟩) hbl).trans r.c, (World.frozen?_of_block (a := ⟨b, 0, none⟩) hbl).trans r.f⟩

set_option maxHeartbeats 1000000 in
theorem id_any (l : List UInt8) (b : Nat) (w : World) (h : w.cell? ⟨b, 0, none⟩ = some (.string (S l))) (hf : w.frozen? ⟨b, 0, none⟩ = false) :
    Calls Try.prog 63 #[.pointer (some ⟨b, 0, none⟩)] w fun e w' => e = .returned (.agg #[.int .i64 (b1 l), .int .i64 (b2 (t1 l))]) ∧ Rd b w w' (t2 (t1 l)) := by
  have hb : b < w.heap.size := World.block_lt_of_cell? w _ h
  go_enter Try.func63, Try.ntmps63
  go_wp2_with fail
  refine Calls.mono (oneByte_any (l) b _ ?_ ?_) ?_
  · go_simp
  · go_simp
  rintro e w1 ⟨rfl, r1⟩
  have c1_0_0 : w1.cell? ⟨w.heap.size, 0, none⟩ = some (.int .i64 0) := r1.keep (by go_simp) (by omega)
  have c1_0_1 : w1.cell? ⟨w.heap.size, 1, none⟩ = some (.int .i64 0) := r1.keep (by go_simp) (by omega)
  have f1_0 : ∀ o, w1.frozen? ⟨w.heap.size, o, none⟩ = false := r1.thaw (fun o => by go_simp) (by simp; try omega) (by omega)
  have c1_1_0 : w1.cell? ⟨w.heap.size + 1, 0, none⟩ = some (.int .i64 0) := r1.keep (by go_simp) (by omega)
  have c1_1_1 : w1.cell? ⟨w.heap.size + 1, 1, none⟩ = some (.int .i64 0) := r1.keep (by go_simp) (by omega)
  have f1_1 : ∀ o, w1.frozen? ⟨w.heap.size + 1, o, none⟩ = false := r1.thaw (fun o => by go_simp) (by simp; try omega) (by omega)
  have z1 := r1.size
  simp at z1
  have hc1 := r1.c
  have hf1 := r1.f
  go_wp2_with fail
  refine Calls.mono (number_any (t1 l) b _ ?_ ?_) ?_
  · go_simp
  · go_simp
  rintro e w2 ⟨rfl, r2⟩
  have c2_0_0 : w2.cell? ⟨w.heap.size, 0, none⟩ = some (.int .i64 0) := r2.keep (by go_simp) (by omega)
  have c2_0_1 : w2.cell? ⟨w.heap.size, 1, none⟩ = some (.int .i64 0) := r2.keep (by go_simp) (by omega)
  have f2_0 : ∀ o, w2.frozen? ⟨w.heap.size, o, none⟩ = false := r2.thaw (fun o => by go_simp) (by simp; try omega) (by omega)
  have c2_1_0 : w2.cell? ⟨w.heap.size + 1, 0, none⟩ = some (.int .i64 (b1 l)) := r2.keep (by go_simp) (by omega)
  have c2_1_1 : w2.cell? ⟨w.heap.size + 1, 1, none⟩ = some (.int .i64 0) := r2.keep (by go_simp) (by omega)
  have f2_1 : ∀ o, w2.frozen? ⟨w.heap.size + 1, o, none⟩ = false := r2.thaw (fun o => by go_simp) (by simp; try omega) (by omega)
  have z2 := r2.size
  simp at z2
  have hc2 := r2.c
  have hf2 := r2.f
  clear c1_0_0 c1_0_1 f1_0 c1_1_0 c1_1_1 f1_1 hc1 hf1
  go_wp2
  refine bodyPost_ret (v := .agg #[.int .i64 (b1 l), .int .i64 (b2 (t1 l))]) (by simp [results, Try.results63, go_sem,  *]) rfl ⟨rfl, ?_⟩
  have R1 := r1.pre (grownBy_alloc' (World.grownBy_alloc _ _ _) _)
  have R2 := r2.pre (R1.store hb (k := w.heap.size + 1) (by omega) 0 (.int .i64 (b1 l))).g
  exact (((R2.store hb (k := w.heap.size + 1) (by omega) 1 (.int .i64 (b2 (t1 l)))).store hb (by omega) _ _).store hb (by omega) _ _)

set_option maxHeartbeats 1000000 in
theorem thing_any (l : List UInt8) (b : Nat) (w : World) (h : w.cell? ⟨b, 0, none⟩ = some (.string (S l))) (hf : w.frozen? ⟨b, 0, none⟩ = false) :
    Calls Try.prog 62 #[.pointer (some ⟨b, 0, none⟩)] w fun e w' => e = .returned (.agg #[.int .i64 (pIt l).sh, .int .i64 (pIt l).nu, .float .f32 (pIt l).pl, .float .f32 (pIt l).sp]) ∧ Rd b w w' (tIt l) := by
  have hb : b < w.heap.size := World.block_lt_of_cell? w _ h
  have hsf := run_store_float
  go_enter Try.func62, Try.ntmps62
  go_wp2_with fail
  refine Calls.mono (id_any (l) b _ ?_ ?_) ?_
  · go_simp
  · go_simp
  rintro e w1 ⟨rfl, r1⟩
  have c1_0_0 : w1.cell? ⟨w.heap.size, 0, none⟩ = some (.int .i64 0) := r1.keep (by go_simp) (by omega)
  have c1_0_1 : w1.cell? ⟨w.heap.size, 1, none⟩ = some (.int .i64 0) := r1.keep (by go_simp) (by omega)
  have c1_0_2 : w1.cell? ⟨w.heap.size, 2, none⟩ = some (.float .f32 0) := r1.keep (by go_simp) (by omega)
  have c1_0_3 : w1.cell? ⟨w.heap.size, 3, none⟩ = some (.float .f32 0) := r1.keep (by go_simp) (by omega)
  have f1_0 : ∀ o, w1.frozen? ⟨w.heap.size, o, none⟩ = false := r1.thaw (fun o => by go_simp) (by simp; try omega) (by omega)
  have c1_1_0 : w1.cell? ⟨w.heap.size + 1, 0, none⟩ = some (.int .i64 0) := r1.keep (by go_simp) (by omega)
  have c1_1_1 : w1.cell? ⟨w.heap.size + 1, 1, none⟩ = some (.int .i64 0) := r1.keep (by go_simp) (by omega)
  have c1_1_2 : w1.cell? ⟨w.heap.size + 1, 2, none⟩ = some (.float .f32 0) := r1.keep (by go_simp) (by omega)
  have c1_1_3 : w1.cell? ⟨w.heap.size + 1, 3, none⟩ = some (.float .f32 0) := r1.keep (by go_simp) (by omega)
  have f1_1 : ∀ o, w1.frozen? ⟨w.heap.size + 1, o, none⟩ = false := r1.thaw (fun o => by go_simp) (by simp; try omega) (by omega)
  have z1 := r1.size
  simp at z1
  have hc1 := r1.c
  have hf1 := r1.f
  go_wp2_with fail
  refine Calls.mono (float_any (t2 (t1 l)) b _ ?_ ?_) ?_
  · go_simp
  · go_simp
  rintro e w2 ⟨rfl, r2⟩
  have c2_0_0 : w2.cell? ⟨w.heap.size, 0, none⟩ = some (.int .i64 0) := r2.keep (by go_simp) (by omega)
  have c2_0_1 : w2.cell? ⟨w.heap.size, 1, none⟩ = some (.int .i64 0) := r2.keep (by go_simp) (by omega)
  have c2_0_2 : w2.cell? ⟨w.heap.size, 2, none⟩ = some (.float .f32 0) := r2.keep (by go_simp) (by omega)
  have c2_0_3 : w2.cell? ⟨w.heap.size, 3, none⟩ = some (.float .f32 0) := r2.keep (by go_simp) (by omega)
  have f2_0 : ∀ o, w2.frozen? ⟨w.heap.size, o, none⟩ = false := r2.thaw (fun o => by go_simp) (by simp; try omega) (by omega)
  have c2_1_0 : w2.cell? ⟨w.heap.size + 1, 0, none⟩ = some (.int .i64 (b1 l)) := r2.keep (by go_simp) (by omega)
  have c2_1_1 : w2.cell? ⟨w.heap.size + 1, 1, none⟩ = some (.int .i64 (b2 (t1 l))) := r2.keep (by go_simp) (by omega)
  have c2_1_2 : w2.cell? ⟨w.heap.size + 1, 2, none⟩ = some (.float .f32 0) := r2.keep (by go_simp) (by omega)
  have c2_1_3 : w2.cell? ⟨w.heap.size + 1, 3, none⟩ = some (.float .f32 0) := r2.keep (by go_simp) (by omega)
  have f2_1 : ∀ o, w2.frozen? ⟨w.heap.size + 1, o, none⟩ = false := r2.thaw (fun o => by go_simp) (by simp; try omega) (by omega)
  have z2 := r2.size
  simp at z2
  have hc2 := r2.c
  have hf2 := r2.f
  clear c1_0_0 c1_0_1 c1_0_2 c1_0_3 f1_0 c1_1_0 c1_1_1 c1_1_2 c1_1_3 f1_1 hc1 hf1
  go_wp2_with fail
  refine Calls.mono (float_any (t4 (t2 (t1 l))) b _ ?_ ?_) ?_
  · go_simp
  · go_simp
  rintro e w3 ⟨rfl, r3⟩
  have c3_0_0 : w3.cell? ⟨w.heap.size, 0, none⟩ = some (.int .i64 0) := r3.keep (by go_simp) (by omega)
  have c3_0_1 : w3.cell? ⟨w.heap.size, 1, none⟩ = some (.int .i64 0) := r3.keep (by go_simp) (by omega)
  have c3_0_2 : w3.cell? ⟨w.heap.size, 2, none⟩ = some (.float .f32 0) := r3.keep (by go_simp) (by omega)
  have c3_0_3 : w3.cell? ⟨w.heap.size, 3, none⟩ = some (.float .f32 0) := r3.keep (by go_simp) (by omega)
  have f3_0 : ∀ o, w3.frozen? ⟨w.heap.size, o, none⟩ = false := r3.thaw (fun o => by go_simp) (by simp; try omega) (by omega)
  have c3_1_0 : w3.cell? ⟨w.heap.size + 1, 0, none⟩ = some (.int .i64 (b1 l)) := r3.keep (by go_simp) (by omega)
  have c3_1_1 : w3.cell? ⟨w.heap.size + 1, 1, none⟩ = some (.int .i64 (b2 (t1 l))) := r3.keep (by go_simp) (by omega)
  have c3_1_2 : w3.cell? ⟨w.heap.size + 1, 2, none⟩ = some (.float .f32 (b4 (t2 (t1 l)))) := r3.keep (by go_simp) (by omega)
  have c3_1_3 : w3.cell? ⟨w.heap.size + 1, 3, none⟩ = some (.float .f32 0) := r3.keep (by go_simp) (by omega)
  have f3_1 : ∀ o, w3.frozen? ⟨w.heap.size + 1, o, none⟩ = false := r3.thaw (fun o => by go_simp) (by simp; try omega) (by omega)
  have z3 := r3.size
  simp at z3
  have hc3 := r3.c
  have hf3 := r3.f
  clear c2_0_0 c2_0_1 c2_0_2 c2_0_3 f2_0 c2_1_0 c2_1_1 c2_1_2 c2_1_3 f2_1 hc2 hf2
  go_wp2
  refine bodyPost_ret (v := .agg #[.int .i64 (pIt l).sh, .int .i64 (pIt l).nu, .float .f32 (pIt l).pl, .float .f32 (pIt l).sp]) (by simp [results, Try.results62, go_sem, pIt, *]) rfl ⟨rfl, ?_⟩
  have R1 := r1.pre (grownBy_alloc' (World.grownBy_alloc _ _ _) _)
  have R2 := r2.pre ((R1.store hb (k := w.heap.size + 1) (by omega) 0 (.int .i64 (b1 l))).store hb (k := w.heap.size + 1) (by omega) 1 (.int .i64 (b2 (t1 l)))).g
  have R3 := r3.pre (R2.store hb (k := w.heap.size + 1) (by omega) 2 (.float .f32 (b4 (t2 (t1 l))))).g
  exact (((((R3.store hb (k := w.heap.size + 1) (by omega) 3 (.float .f32 (b4 (t4 (t2 (t1 l)))))).store hb (by omega) _ _).store hb (by omega) _ _).store hb (by omega) _ _).store hb (by omega) _ _)

set_option maxHeartbeats 1000000 in
theorem marks_any (l : List UInt8) (b : Nat) (w : World) (h : w.cell? ⟨b, 0, none⟩ = some (.string (S l))) (hf : w.frozen? ⟨b, 0, none⟩ = false) :
    Calls Try.prog 64 #[.pointer (some ⟨b, 0, none⟩)] w fun e w' => e = .returned (.agg #[.int .i64 (pMk l).g, .int .i64 (pMk l).m, .int .i64 (pMk l).s, .int .i64 (pMk l).a, .int .i64 (pMk l).n]) ∧ Rd b w w' (tMk l) := by
  have hb : b < w.heap.size := World.block_lt_of_cell? w _ h
  go_enter Try.func64, Try.ntmps64
  go_wp2_with fail
  refine Calls.mono (number_any (l) b _ ?_ ?_) ?_
  · go_simp
  · go_simp
  rintro e w1 ⟨rfl, r1⟩
  have c1_0_0 : w1.cell? ⟨w.heap.size, 0, none⟩ = some (.int .i64 0) := r1.keep (by go_simp) (by omega)
  have c1_0_1 : w1.cell? ⟨w.heap.size, 1, none⟩ = some (.int .i64 0) := r1.keep (by go_simp) (by omega)
  have c1_0_2 : w1.cell? ⟨w.heap.size, 2, none⟩ = some (.int .i64 0) := r1.keep (by go_simp) (by omega)
  have c1_0_3 : w1.cell? ⟨w.heap.size, 3, none⟩ = some (.int .i64 0) := r1.keep (by go_simp) (by omega)
  have c1_0_4 : w1.cell? ⟨w.heap.size, 4, none⟩ = some (.int .i64 0) := r1.keep (by go_simp) (by omega)
  have f1_0 : ∀ o, w1.frozen? ⟨w.heap.size, o, none⟩ = false := r1.thaw (fun o => by go_simp) (by simp; try omega) (by omega)
  have c1_1_0 : w1.cell? ⟨w.heap.size + 1, 0, none⟩ = some (.int .i64 0) := r1.keep (by go_simp) (by omega)
  have c1_1_1 : w1.cell? ⟨w.heap.size + 1, 1, none⟩ = some (.int .i64 0) := r1.keep (by go_simp) (by omega)
  have c1_1_2 : w1.cell? ⟨w.heap.size + 1, 2, none⟩ = some (.int .i64 0) := r1.keep (by go_simp) (by omega)
  have c1_1_3 : w1.cell? ⟨w.heap.size + 1, 3, none⟩ = some (.int .i64 0) := r1.keep (by go_simp) (by omega)
  have c1_1_4 : w1.cell? ⟨w.heap.size + 1, 4, none⟩ = some (.int .i64 0) := r1.keep (by go_simp) (by omega)
  have f1_1 : ∀ o, w1.frozen? ⟨w.heap.size + 1, o, none⟩ = false := r1.thaw (fun o => by go_simp) (by simp; try omega) (by omega)
  have z1 := r1.size
  simp at z1
  have hc1 := r1.c
  have hf1 := r1.f
  go_wp2_with fail
  refine Calls.mono (number_any (t2 l) b _ ?_ ?_) ?_
  · go_simp
  · go_simp
  rintro e w2 ⟨rfl, r2⟩
  have c2_0_0 : w2.cell? ⟨w.heap.size, 0, none⟩ = some (.int .i64 0) := r2.keep (by go_simp) (by omega)
  have c2_0_1 : w2.cell? ⟨w.heap.size, 1, none⟩ = some (.int .i64 0) := r2.keep (by go_simp) (by omega)
  have c2_0_2 : w2.cell? ⟨w.heap.size, 2, none⟩ = some (.int .i64 0) := r2.keep (by go_simp) (by omega)
  have c2_0_3 : w2.cell? ⟨w.heap.size, 3, none⟩ = some (.int .i64 0) := r2.keep (by go_simp) (by omega)
  have c2_0_4 : w2.cell? ⟨w.heap.size, 4, none⟩ = some (.int .i64 0) := r2.keep (by go_simp) (by omega)
  have f2_0 : ∀ o, w2.frozen? ⟨w.heap.size, o, none⟩ = false := r2.thaw (fun o => by go_simp) (by simp; try omega) (by omega)
  have c2_1_0 : w2.cell? ⟨w.heap.size + 1, 0, none⟩ = some (.int .i64 (b2 (l))) := r2.keep (by go_simp) (by omega)
  have c2_1_1 : w2.cell? ⟨w.heap.size + 1, 1, none⟩ = some (.int .i64 0) := r2.keep (by go_simp) (by omega)
  have c2_1_2 : w2.cell? ⟨w.heap.size + 1, 2, none⟩ = some (.int .i64 0) := r2.keep (by go_simp) (by omega)
  have c2_1_3 : w2.cell? ⟨w.heap.size + 1, 3, none⟩ = some (.int .i64 0) := r2.keep (by go_simp) (by omega)
  have c2_1_4 : w2.cell? ⟨w.heap.size + 1, 4, none⟩ = some (.int .i64 0) := r2.keep (by go_simp) (by omega)
  have f2_1 : ∀ o, w2.frozen? ⟨w.heap.size + 1, o, none⟩ = false := r2.thaw (fun o => by go_simp) (by simp; try omega) (by omega)
  have z2 := r2.size
  simp at z2
  have hc2 := r2.c
  have hf2 := r2.f
  clear c1_0_0 c1_0_1 c1_0_2 c1_0_3 c1_0_4 f1_0 c1_1_0 c1_1_1 c1_1_2 c1_1_3 c1_1_4 f1_1 hc1 hf1
  go_wp2_with fail
  refine Calls.mono (number_any (t2 (t2 l)) b _ ?_ ?_) ?_
  · go_simp
  · go_simp
  rintro e w3 ⟨rfl, r3⟩
  have c3_0_0 : w3.cell? ⟨w.heap.size, 0, none⟩ = some (.int .i64 0) := r3.keep (by go_simp) (by omega)
  have c3_0_1 : w3.cell? ⟨w.heap.size, 1, none⟩ = some (.int .i64 0) := r3.keep (by go_simp) (by omega)
  have c3_0_2 : w3.cell? ⟨w.heap.size, 2, none⟩ = some (.int .i64 0) := r3.keep (by go_simp) (by omega)
  have c3_0_3 : w3.cell? ⟨w.heap.size, 3, none⟩ = some (.int .i64 0) := r3.keep (by go_simp) (by omega)
  have c3_0_4 : w3.cell? ⟨w.heap.size, 4, none⟩ = some (.int .i64 0) := r3.keep (by go_simp) (by omega)
  have f3_0 : ∀ o, w3.frozen? ⟨w.heap.size, o, none⟩ = false := r3.thaw (fun o => by go_simp) (by simp; try omega) (by omega)
  have c3_1_0 : w3.cell? ⟨w.heap.size + 1, 0, none⟩ = some (.int .i64 (b2 (l))) := r3.keep (by go_simp) (by omega)
  have c3_1_1 : w3.cell? ⟨w.heap.size + 1, 1, none⟩ = some (.int .i64 (b2 (t2 l))) := r3.keep (by go_simp) (by omega)
  have c3_1_2 : w3.cell? ⟨w.heap.size + 1, 2, none⟩ = some (.int .i64 0) := r3.keep (by go_simp) (by omega)
  have c3_1_3 : w3.cell? ⟨w.heap.size + 1, 3, none⟩ = some (.int .i64 0) := r3.keep (by go_simp) (by omega)
  have c3_1_4 : w3.cell? ⟨w.heap.size + 1, 4, none⟩ = some (.int .i64 0) := r3.keep (by go_simp) (by omega)
  have f3_1 : ∀ o, w3.frozen? ⟨w.heap.size + 1, o, none⟩ = false := r3.thaw (fun o => by go_simp) (by simp; try omega) (by omega)
  have z3 := r3.size
  simp at z3
  have hc3 := r3.c
  have hf3 := r3.f
  clear c2_0_0 c2_0_1 c2_0_2 c2_0_3 c2_0_4 f2_0 c2_1_0 c2_1_1 c2_1_2 c2_1_3 c2_1_4 f2_1 hc2 hf2
  go_wp2_with fail
  refine Calls.mono (number_any (t2 (t2 (t2 l))) b _ ?_ ?_) ?_
  · go_simp
  · go_simp
  rintro e w4 ⟨rfl, r4⟩
  have c4_0_0 : w4.cell? ⟨w.heap.size, 0, none⟩ = some (.int .i64 0) := r4.keep (by go_simp) (by omega)
  have c4_0_1 : w4.cell? ⟨w.heap.size, 1, none⟩ = some (.int .i64 0) := r4.keep (by go_simp) (by omega)
  have c4_0_2 : w4.cell? ⟨w.heap.size, 2, none⟩ = some (.int .i64 0) := r4.keep (by go_simp) (by omega)
  have c4_0_3 : w4.cell? ⟨w.heap.size, 3, none⟩ = some (.int .i64 0) := r4.keep (by go_simp) (by omega)
  have c4_0_4 : w4.cell? ⟨w.heap.size, 4, none⟩ = some (.int .i64 0) := r4.keep (by go_simp) (by omega)
  have f4_0 : ∀ o, w4.frozen? ⟨w.heap.size, o, none⟩ = false := r4.thaw (fun o => by go_simp) (by simp; try omega) (by omega)
  have c4_1_0 : w4.cell? ⟨w.heap.size + 1, 0, none⟩ = some (.int .i64 (b2 (l))) := r4.keep (by go_simp) (by omega)
  have c4_1_1 : w4.cell? ⟨w.heap.size + 1, 1, none⟩ = some (.int .i64 (b2 (t2 l))) := r4.keep (by go_simp) (by omega)
  have c4_1_2 : w4.cell? ⟨w.heap.size + 1, 2, none⟩ = some (.int .i64 (b2 (t2 (t2 l)))) := r4.keep (by go_simp) (by omega)
  have c4_1_3 : w4.cell? ⟨w.heap.size + 1, 3, none⟩ = some (.int .i64 0) := r4.keep (by go_simp) (by omega)
  have c4_1_4 : w4.cell? ⟨w.heap.size + 1, 4, none⟩ = some (.int .i64 0) := r4.keep (by go_simp) (by omega)
  have f4_1 : ∀ o, w4.frozen? ⟨w.heap.size + 1, o, none⟩ = false := r4.thaw (fun o => by go_simp) (by simp; try omega) (by omega)
  have z4 := r4.size
  simp at z4
  have hc4 := r4.c
  have hf4 := r4.f
  clear c3_0_0 c3_0_1 c3_0_2 c3_0_3 c3_0_4 f3_0 c3_1_0 c3_1_1 c3_1_2 c3_1_3 c3_1_4 f3_1 hc3 hf3
  go_wp2_with fail
  refine Calls.mono (number_any (t2 (t2 (t2 (t2 l)))) b _ ?_ ?_) ?_
  · go_simp
  · go_simp
  rintro e w5 ⟨rfl, r5⟩
  have c5_0_0 : w5.cell? ⟨w.heap.size, 0, none⟩ = some (.int .i64 0) := r5.keep (by go_simp) (by omega)
  have c5_0_1 : w5.cell? ⟨w.heap.size, 1, none⟩ = some (.int .i64 0) := r5.keep (by go_simp) (by omega)
  have c5_0_2 : w5.cell? ⟨w.heap.size, 2, none⟩ = some (.int .i64 0) := r5.keep (by go_simp) (by omega)
  have c5_0_3 : w5.cell? ⟨w.heap.size, 3, none⟩ = some (.int .i64 0) := r5.keep (by go_simp) (by omega)
  have c5_0_4 : w5.cell? ⟨w.heap.size, 4, none⟩ = some (.int .i64 0) := r5.keep (by go_simp) (by omega)
  have f5_0 : ∀ o, w5.frozen? ⟨w.heap.size, o, none⟩ = false := r5.thaw (fun o => by go_simp) (by simp; try omega) (by omega)
  have c5_1_0 : w5.cell? ⟨w.heap.size + 1, 0, none⟩ = some (.int .i64 (b2 (l))) := r5.keep (by go_simp) (by omega)
  have c5_1_1 : w5.cell? ⟨w.heap.size + 1, 1, none⟩ = some (.int .i64 (b2 (t2 l))) := r5.keep (by go_simp) (by omega)
  have c5_1_2 : w5.cell? ⟨w.heap.size + 1, 2, none⟩ = some (.int .i64 (b2 (t2 (t2 l)))) := r5.keep (by go_simp) (by omega)
  have c5_1_3 : w5.cell? ⟨w.heap.size + 1, 3, none⟩ = some (.int .i64 (b2 (t2 (t2 (t2 l))))) := r5.keep (by go_simp) (by omega)
  have c5_1_4 : w5.cell? ⟨w.heap.size + 1, 4, none⟩ = some (.int .i64 0) := r5.keep (by go_simp) (by omega)
  have f5_1 : ∀ o, w5.frozen? ⟨w.heap.size + 1, o, none⟩ = false := r5.thaw (fun o => by go_simp) (by simp; try omega) (by omega)
  have z5 := r5.size
  simp at z5
  have hc5 := r5.c
  have hf5 := r5.f
  clear c4_0_0 c4_0_1 c4_0_2 c4_0_3 c4_0_4 f4_0 c4_1_0 c4_1_1 c4_1_2 c4_1_3 c4_1_4 f4_1 hc4 hf4
  go_wp2
  refine bodyPost_ret (v := .agg #[.int .i64 (pMk l).g, .int .i64 (pMk l).m, .int .i64 (pMk l).s, .int .i64 (pMk l).a, .int .i64 (pMk l).n]) (by simp [results, Try.results64, go_sem, pMk, *]) rfl ⟨rfl, ?_⟩
  have R1 := r1.pre (grownBy_alloc' (World.grownBy_alloc _ _ _) _)
  have R2 := r2.pre (R1.store hb (k := w.heap.size + 1) (by omega) 0 (.int .i64 (b2 (l)))).g
  have R3 := r3.pre (R2.store hb (k := w.heap.size + 1) (by omega) 1 (.int .i64 (b2 (t2 l)))).g
  have R4 := r4.pre (R3.store hb (k := w.heap.size + 1) (by omega) 2 (.int .i64 (b2 (t2 (t2 l))))).g
  have R5 := r5.pre (R4.store hb (k := w.heap.size + 1) (by omega) 3 (.int .i64 (b2 (t2 (t2 (t2 l)))))).g
  exact ((((((R5.store hb (k := w.heap.size + 1) (by omega) 4 (.int .i64 (b2 (t2 (t2 (t2 (t2 l))))))).store hb (by omega) _ _).store hb (by omega) _ _).store hb (by omega) _ _).store hb (by omega) _ _).store hb (by omega) _ _)

end Go.Proofs.Ytammnaafdhhjaaa
