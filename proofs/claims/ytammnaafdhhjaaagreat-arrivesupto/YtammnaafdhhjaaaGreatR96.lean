import Derived.BigQuiet
import Derived.Deep.RegionLaw
import Derived.Maps.AppendAt
import Derived.Test.YtammnaafdhhjaaaGreatRows
import Derived.Test.YtammnaafdhhjaaaGreatR8
set_option maxHeartbeats 16000000
set_option maxRecDepth 100000
namespace Go.Proofs.YtammnaafdhhjaaaGreat
open Go.RowKit
def zc : List Value := [.int .i64 0, .int .i64 0, .int .i64 0, .int .i64 0, .float .f32 0, .float .f32 0, .int .i64 0, .int .i64 0, .int .i64 0, .int .i64 0, .int .i64 0, .slice none 0 0, .slice none 0 0]
def bc (m : Mk) (vi vo : Value) : List Value := [.int .i64 6, .int .i64 0, .int .i64 0, .int .i64 0, .float .f32 0, .float .f32 0, .int .i64 m.g, .int .i64 m.m, .int .i64 m.s, .int .i64 m.a, .int .i64 m.n, vi, vo]
theorem step_appE {ops : Array Oper} {o : Oper} {a : Act} {w : World} {K : Act -> World -> Prop} {Q : Exit -> Act -> World -> Prop} {E : Prop} (hg : o.guard = none) (s x : Operand)
  (hop : o.op = Op.call { callee := Callee.builtin Builtin.append, args := #[s, x], argTypes := #[49, 49] })
  (B : Nat) (v : Value) (l : List En) (hs : a.eval s = v) (hown : OwnE B w v l) (ad : Addr) (i : En) (hx : a.eval x = .slice (some ad) 1 1)
  (hnews : ∀ j u, i.cells[j]? = some u -> w.cell? (ad.add j) = some u) (hl : l.length + 1 <= 1000000) (hB : B <= w.heap.size)
  (hK : ∀ v' w', OwnE B w' v' (l ++ [i]) -> w.grownBy w' v.ownBlock -> (v'.ownBlock = v.ownBlock ∨ v'.ownBlock = some w.heap.size) -> K (a.put o.dst v') w') :
  if Region.wanted o (yielded ops a.tmps) = true then Oper.wp Tryz.prog o a w K Q else E := by
 have hw : Region.wanted o (yielded ops a.tmps) = true := by simp [Region.wanted, hg]
 rw [if_pos hw]
 obtain ⟨i0, hi, hz0, hz1, hz2⟩ := infoEntry
 obtain ⟨v', w', hrun, r1, r2, _, r4⟩ := run_append_own_at (P := Tryz.prog) w B 49 o.type 87 i0 _ 5 32 Tryz.underlying49 hi hz0 hz1 hz2 rfl (by decide) v l.length (l.flatMap En.cells) hown ad 1 1 i.cells rfl hnews (by intro u hu; simp [En.cells] at hu; rcases hu with rfl | rfl | rfl | rfl | rfl <;> rfl) (by unfold maxLen; omega) (by omega) hB
 unfold Oper.wp
 simp [execOp, hop, resolve, invoke, builtin, hs, hx, hrun, Result.andThen]
 refine hK v' w' ?_ r2 r4
 unfold OwnE
 rw [List.length_append, List.flatMap_append, List.flatMap_singleton]
 exact r1
structure Bx (w wr : World) (m : Mk) (vi vo : Value) : Prop where
 g : w.grownBy wr none
 z : w.heap.size + 2 <= wr.heap.size
 a : ∀ j u, zc[j]? = some u -> wr.cell? ⟨w.heap.size, j, none⟩ = some u
 fa : ∀ o, wr.frozen? ⟨w.heap.size, o, none⟩ = false
 c : ∀ j u, (bc m vi vo)[j]? = some u -> wr.cell? ⟨w.heap.size + 1, j, none⟩ = some u
 fc : ∀ o, wr.frozen? ⟨w.heap.size + 1, o, none⟩ = false
theorem Bx.grow {w wr wr' : World} {m : Mk} {vi vo : Value} {row : Option Nat} (h : Bx w wr m vi vo) (g : wr.grownBy wr' row) (hr : ∀ k, row = some k -> w.heap.size + 2 <= k) : Bx w wr' m vi vo := by
 have hz := h.z
 have b0 := g.block w.heap.size (by omega) (fun e => by have := hr _ e.symm; omega)
 have b1 := g.block (w.heap.size + 1) (by omega) (fun e => by have := hr _ e.symm; omega)
 refine ⟨⟨g.os.trans h.g.os, g.tape.trans h.g.tape, g.output.trans h.g.output, Nat.le_trans h.g.size g.size, fun k hk _ => ?_⟩, Nat.le_trans h.z g.size, fun j u hu => ?_, fun o => ?_, fun j u hu => ?_, fun o => ?_⟩
 ·rw [g.block k (by omega) (fun e => by have := hr _ e.symm; omega), h.g.block k hk (by simp)]
 ·exact (World.cell?_of_block (a := ⟨w.heap.size, j, none⟩) b0).trans (h.a j u hu)
 ·exact (World.frozen?_of_block (a := ⟨w.heap.size, o, none⟩) b0).trans (h.fa o)
 ·exact (World.cell?_of_block (a := ⟨w.heap.size + 1, j, none⟩) b1).trans (h.c j u hu)
 ·exact (World.frozen?_of_block (a := ⟨w.heap.size + 1, o, none⟩) b1).trans (h.fc o)
theorem Bx.setI {w wr : World} {m : Mk} {vi vo : Value} (h : Bx w wr m vi vo) (v' : Value) : Bx w (wr.setCell ⟨w.heap.size + 1, 11, none⟩ v') m v' vo := by
 have hs : ∀ k, k ≠ w.heap.size + 1 -> (wr.setCell ⟨w.heap.size + 1, 11, none⟩ v').heap[k]? = wr.heap[k]? := fun k hk => Below.heap_setCell _ _ _ _ hk
 refine ⟨grownBy_store h.g (by omega) _ _, by simpa [World.setCell] using h.z, fun j u hu => (World.cell?_of_block (a := ⟨w.heap.size, j, none⟩) (hs w.heap.size (by omega))).trans (h.a j u hu), fun o => (World.frozen?_of_block (a := ⟨w.heap.size, o, none⟩) (hs w.heap.size (by omega))).trans (h.fa o), fun j u hu => ?_, fun o => ?_⟩
 ·by_cases hj : j = 11
  ·subst hj
   have hx : v' = u := by simpa [bc] using hu
   subst hx
   exact World.cell?_setCell_same' _ _ _ (by rw [h.c 11 vi rfl]; rfl)
  ·have hu' : (bc m vi vo)[j]? = some u := by
    have : j = 0 ∨ j = 1 ∨ j = 2 ∨ j = 3 ∨ j = 4 ∨ j = 5 ∨ j = 6 ∨ j = 7 ∨ j = 8 ∨ j = 9 ∨ j = 10 ∨ j = 12 := by
     have := (List.getElem?_eq_some_iff.1 hu).1; simp [bc] at this; omega
    rcases this with rfl | rfl | rfl | rfl | rfl | rfl | rfl | rfl | rfl | rfl | rfl | rfl <;> exact hu
   have hc := h.c j u hu'
   have hne : ¬ 11 = j := fun e => hj e.symm
   go_simp
 ·have := h.fc o
  go_simp
theorem Bx.setO {w wr : World} {m : Mk} {vi vo : Value} (h : Bx w wr m vi vo) (v' : Value) : Bx w (wr.setCell ⟨w.heap.size + 1, 12, none⟩ v') m vi v' := by
 have hs : ∀ k, k ≠ w.heap.size + 1 -> (wr.setCell ⟨w.heap.size + 1, 12, none⟩ v').heap[k]? = wr.heap[k]? := fun k hk => Below.heap_setCell _ _ _ _ hk
 refine ⟨grownBy_store h.g (by omega) _ _, by simpa [World.setCell] using h.z, fun j u hu => (World.cell?_of_block (a := ⟨w.heap.size, j, none⟩) (hs w.heap.size (by omega))).trans (h.a j u hu), fun o => (World.frozen?_of_block (a := ⟨w.heap.size, o, none⟩) (hs w.heap.size (by omega))).trans (h.fa o), fun j u hu => ?_, fun o => ?_⟩
 ·by_cases hj : j = 12
  ·subst hj
   have hx : v' = u := by simpa [bc] using hu
   subst hx
   exact World.cell?_setCell_same' _ _ _ (by rw [h.c 12 vo rfl]; rfl)
  ·have hu' : (bc m vi vo)[j]? = some u := by
    have : j = 0 ∨ j = 1 ∨ j = 2 ∨ j = 3 ∨ j = 4 ∨ j = 5 ∨ j = 6 ∨ j = 7 ∨ j = 8 ∨ j = 9 ∨ j = 10 ∨ j = 11 := by
     have := (List.getElem?_eq_some_iff.1 hu).1; simp [bc] at this; omega
    rcases this with rfl | rfl | rfl | rfl | rfl | rfl | rfl | rfl | rfl | rfl | rfl | rfl <;> exact hu
   have hc := h.c j u hu'
   have hne : ¬ 12 = j := fun e => hj e.symm
   go_simp
 ·have := h.fc o
  go_simp
end Go.Proofs.YtammnaafdhhjaaaGreat
