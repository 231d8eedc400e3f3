import Derived.Test.YtammnaafdhhjaaaGreatRows
import Derived.Test.YtammnaafdhhjaaaGreatJC4
import Derived.Test.YtammnaafdhhjaaaGreatB2
set_option maxHeartbeats 16000000
set_option maxRecDepth 100000
namespace Go.Proofs.YtammnaafdhhjaaaGreat
open Go.RowKit
structure Tx where
 s : ByteArray
def Tx.cells (t : Tx) : List Value := [.string t.s]
theorem cellsT_len (l : List Tx) : (l.flatMap Tx.cells).length = l.length * 1 := by
 induction l with
 | nil => rfl
 | cons a t ih => rw [List.flatMap_cons, List.length_append, ih, List.length_cons]; simp [Tx.cells]; omega
def OwnT (B : Nat) (w : World) (v : Value) (ts : List Tx) : Prop := w.ownsRow B 9 1 v ts.length (ts.flatMap Tx.cells)
theorem infoText : ∃ i, Tryz.prog.info? 9 = some i /\ i.zero = some (.string ⟨#[]⟩) /\ i.size = 1 /\ i.bytes = 16 := info_parts (by kernel_rfl)
def dg (q : Int) : UInt8 := u8 (48 + q % 10)
def txL : Nat -> Int -> List UInt8
 | 0, _ => [109, 97, 114, 107]
 | n + 1, k => txL n k ++ [dg (k / 10 ^ n)]
def txS (k : Int) : ByteArray := S (txL 8 k)
def mkTx (k : Int) : Tx := ⟨txS k⟩
def MkT (w : World) (v : Value) (n : Nat) (k : Int) (A : Nat -> Prop) : Prop :=
 ∃ a c, v = .slice a n c /\ (0 < n -> ∃ g, a = some ⟨g, 0, none⟩ /\ A g /\ ∀ j u, ((List.replicate n (mkTx k)).flatMap Tx.cells)[j]? = some u -> w.cell? ⟨g, j, none⟩ = some u)
structure GrpT (w wr : World) (B bk : Nat) (vI l : Value) (xs : List (Value × Int)) (k : Int) (n r : Nat) (ys : List Value) (vc lc : Value) : Prop where
 y : ys.length = r + 1
 c : wr.cell? ⟨bk, 2, none⟩ = some vc
 f : ∀ o, wr.frozen? ⟨bk, o, none⟩ = false
 row : wr.ownsRow B 106 2 vc (xs.length + (r + 1)) ((xs ++ ys.map (fun v => (v, k))).flatMap outC)
 vb : ∀ j, vc.ownBlock = some j -> vI.ownBlock = some j ∨ w.heap.size < j
 lst : wr.ownsRow B 9 1 lc (n + r) ((List.replicate (n + r) (mkTx k)).flatMap Tx.cells)
 lb : ∀ j, lc.ownBlock = some j -> l.ownBlock = some j ∨ w.heap.size < j
 sep : ∀ j, lc.ownBlock = some j -> vc.ownBlock ≠ some j
 m : ∀ i v, ys[i]? = some v -> MkT wr v (n + i) k (fun j => (l.ownBlock = some j ∨ w.heap.size < j) /\ vc.ownBlock ≠ some j /\ j < wr.heap.size)
 o : Only w wr (fun j => j = bk ∨ vI.ownBlock = some j ∨ l.ownBlock = some j)
 z : w.heap.size < wr.heap.size
 kc : ∀ j u, j ≠ 2 -> w.cell? ⟨bk, j, none⟩ = some u -> wr.cell? ⟨bk, j, none⟩ = some u
theorem MkT.step {w w' : World} {v : Value} {n : Nat} {k : Int} {A A' : Nat -> Prop} (h : MkT w v n k A) (hc : ∀ g j u, A g -> j < n * 1 -> w.cell? ⟨g, j, none⟩ = some u -> w'.cell? ⟨g, j, none⟩ = some u) (hA : ∀ g, A g -> A' g) : MkT w' v n k A' := by
 obtain ⟨a, c, rfl, hx⟩ := h
 refine ⟨a, c, rfl, fun hp => ?_⟩
 obtain ⟨g, rfl, hg, hcell⟩ := hx hp
 refine ⟨g, rfl, hA g hg, fun j u hu => hc g j u hg ?_ (hcell j u hu)⟩
 have := (List.getElem?_eq_some_iff.1 hu).1
 rw [cellsT_len, List.length_replicate] at this
 exact this
theorem MkT.of_own {w : World} {B : Nat} {v : Value} {n : Nat} {k : Int} {A : Nat -> Prop} (h : w.ownsRow B 9 1 v n ((List.replicate n (mkTx k)).flatMap Tx.cells)) (hA : ∀ j, v.ownBlock = some j -> A j) : MkT w v n k A := by
 rcases h.2 with ⟨rfl, rfl⟩ | ⟨g, cap, cur, rfl, _⟩
 ·exact ⟨none, 0, rfl, by omega⟩
 ·refine ⟨_, cap, rfl, fun _ => ⟨g, rfl, hA g rfl, fun j u hu => ?_⟩⟩
  have hj := (List.getElem?_eq_some_iff.1 hu).1
  rw [h.1] at hj
  exact (h.cellAt j hj).trans hu
theorem GrpT.next {w wr w2 w3 : World} {B bk : Nat} {vI l : Value} {xs : List (Value × Int)} {k : Int} {n r : Nat} {ys : List Value} {vc lc l2 v3 : Value} {o o' : Obj} (h : GrpT w wr B bk vI l xs k n r ys vc lc) (hbk : bk < w.heap.size) (hlb : l.ownBlock ≠ some bk) (hvb : vI.ownBlock ≠ some bk) 
  (g : (wr.alloc o).grownBy w2 lc.ownBlock) (r2 : w2.ownsRow B 9 1 l2 (n + r + 1) ((List.replicate (n + r) (mkTx k)).flatMap Tx.cells ++ (mkTx k).cells)) (b2 : ∀ j, l2.ownBlock = some j -> lc.ownBlock = some j ∨ (wr.alloc o).heap.size <= j) (kp : Keeps (wr.alloc o) w2 lc ((n + r) * 1))
  (g' : (w2.alloc o').grownBy w3 vc.ownBlock) (r3 : w3.ownsRow B 106 2 v3 (xs.length + (r + 1) + 1) ((xs ++ ys.map (fun v => (v, k))).flatMap outC ++ outC (l2, k))) (b3 : ∀ j, v3.ownBlock = some j -> vc.ownBlock = some j ∨ (w2.alloc o').heap.size <= j) :
  GrpT w (w3.setCell ⟨bk, 2, none⟩ v3) B bk vI l xs k n (r + 1) (ys ++ [l2]) v3 l2 := by
 have zr := h.z
 have z2 := g.size
 have z3 := g'.size
 simp at z2 z3
 have hlc : some bk ≠ lc.ownBlock := fun e => by
  rcases h.lb bk e.symm with e | e
  ·exact hlb e
  ·omega
 have hvc : some bk ≠ vc.ownBlock := fun e => by
  rcases h.vb bk e.symm with e | e
  ·exact hvb e
  ·omega
 have hbw : bk < wr.heap.size := by omega
 have c2 := keep_cell g h.c hlc
 have c3 := keep_cell g' c2 hvc
 have f2 := keep_frozen g h.f hlc (by simp; omega) hbw
 have f3 := keep_frozen g' f2 hvc (by simp; omega) (by omega)
 have hv3 : v3.ownBlock ≠ some bk := fun e => by
  rcases b3 bk e with e | e
  ·exact hvc e.symm
  ·simp at e; omega
 have hl2 : l2.ownBlock ≠ some bk := fun e => by
  rcases b2 bk e with e | e
  ·exact hlc e.symm
  ·simp at e; omega
 have lst : (w3.setCell ⟨bk, 2, none⟩ v3).ownsRow B 9 1 l2 (n + (r + 1)) ((List.replicate (n + (r + 1)) (mkTx k)).flatMap Tx.cells) := by
  have e : (List.replicate (n + (r + 1)) (mkTx k)).flatMap Tx.cells = (List.replicate (n + r) (mkTx k)).flatMap Tx.cells ++ (mkTx k).cells := by
   rw [show n + (r + 1) = (n + r) + 1 by omega, List.replicate_succ', List.flatMap_append, List.flatMap_singleton]
  rw [e]
  refine own_store (World.ownsRow.kept (World.ownsRow.alloc r2 _) g' ?_) _ _ _ hl2
  cases hq : l2.ownBlock with
  | none => exact .inl rfl
  | some j =>
   refine .inr (fun e => ?_)
   rcases b2 j hq with hj | hj
   ·exact h.sep j hj e.symm
   ·have := (h.row.lt j e.symm).2; simp at hj; omega
 have lb : ∀ j, l2.ownBlock = some j -> l.ownBlock = some j ∨ w.heap.size < j := fun j hj => by
  rcases b2 j hj with hj | hj
  ·exact h.lb j hj
  ·exact .inr (by simp at hj; omega)
 have sep : ∀ j, l2.ownBlock = some j -> v3.ownBlock ≠ some j := fun j hj e => by
  rcases b3 j e with hj3 | hj3
  ·rcases b2 j hj with hj2 | hj2
   ·exact h.sep j hj2 hj3
   ·have := (h.row.lt j hj3).2; simp at hj2; omega
  ·have := (r2.lt j hj).2; simp at hj3; omega
 refine ⟨by simp [h.y], World.cell?_setCell_same' _ _ _ (by rw [c3]; rfl), fun o => ?_, ?_, fun j hj => ?_, lst, lb, sep, fun i v hi => ?_, ?_, ?_, fun j u hj hu => cell_beside (keep_cell g' (keep_cell g (h.kc j u hj hu) hlc) hvc) hj⟩
 ·have := f3 o
  go_simp
 ·have e : (xs ++ (ys ++ [l2]).map (fun v => (v, k))).flatMap outC = (xs ++ ys.map (fun v => (v, k))).flatMap outC ++ outC (l2, k) := by
   rw [List.map_append, <- List.append_assoc, List.flatMap_append]; simp
  rw [e]
  exact own_store r3 _ _ _ hv3
 ·rcases b3 j hj with hj | hj
  ·exact h.vb j hj
  ·exact .inr (by simp at hj; omega)
 ·by_cases hiy : i < ys.length
  ·rw [List.getElem?_append_left hiy] at hi
   have hir : i <= r := by have := h.y; omega
   refine (h.m i v hi).step (fun g0 j u hA hj hc => ?_) (fun g0 hA => ⟨hA.1, fun e => ?_, ?_⟩)
   ·have h1 : (wr.alloc o).cell? ⟨g0, j, none⟩ = some u := (World.grownBy_alloc wr o none).cell hc (by simp)
    have h2 := kp g0 j u (fun _ => Nat.lt_of_lt_of_le hj (Nat.mul_le_mul_right _ (by omega))) h1
    have h3 : w3.cell? ⟨g0, j, none⟩ = some u := keep_cell g' h2 (fun e => hA.2.1 e.symm)
    have hne : g0 ≠ bk := fun e0 => by
     rcases hA.1 with e | e
     ·exact hlb (by rw [<- e0]; exact e)
     ·omega
    exact (Only.set w3 bk 2 v3).cell h3 hne
   ·rcases b3 g0 e with e | e
    ·exact hA.2.1 e
    ·have := hA.2.2; simp at e; omega
   ·have := hA.2.2; simp; omega
  ·have hie : i = ys.length := by
    have := (List.getElem?_eq_some_iff.1 hi).1
    simp at this; omega
   subst hie
   rw [List.getElem?_append_right (Nat.le_refl _)] at hi
   simp at hi
   subst hi
   rw [h.y]
   exact MkT.of_own lst (fun j hj => ⟨lb j hj, sep j hj, (lst.lt j hj).2⟩)
 ·refine h.o.trans ?_
  have q1 : Only wr w2 (fun j => (j = bk ∨ vI.ownBlock = some j ∨ l.ownBlock = some j) ∨ w.heap.size <= j) := ⟨g.os, g.tape, g.output, by omega, fun j hj hn => by
   rw [g.block j (by simp; omega) (fun e => by rcases h.lb j e.symm with e | e; exact hn (.inl (.inr (.inr e))); exact hn (.inr (by omega))), (World.grownBy_alloc wr o none).block j hj (by simp)]⟩
  have q2 : Only w2 w3 (fun j => (j = bk ∨ vI.ownBlock = some j ∨ l.ownBlock = some j) ∨ w.heap.size <= j) := ⟨g'.os, g'.tape, g'.output, by omega, fun j hj hn => by
   rw [g'.block j (by simp; omega) (fun e => by rcases h.vb j e.symm with e | e; exact hn (.inl (.inr (.inl e))); exact hn (.inr (by omega))), (World.grownBy_alloc w2 o' none).block j hj (by simp)]⟩
  exact (q1.trans (q2.mono (fun _ _ e => .inl e))).trans ((Only.set w3 bk 2 v3).mono (fun _ _ e => .inl (.inl (.inl e))))
 ·simp; omega
theorem GrpT.start {w wr w1 : World} {B bk : Nat} {vI l : Value} {xs : List (Value × Int)} {k : Int} {n : Nat} {v1 : Value} {o : Obj} (hbk : bk < w.heap.size) (hlb : l.ownBlock ≠ some bk) (hvb' : vI.ownBlock ≠ some bk) (hl : ∀ j, l.ownBlock = some j -> B <= j /\ j < w.heap.size)
  (ok : Only w wr (fun j => l.ownBlock = some j)) (z : w.heap.size < wr.heap.size) (rq : wr.ownsRow B 9 1 l n ((List.replicate n (mkTx k)).flatMap Tx.cells))
  (c : wr.cell? ⟨bk, 2, none⟩ = some vI) (f : ∀ o, wr.frozen? ⟨bk, o, none⟩ = false) (hs : ∀ j, l.ownBlock = some j -> vI.ownBlock ≠ some j)
  (g1 : (wr.alloc o).grownBy w1 vI.ownBlock) (r1 : w1.ownsRow B 106 2 v1 (xs.length + 1) (xs.flatMap outC ++ outC (l, k))) (h1 : ∀ j, v1.ownBlock = some j -> vI.ownBlock = some j ∨ (wr.alloc o).heap.size <= j) :
  GrpT w (w1.setCell ⟨bk, 2, none⟩ v1) B bk vI l xs k n 0 [l] v1 l := by
 have z1 := g1.size
 simp at z1
 have hvb : some bk ≠ vI.ownBlock := fun e => hvb' e.symm
 have c1 := keep_cell g1 c hvb
 have f1 := keep_frozen g1 f hvb (by simp; omega) (by omega)
 have lst : (w1.setCell ⟨bk, 2, none⟩ v1).ownsRow B 9 1 l n ((List.replicate n (mkTx k)).flatMap Tx.cells) := by
  refine own_store (World.ownsRow.kept (World.ownsRow.alloc rq _) g1 ?_) _ _ _ hlb
  cases hq : l.ownBlock with
  | none => exact .inl rfl
  | some j => exact .inr (fun e => hs j hq e.symm)
 have sep : ∀ j, l.ownBlock = some j -> v1.ownBlock ≠ some j := fun j hj e => by
  rcases h1 j e with e | e
  ·exact hs j hj e
  ·have := (hl j hj).2; simp at e; omega
 refine ⟨rfl, World.cell?_setCell_same' _ _ _ (by rw [c1]; rfl), fun o => ?_, ?_, fun j hj => ?_, lst, fun j hj => .inl hj, sep, fun i v hi => ?_, ?_, ?_, fun j u hj hu => cell_beside (keep_cell g1 (ok.cell hu hlb) hvb) hj⟩
 ·have := f1 o
  go_simp
 ·have e : (xs ++ [l].map (fun v => (v, k))).flatMap outC = xs.flatMap outC ++ outC (l, k) := by rw [List.flatMap_append]; simp
  rw [e]
  exact own_store r1 _ _ _ (fun e => by
   rcases h1 bk e with e | e
   ·exact hvb' e
   ·simp at e; omega)
 ·rcases h1 j hj with hj | hj
  ·exact .inl hj
  ·exact .inr (by simp at hj; omega)
 ·have hi0 : i = 0 := by have := (List.getElem?_eq_some_iff.1 hi).1; simp at this; omega
  subst hi0
  simp at hi
  subst hi
  exact MkT.of_own lst (fun j hj => ⟨.inl hj, sep j hj, (lst.lt j hj).2⟩)
 ·have q0 : Only w wr (fun j => j = bk ∨ vI.ownBlock = some j ∨ l.ownBlock = some j) := ok.mono (fun _ _ e => .inr (.inr e))
  have q1 : Only wr w1 (fun j => (j = bk ∨ vI.ownBlock = some j ∨ l.ownBlock = some j) ∨ w.heap.size <= j) := ⟨g1.os, g1.tape, g1.output, by omega, fun j hj hn => by
   rw [g1.block j (by simp; omega) (fun e => hn (.inl (.inr (.inl e.symm)))), (World.grownBy_alloc wr o none).block j hj (by simp)]⟩
  exact (q0.trans q1).trans ((Only.set w1 bk 2 v1).mono (fun _ _ e => .inl (.inl e)))
 ·simp; omega
end Go.Proofs.YtammnaafdhhjaaaGreat
