import Derived.ArgAppend
import Derived.Test.YtammnaafdhhjaaaGreatRows
import Derived.Test.YtammnaafdhhjaaaGreatJC1
set_option maxHeartbeats 16000000
set_option maxRecDepth 100000
namespace Go.Proofs.YtammnaafdhhjaaaGreat
open Go.RowKit
structure Only (w w' : World) (A : Nat -> Prop) : Prop where
 os : w'.os = w.os
 tape : w'.tape = w.tape
 output : w'.output = w.output
 size : w.heap.size <= w'.heap.size
 block : ∀ k, k < w.heap.size -> ¬ A k -> w'.heap[k]? = w.heap[k]?
theorem Only.refl (w : World) (A : Nat -> Prop) : Only w w A := ⟨rfl, rfl, rfl, Nat.le_refl _, fun _ _ _ => rfl⟩
theorem Only.trans {w w1 w2 : World} {A : Nat -> Prop} (h : Only w w1 A) (h' : Only w1 w2 (fun k => A k ∨ w.heap.size <= k)) : Only w w2 A :=
 ⟨h'.os.trans h.os, h'.tape.trans h.tape, h'.output.trans h.output, Nat.le_trans h.size h'.size, fun k hk hn => by
  have hz := h.size
  rw [h'.block k (by omega) (fun e => by rcases e with e | e; exact hn e; omega), h.block k hk hn]⟩
theorem Only.mono {w w' : World} {A A' : Nat -> Prop} (h : Only w w' A) (hA : ∀ k, k < w.heap.size -> A k -> A' k) : Only w w' A' :=
 ⟨h.os, h.tape, h.output, h.size, fun k hk hn => h.block k hk (fun e => hn (hA k hk e))⟩
theorem Only.grown {w w' : World} {row : Option Nat} (h : w.grownBy w' row) : Only w w' (fun k => row = some k) :=
 ⟨h.os, h.tape, h.output, h.size, fun k hk hn => h.block k hk (fun e => hn e.symm)⟩
theorem Only.set (w : World) (k o : Nat) (u : Value) : Only w (w.setCell ⟨k, o, none⟩ u) (fun j => j = k) :=
 ⟨rfl, rfl, rfl, by simp, fun j _ hn => Below.heap_setCell _ _ _ _ hn⟩
theorem Only.cell {w w' : World} {A : Nat -> Prop} (h : Only w w' A) {a : Addr} {v : Value} (hc : w.cell? a = some v) (hn : ¬ A a.block) : w'.cell? a = some v :=
 (World.cell?_of_block (h.block a.block (World.block_lt_of_cell? w a hc) hn)).trans hc
theorem Only.frozen {w w' : World} {A : Nat -> Prop} (h : Only w w' A) {a : Addr} (hk : a.block < w.heap.size) (hn : ¬ A a.block) : w'.frozen? a = w.frozen? a :=
 World.frozen?_of_block (h.block a.block hk hn)
theorem Only.own {w w' : World} {A : Nat -> Prop} (h : Only w w' A) {B : Nat} {e : TypeId} {size : Nat} {v : Value} {n : Nat} {xs : List Value} (ho : w.ownsRow B e size v n xs) (hn : ∀ j, v.ownBlock = some j -> ¬ A j) : w'.ownsRow B e size v n xs := by
 refine ⟨ho.1, ?_⟩
 rcases ho.2 with hx | ⟨g, cap, cur, rfl, hb, hg, r⟩
 ·exact .inl hx
 ·have hlt : g < w.heap.size := (ho.lt g rfl).2
  exact .inr ⟨g, cap, cur, rfl, hb, (h.block g hlt (hn g rfl)).trans hg, r⟩
def Keeps (w w' : World) (v : Value) (m : Nat) : Prop := ∀ (b j : Nat) (u : Value), (v.ownBlock = some b -> j < m) -> w.cell? ⟨b, j, none⟩ = some u -> w'.cell? ⟨b, j, none⟩ = some u
def mkIt (k : Int) : It := ⟨-9 - k, 0, 0, 0⟩
def outC (p : Value × Int) : List Value := [p.1, .int .i64 p.2]
def MkI (w : World) (v : Value) (n : Nat) (k : Int) (A : Nat -> Prop) : Prop :=
 ∃ a c, v = .slice a n c /\ (0 < n -> ∃ g, a = some ⟨g, 0, none⟩ /\ A g /\ ∀ j u, ((List.replicate n (mkIt k)).flatMap It.cells)[j]? = some u -> w.cell? ⟨g, j, none⟩ = some u)
theorem slice_len {B : Nat} {e : TypeId} {size : Nat} {v : Value} {n : Nat} {xs : List Value} {w : World} (h : w.ownsRow B e size v n xs) : ∃ a c, v = .slice a n c := by
 rcases h.2 with ⟨rfl, rfl⟩ | ⟨g, cap, cur, rfl, _⟩
 ·exact ⟨_, _, rfl⟩
 ·exact ⟨_, _, rfl⟩
structure Grp (w wr : World) (B bk : Nat) (vI l : Value) (xs : List (Value × Int)) (k : Int) (n r : Nat) (ys : List Value) (vc lc : Value) : Prop where
 y : ys.length = r + 1
 c : wr.cell? ⟨bk, 0, none⟩ = some vc
 f : ∀ o, wr.frozen? ⟨bk, o, none⟩ = false
 row : wr.ownsRow B 100 2 vc (xs.length + (r + 1)) ((xs ++ ys.map (fun v => (v, k))).flatMap outC)
 vb : ∀ j, vc.ownBlock = some j -> vI.ownBlock = some j ∨ w.heap.size < j
 lst : wr.ownsRow B 75 4 lc (n + r) ((List.replicate (n + r) (mkIt k)).flatMap It.cells)
 lb : ∀ j, lc.ownBlock = some j -> l.ownBlock = some j ∨ w.heap.size < j
 sep : ∀ j, lc.ownBlock = some j -> vc.ownBlock ≠ some j
 m : ∀ i v, ys[i]? = some v -> MkI wr v (n + i) k (fun j => (l.ownBlock = some j ∨ w.heap.size < j) /\ vc.ownBlock ≠ some j /\ j < wr.heap.size)
 o : Only w wr (fun j => j = bk ∨ vI.ownBlock = some j ∨ l.ownBlock = some j)
 z : w.heap.size < wr.heap.size
 bx : ∀ j u, (mkIt k).cells[j]? = some u -> wr.cell? ⟨w.heap.size, j, none⟩ = some u
 kc : ∀ j u, j ≠ 0 -> w.cell? ⟨bk, j, none⟩ = some u -> wr.cell? ⟨bk, j, none⟩ = some u
theorem cell_beside {w : World} {b o j : Nat} {u v : Value} (h : w.cell? ⟨b, j, none⟩ = some u) (hj : j ≠ o) : (w.setCell ⟨b, o, none⟩ v).cell? ⟨b, j, none⟩ = some u := by
 have hne : ¬ o = j := fun e => hj e.symm
 go_simp
theorem MkI.step {w w' : World} {v : Value} {n : Nat} {k : Int} {A A' : Nat -> Prop} (h : MkI w v n k A) (hc : ∀ g j u, A g -> j < n * 4 -> w.cell? ⟨g, j, none⟩ = some u -> w'.cell? ⟨g, j, none⟩ = some u) (hA : ∀ g, A g -> A' g) : MkI w' v n k A' := by
 obtain ⟨a, c, rfl, hx⟩ := h
 refine ⟨a, c, rfl, fun hp => ?_⟩
 obtain ⟨g, rfl, hg, hcell⟩ := hx hp
 refine ⟨g, rfl, hA g hg, fun j u hu => hc g j u hg ?_ (hcell j u hu)⟩
 have := (List.getElem?_eq_some_iff.1 hu).1
 rw [cells_len, List.length_replicate] at this
 exact this
theorem MkI.of_own {w : World} {B : Nat} {v : Value} {n : Nat} {k : Int} {A : Nat -> Prop} (h : w.ownsRow B 75 4 v n ((List.replicate n (mkIt k)).flatMap It.cells)) (hA : ∀ j, v.ownBlock = some j -> A j) : MkI w v n k A := by
 rcases h.2 with ⟨rfl, rfl⟩ | ⟨g, cap, cur, rfl, _⟩
 ·exact ⟨none, 0, rfl, by omega⟩
 ·refine ⟨_, cap, rfl, fun _ => ⟨g, rfl, hA g rfl, fun j u hu => ?_⟩⟩
  have hj := (List.getElem?_eq_some_iff.1 hu).1
  rw [h.1] at hj
  exact (h.cellAt j hj).trans hu
theorem keep_cell {w w1 : World} {o : Obj} {row : Option Nat} {b j : Nat} {u : Value} (g : (w.alloc o).grownBy w1 row) (h : w.cell? ⟨b, j, none⟩ = some u) (hr : some b ≠ row) : w1.cell? ⟨b, j, none⟩ = some u :=
 g.cell ((World.grownBy_alloc w o none).cell h (by simp)) hr
theorem keep_frozen {w w1 : World} {o : Obj} {row : Option Nat} {b : Nat} (g : (w.alloc o).grownBy w1 row) (h : ∀ j, w.frozen? ⟨b, j, none⟩ = false) (hr : some b ≠ row) (hb : b < (w.alloc o).heap.size) (hw : b < w.heap.size) : ∀ j, w1.frozen? ⟨b, j, none⟩ = false := fun j =>
 (World.frozen?_of_block (a := ⟨b, j, none⟩) (g.block b hb hr)).trans ((World.frozen?_of_block (a := ⟨b, j, none⟩) ((World.grownBy_alloc w o none).block b hw (by simp))).trans (h j))
theorem Grp.next {w wr w2 w3 : World} {B bk : Nat} {vI l : Value} {xs : List (Value × Int)} {k : Int} {n r : Nat} {ys : List Value} {vc lc l2 v3 : Value} {o o' : Obj} (h : Grp w wr B bk vI l xs k n r ys vc lc) (hbk : bk < w.heap.size) (hlb : l.ownBlock ≠ some bk) (hvb : vI.ownBlock ≠ some bk) (hl : ∀ j, l.ownBlock = some j -> B <= j /\ j < w.heap.size) (hv : ∀ j, vI.ownBlock = some j -> B <= j /\ j < w.heap.size)
  (g : (wr.alloc o).grownBy w2 lc.ownBlock) (r2 : w2.ownsRow B 75 4 l2 (n + r + 1) ((List.replicate (n + r) (mkIt k)).flatMap It.cells ++ (mkIt k).cells)) (b2 : ∀ j, l2.ownBlock = some j -> lc.ownBlock = some j ∨ (wr.alloc o).heap.size <= j) (kp : Keeps (wr.alloc o) w2 lc ((n + r) * 4))
  (g' : (w2.alloc o').grownBy w3 vc.ownBlock) (r3 : w3.ownsRow B 100 2 v3 (xs.length + (r + 1) + 1) ((xs ++ ys.map (fun v => (v, k))).flatMap outC ++ outC (l2, k))) (b3 : ∀ j, v3.ownBlock = some j -> vc.ownBlock = some j ∨ (w2.alloc o').heap.size <= j) :
  Grp w (w3.setCell ⟨bk, 0, none⟩ v3) B bk vI l xs k n (r + 1) (ys ++ [l2]) v3 l2 := by
 have zr := h.z
 have z2 := g.size
 have z3 := g'.size
 simp at z2 z3
 have hlc : some bk ≠ lc.ownBlock := fun e => by
  rcases h.lb bk e.symm with e | e
  ·exact hlb e
  ·omega
 have hvc : some bk ≠ vc.ownBlock := fun e => by
  rcases h.vb bk e.symm with e | e
  ·exact hvb e
  ·omega
 have hbw : bk < wr.heap.size := by omega
 have c2 := keep_cell g h.c hlc
 have c3 := keep_cell g' c2 hvc
 have f2 := keep_frozen g h.f hlc (by simp; omega) hbw
 have f3 := keep_frozen g' f2 hvc (by simp; omega) (by omega)
 have hv3 : v3.ownBlock ≠ some bk := fun e => by
  rcases b3 bk e with e | e
  ·exact hvc e.symm
  ·simp at e; omega
 have hl2 : l2.ownBlock ≠ some bk := fun e => by
  rcases b2 bk e with e | e
  ·exact hlc e.symm
  ·simp at e; omega
 have lst : (w3.setCell ⟨bk, 0, none⟩ v3).ownsRow B 75 4 l2 (n + (r + 1)) ((List.replicate (n + (r + 1)) (mkIt k)).flatMap It.cells) := by
  have e : (List.replicate (n + (r + 1)) (mkIt k)).flatMap It.cells = (List.replicate (n + r) (mkIt k)).flatMap It.cells ++ (mkIt k).cells := by
   rw [show n + (r + 1) = (n + r) + 1 by omega, List.replicate_succ', List.flatMap_append, List.flatMap_singleton]
  rw [e]
  refine own_store (World.ownsRow.kept (World.ownsRow.alloc r2 _) g' ?_) _ _ _ hl2
  cases hq : l2.ownBlock with
  | none => exact .inl rfl
  | some j =>
   refine .inr (fun e => ?_)
   rcases b2 j hq with hj | hj
   ·exact h.sep j hj e.symm
   ·have := (h.row.lt j e.symm).2; simp at hj; omega
 have lb : ∀ j, l2.ownBlock = some j -> l.ownBlock = some j ∨ w.heap.size < j := fun j hj => by
  rcases b2 j hj with hj | hj
  ·exact h.lb j hj
  ·exact .inr (by simp at hj; omega)
 have sep : ∀ j, l2.ownBlock = some j -> v3.ownBlock ≠ some j := fun j hj e => by
  rcases b3 j e with hj3 | hj3
  ·rcases b2 j hj with hj2 | hj2
   ·exact h.sep j hj2 hj3
   ·have := (h.row.lt j hj3).2; simp at hj2; omega
  ·have := (r2.lt j hj).2; simp at hj3; omega
 refine ⟨by simp [h.y], World.cell?_setCell_same' _ _ _ (by rw [c3]; rfl), fun o => ?_, ?_, fun j hj => ?_, lst, lb, sep, fun i v hi => ?_, ?_, ?_, fun j u hu => ?_, fun j u hj hu => cell_beside (keep_cell g' (keep_cell g (h.kc j u hj hu) hlc) hvc) hj⟩
 ·have := f3 o
  go_simp
 ·have e : (xs ++ (ys ++ [l2]).map (fun v => (v, k))).flatMap outC = (xs ++ ys.map (fun v => (v, k))).flatMap outC ++ outC (l2, k) := by
   rw [List.map_append, <- List.append_assoc, List.flatMap_append]; simp
  rw [e]
  exact own_store r3 _ _ _ hv3
 ·rcases b3 j hj with hj | hj
  ·exact h.vb j hj
  ·exact .inr (by simp at hj; omega)
 ·by_cases hiy : i < ys.length
  ·rw [List.getElem?_append_left hiy] at hi
   have hir : i <= r := by have := h.y; omega
   refine (h.m i v hi).step (fun g0 j u hA hj hc => ?_) (fun g0 hA => ⟨hA.1, fun e => ?_, ?_⟩)
   ·have h1 : (wr.alloc o).cell? ⟨g0, j, none⟩ = some u := (World.grownBy_alloc wr o none).cell hc (by simp)
    have h2 := kp g0 j u (fun _ => Nat.lt_of_lt_of_le hj (Nat.mul_le_mul_right _ (by omega))) h1
    have h3 : w3.cell? ⟨g0, j, none⟩ = some u := keep_cell g' h2 (fun e => hA.2.1 e.symm)
    have hne : g0 ≠ bk := fun e0 => by
     rcases hA.1 with e | e
     ·exact hlb (by rw [<- e0]; exact e)
     ·omega
    exact (Only.set w3 bk 0 v3).cell h3 hne
   ·rcases b3 g0 e with e | e
    ·exact hA.2.1 e
    ·have := hA.2.2; simp at e; omega
   ·have := hA.2.2; simp; omega
  ·have hie : i = ys.length := by
    have := (List.getElem?_eq_some_iff.1 hi).1
    simp at this; omega
   subst hie
   rw [List.getElem?_append_right (Nat.le_refl _)] at hi
   simp at hi
   subst hi
   rw [h.y]
   exact MkI.of_own lst (fun j hj => ⟨lb j hj, sep j hj, (lst.lt j hj).2⟩)
 ·refine h.o.trans ?_
  have q1 : Only wr w2 (fun j => (j = bk ∨ vI.ownBlock = some j ∨ l.ownBlock = some j) ∨ w.heap.size <= j) := ⟨g.os, g.tape, g.output, by omega, fun j hj hn => by
   rw [g.block j (by simp; omega) (fun e => by rcases h.lb j e.symm with e | e; exact hn (.inl (.inr (.inr e))); exact hn (.inr (by omega))), (World.grownBy_alloc wr o none).block j hj (by simp)]⟩
  have q2 : Only w2 w3 (fun j => (j = bk ∨ vI.ownBlock = some j ∨ l.ownBlock = some j) ∨ w.heap.size <= j) := ⟨g'.os, g'.tape, g'.output, by omega, fun j hj hn => by
   rw [g'.block j (by simp; omega) (fun e => by rcases h.vb j e.symm with e | e; exact hn (.inl (.inr (.inl e))); exact hn (.inr (by omega))), (World.grownBy_alloc w2 o' none).block j hj (by simp)]⟩
  exact (q1.trans (q2.mono (fun _ _ e => .inl e))).trans ((Only.set w3 bk 0 v3).mono (fun _ _ e => .inl (.inl (.inl e))))
 ·simp; omega
 ·have h0 := h.bx j u hu
  have h1 : w2.cell? ⟨w.heap.size, j, none⟩ = some u := keep_cell g h0 (fun e => by rcases h.lb _ e.symm with e | e; have := (hl _ e).2; omega; omega)
  have h2 : w3.cell? ⟨w.heap.size, j, none⟩ = some u := keep_cell g' h1 (fun e => by rcases h.vb _ e.symm with e | e; have := (hv _ e).2; omega; omega)
  exact (Only.set w3 bk 0 v3).cell h2 (by simp; omega)
theorem Grp.start {w wr w1 : World} {B bk : Nat} {vI l : Value} {xs : List (Value × Int)} {k : Int} {n : Nat} {v1 : Value} {o : Obj} (hbk : bk < w.heap.size) (hlb : l.ownBlock ≠ some bk) (hvb' : vI.ownBlock ≠ some bk) (hl : ∀ j, l.ownBlock = some j -> B <= j /\ j < w.heap.size) (hv : ∀ j, vI.ownBlock = some j -> B <= j /\ j < w.heap.size)
  (ok : Only w wr (fun j => l.ownBlock = some j)) (z : w.heap.size < wr.heap.size) (bx : ∀ j u, (mkIt k).cells[j]? = some u -> wr.cell? ⟨w.heap.size, j, none⟩ = some u) (rq : wr.ownsRow B 75 4 l n ((List.replicate n (mkIt k)).flatMap It.cells))
  (c : wr.cell? ⟨bk, 0, none⟩ = some vI) (f : ∀ o, wr.frozen? ⟨bk, o, none⟩ = false) (hs : ∀ j, l.ownBlock = some j -> vI.ownBlock ≠ some j)
  (g1 : (wr.alloc o).grownBy w1 vI.ownBlock) (r1 : w1.ownsRow B 100 2 v1 (xs.length + 1) (xs.flatMap outC ++ outC (l, k))) (h1 : ∀ j, v1.ownBlock = some j -> vI.ownBlock = some j ∨ (wr.alloc o).heap.size <= j) :
  Grp w (w1.setCell ⟨bk, 0, none⟩ v1) B bk vI l xs k n 0 [l] v1 l := by
 have z1 := g1.size
 simp at z1
 have hvb : some bk ≠ vI.ownBlock := fun e => hvb' e.symm
 have c1 := keep_cell g1 c hvb
 have f1 := keep_frozen g1 f hvb (by simp; omega) (by omega)
 have lst : (w1.setCell ⟨bk, 0, none⟩ v1).ownsRow B 75 4 l n ((List.replicate n (mkIt k)).flatMap It.cells) := by
  refine own_store (World.ownsRow.kept (World.ownsRow.alloc rq _) g1 ?_) _ _ _ hlb
  cases hq : l.ownBlock with
  | none => exact .inl rfl
  | some j => exact .inr (fun e => hs j hq e.symm)
 have sep : ∀ j, l.ownBlock = some j -> v1.ownBlock ≠ some j := fun j hj e => by
  rcases h1 j e with e | e
  ·exact hs j hj e
  ·have := (hl j hj).2; simp at e; omega
 refine ⟨rfl, World.cell?_setCell_same' _ _ _ (by rw [c1]; rfl), fun o => ?_, ?_, fun j hj => ?_, lst, fun j hj => .inl hj, sep, fun i v hi => ?_, ?_, ?_, fun j u hu => ?_, fun j u hj hu => cell_beside (keep_cell g1 (ok.cell hu hlb) hvb) hj⟩
 ·have := f1 o
  go_simp
 ·have e : (xs ++ [l].map (fun v => (v, k))).flatMap outC = xs.flatMap outC ++ outC (l, k) := by rw [List.flatMap_append]; simp
  rw [e]
  exact own_store r1 _ _ _ (fun e => by
   rcases h1 bk e with e | e
   ·exact hvb' e
   ·simp at e; omega)
 ·rcases h1 j hj with hj | hj
  ·exact .inl hj
  ·exact .inr (by simp at hj; omega)
 ·have hi0 : i = 0 := by have := (List.getElem?_eq_some_iff.1 hi).1; simp at this; omega
  subst hi0
  simp at hi
  subst hi
  exact MkI.of_own lst (fun j hj => ⟨.inl hj, sep j hj, (lst.lt j hj).2⟩)
 ·have q0 : Only w wr (fun j => j = bk ∨ vI.ownBlock = some j ∨ l.ownBlock = some j) := ok.mono (fun _ _ e => .inr (.inr e))
  have q1 : Only wr w1 (fun j => (j = bk ∨ vI.ownBlock = some j ∨ l.ownBlock = some j) ∨ w.heap.size <= j) := ⟨g1.os, g1.tape, g1.output, by omega, fun j hj hn => by
   rw [g1.block j (by simp; omega) (fun e => hn (.inl (.inr (.inl e.symm)))), (World.grownBy_alloc wr o none).block j hj (by simp)]⟩
  exact (q0.trans q1).trans ((Only.set w1 bk 0 v1).mono (fun _ _ e => .inl (.inl e)))
 ·simp; omega
 ·have h2 : w1.cell? ⟨w.heap.size, j, none⟩ = some u := keep_cell g1 (bx j u hu) (fun e => by have := (hv _ e.symm).2; omega)
  exact (Only.set w1 bk 0 v1).cell h2 (by simp; omega)
def mkEn (k : Int) : En := ⟨-9 - k, ⟨0, 0, 0, 0⟩⟩
def MkE (w : World) (v : Value) (n : Nat) (k : Int) (A : Nat -> Prop) : Prop :=
 ∃ a c, v = .slice a n c /\ (0 < n -> ∃ g, a = some ⟨g, 0, none⟩ /\ A g /\ ∀ j u, ((List.replicate n (mkEn k)).flatMap En.cells)[j]? = some u -> w.cell? ⟨g, j, none⟩ = some u)
structure GrpE (w wr : World) (B bk : Nat) (vI l : Value) (xs : List (Value × Int)) (k : Int) (n r : Nat) (ys : List Value) (vc lc : Value) : Prop where
 y : ys.length = r + 1
 c : wr.cell? ⟨bk, 1, none⟩ = some vc
 f : ∀ o, wr.frozen? ⟨bk, o, none⟩ = false
 row : wr.ownsRow B 102 2 vc (xs.length + (r + 1)) ((xs ++ ys.map (fun v => (v, k))).flatMap outC)
 vb : ∀ j, vc.ownBlock = some j -> vI.ownBlock = some j ∨ w.heap.size < j
 lst : wr.ownsRow B 87 5 lc (n + r) ((List.replicate (n + r) (mkEn k)).flatMap En.cells)
 lb : ∀ j, lc.ownBlock = some j -> l.ownBlock = some j ∨ w.heap.size < j
 sep : ∀ j, lc.ownBlock = some j -> vc.ownBlock ≠ some j
 m : ∀ i v, ys[i]? = some v -> MkE wr v (n + i) k (fun j => (l.ownBlock = some j ∨ w.heap.size < j) /\ vc.ownBlock ≠ some j /\ j < wr.heap.size)
 o : Only w wr (fun j => j = bk ∨ vI.ownBlock = some j ∨ l.ownBlock = some j)
 z : w.heap.size < wr.heap.size
 bx : ∀ j u, (mkEn k).cells[j]? = some u -> wr.cell? ⟨w.heap.size, j, none⟩ = some u
 kc : ∀ j u, j ≠ 1 -> w.cell? ⟨bk, j, none⟩ = some u -> wr.cell? ⟨bk, j, none⟩ = some u
theorem MkE.step {w w' : World} {v : Value} {n : Nat} {k : Int} {A A' : Nat -> Prop} (h : MkE w v n k A) (hc : ∀ g j u, A g -> j < n * 5 -> w.cell? ⟨g, j, none⟩ = some u -> w'.cell? ⟨g, j, none⟩ = some u) (hA : ∀ g, A g -> A' g) : MkE w' v n k A' := by
 obtain ⟨a, c, rfl, hx⟩ := h
 refine ⟨a, c, rfl, fun hp => ?_⟩
 obtain ⟨g, rfl, hg, hcell⟩ := hx hp
 refine ⟨g, rfl, hA g hg, fun j u hu => hc g j u hg ?_ (hcell j u hu)⟩
 have := (List.getElem?_eq_some_iff.1 hu).1
 rw [cellsE_len, List.length_replicate] at this
 exact this
theorem MkE.of_own {w : World} {B : Nat} {v : Value} {n : Nat} {k : Int} {A : Nat -> Prop} (h : w.ownsRow B 87 5 v n ((List.replicate n (mkEn k)).flatMap En.cells)) (hA : ∀ j, v.ownBlock = some j -> A j) : MkE w v n k A := by
 rcases h.2 with ⟨rfl, rfl⟩ | ⟨g, cap, cur, rfl, _⟩
 ·exact ⟨none, 0, rfl, by omega⟩
 ·refine ⟨_, cap, rfl, fun _ => ⟨g, rfl, hA g rfl, fun j u hu => ?_⟩⟩
  have hj := (List.getElem?_eq_some_iff.1 hu).1
  rw [h.1] at hj
  exact (h.cellAt j hj).trans hu
theorem GrpE.next {w wr w2 w3 : World} {B bk : Nat} {vI l : Value} {xs : List (Value × Int)} {k : Int} {n r : Nat} {ys : List Value} {vc lc l2 v3 : Value} {o o' : Obj} (h : GrpE w wr B bk vI l xs k n r ys vc lc) (hbk : bk < w.heap.size) (hlb : l.ownBlock ≠ some bk) (hvb : vI.ownBlock ≠ some bk) (hl : ∀ j, l.ownBlock = some j -> B <= j /\ j < w.heap.size) (hv : ∀ j, vI.ownBlock = some j -> B <= j /\ j < w.heap.size)
  (g : (wr.alloc o).grownBy w2 lc.ownBlock) (r2 : w2.ownsRow B 87 5 l2 (n + r + 1) ((List.replicate (n + r) (mkEn k)).flatMap En.cells ++ (mkEn k).cells)) (b2 : ∀ j, l2.ownBlock = some j -> lc.ownBlock = some j ∨ (wr.alloc o).heap.size <= j) (kp : Keeps (wr.alloc o) w2 lc ((n + r) * 5))
  (g' : (w2.alloc o').grownBy w3 vc.ownBlock) (r3 : w3.ownsRow B 102 2 v3 (xs.length + (r + 1) + 1) ((xs ++ ys.map (fun v => (v, k))).flatMap outC ++ outC (l2, k))) (b3 : ∀ j, v3.ownBlock = some j -> vc.ownBlock = some j ∨ (w2.alloc o').heap.size <= j) :
  GrpE w (w3.setCell ⟨bk, 1, none⟩ v3) B bk vI l xs k n (r + 1) (ys ++ [l2]) v3 l2 := by
 have zr := h.z
 have z2 := g.size
 have z3 := g'.size
 simp at z2 z3
 have hlc : some bk ≠ lc.ownBlock := fun e => by
  rcases h.lb bk e.symm with e | e
  ·exact hlb e
  ·omega
 have hvc : some bk ≠ vc.ownBlock := fun e => by
  rcases h.vb bk e.symm with e | e
  ·exact hvb e
  ·omega
 have hbw : bk < wr.heap.size := by omega
 have c2 := keep_cell g h.c hlc
 have c3 := keep_cell g' c2 hvc
 have f2 := keep_frozen g h.f hlc (by simp; omega) hbw
 have f3 := keep_frozen g' f2 hvc (by simp; omega) (by omega)
 have hv3 : v3.ownBlock ≠ some bk := fun e => by
  rcases b3 bk e with e | e
  ·exact hvc e.symm
  ·simp at e; omega
 have hl2 : l2.ownBlock ≠ some bk := fun e => by
  rcases b2 bk e with e | e
  ·exact hlc e.symm
  ·simp at e; omega
 have lst : (w3.setCell ⟨bk, 1, none⟩ v3).ownsRow B 87 5 l2 (n + (r + 1)) ((List.replicate (n + (r + 1)) (mkEn k)).flatMap En.cells) := by
  have e : (List.replicate (n + (r + 1)) (mkEn k)).flatMap En.cells = (List.replicate (n + r) (mkEn k)).flatMap En.cells ++ (mkEn k).cells := by
   rw [show n + (r + 1) = (n + r) + 1 by omega, List.replicate_succ', List.flatMap_append, List.flatMap_singleton]
  rw [e]
  refine own_store (World.ownsRow.kept (World.ownsRow.alloc r2 _) g' ?_) _ _ _ hl2
  cases hq : l2.ownBlock with
  | none => exact .inl rfl
  | some j =>
   refine .inr (fun e => ?_)
   rcases b2 j hq with hj | hj
   ·exact h.sep j hj e.symm
   ·have := (h.row.lt j e.symm).2; simp at hj; omega
 have lb : ∀ j, l2.ownBlock = some j -> l.ownBlock = some j ∨ w.heap.size < j := fun j hj => by
  rcases b2 j hj with hj | hj
  ·exact h.lb j hj
  ·exact .inr (by simp at hj; omega)
 have sep : ∀ j, l2.ownBlock = some j -> v3.ownBlock ≠ some j := fun j hj e => by
  rcases b3 j e with hj3 | hj3
  ·rcases b2 j hj with hj2 | hj2
   ·exact h.sep j hj2 hj3
   ·have := (h.row.lt j hj3).2; simp at hj2; omega
  ·have := (r2.lt j hj).2; simp at hj3; omega
 refine ⟨by simp [h.y], World.cell?_setCell_same' _ _ _ (by rw [c3]; rfl), fun o => ?_, ?_, fun j hj => ?_, lst, lb, sep, fun i v hi => ?_, ?_, ?_, fun j u hu => ?_, fun j u hj hu => cell_beside (keep_cell g' (keep_cell g (h.kc j u hj hu) hlc) hvc) hj⟩
 ·have := f3 o
  go_simp
 ·have e : (xs ++ (ys ++ [l2]).map (fun v => (v, k))).flatMap outC = (xs ++ ys.map (fun v => (v, k))).flatMap outC ++ outC (l2, k) := by
   rw [List.map_append, <- List.append_assoc, List.flatMap_append]; simp
  rw [e]
  exact own_store r3 _ _ _ hv3
 ·rcases b3 j hj with hj | hj
  ·exact h.vb j hj
  ·exact .inr (by simp at hj; omega)
 ·by_cases hiy : i < ys.length
  ·rw [List.getElem?_append_left hiy] at hi
   have hir : i <= r := by have := h.y; omega
   refine (h.m i v hi).step (fun g0 j u hA hj hc => ?_) (fun g0 hA => ⟨hA.1, fun e => ?_, ?_⟩)
   ·have h1 : (wr.alloc o).cell? ⟨g0, j, none⟩ = some u := (World.grownBy_alloc wr o none).cell hc (by simp)
    have h2 := kp g0 j u (fun _ => Nat.lt_of_lt_of_le hj (Nat.mul_le_mul_right _ (by omega))) h1
    have h3 : w3.cell? ⟨g0, j, none⟩ = some u := keep_cell g' h2 (fun e => hA.2.1 e.symm)
    have hne : g0 ≠ bk := fun e0 => by
     rcases hA.1 with e | e
     ·exact hlb (by rw [<- e0]; exact e)
     ·omega
    exact (Only.set w3 bk 1 v3).cell h3 hne
   ·rcases b3 g0 e with e | e
    ·exact hA.2.1 e
    ·have := hA.2.2; simp at e; omega
   ·have := hA.2.2; simp; omega
  ·have hie : i = ys.length := by
    have := (List.getElem?_eq_some_iff.1 hi).1
    simp at this; omega
   subst hie
   rw [List.getElem?_append_right (Nat.le_refl _)] at hi
   simp at hi
   subst hi
   rw [h.y]
   exact MkE.of_own lst (fun j hj => ⟨lb j hj, sep j hj, (lst.lt j hj).2⟩)
 ·refine h.o.trans ?_
  have q1 : Only wr w2 (fun j => (j = bk ∨ vI.ownBlock = some j ∨ l.ownBlock = some j) ∨ w.heap.size <= j) := ⟨g.os, g.tape, g.output, by omega, fun j hj hn => by
   rw [g.block j (by simp; omega) (fun e => by rcases h.lb j e.symm with e | e; exact hn (.inl (.inr (.inr e))); exact hn (.inr (by omega))), (World.grownBy_alloc wr o none).block j hj (by simp)]⟩
  have q2 : Only w2 w3 (fun j => (j = bk ∨ vI.ownBlock = some j ∨ l.ownBlock = some j) ∨ w.heap.size <= j) := ⟨g'.os, g'.tape, g'.output, by omega, fun j hj hn => by
   rw [g'.block j (by simp; omega) (fun e => by rcases h.vb j e.symm with e | e; exact hn (.inl (.inr (.inl e))); exact hn (.inr (by omega))), (World.grownBy_alloc w2 o' none).block j hj (by simp)]⟩
  exact (q1.trans (q2.mono (fun _ _ e => .inl e))).trans ((Only.set w3 bk 1 v3).mono (fun _ _ e => .inl (.inl (.inl e))))
 ·simp; omega
 ·have h0 := h.bx j u hu
  have h1 : w2.cell? ⟨w.heap.size, j, none⟩ = some u := keep_cell g h0 (fun e => by rcases h.lb _ e.symm with e | e; have := (hl _ e).2; omega; omega)
  have h2 : w3.cell? ⟨w.heap.size, j, none⟩ = some u := keep_cell g' h1 (fun e => by rcases h.vb _ e.symm with e | e; have := (hv _ e).2; omega; omega)
  exact (Only.set w3 bk 1 v3).cell h2 (by simp; omega)
theorem GrpE.start {w wr w1 : World} {B bk : Nat} {vI l : Value} {xs : List (Value × Int)} {k : Int} {n : Nat} {v1 : Value} {o : Obj} (hbk : bk < w.heap.size) (hlb : l.ownBlock ≠ some bk) (hvb' : vI.ownBlock ≠ some bk) (hl : ∀ j, l.ownBlock = some j -> B <= j /\ j < w.heap.size) (hv : ∀ j, vI.ownBlock = some j -> B <= j /\ j < w.heap.size)
  (ok : Only w wr (fun j => l.ownBlock = some j)) (z : w.heap.size < wr.heap.size) (bx : ∀ j u, (mkEn k).cells[j]? = some u -> wr.cell? ⟨w.heap.size, j, none⟩ = some u) (rq : wr.ownsRow B 87 5 l n ((List.replicate n (mkEn k)).flatMap En.cells))
  (c : wr.cell? ⟨bk, 1, none⟩ = some vI) (f : ∀ o, wr.frozen? ⟨bk, o, none⟩ = false) (hs : ∀ j, l.ownBlock = some j -> vI.ownBlock ≠ some j)
  (g1 : (wr.alloc o).grownBy w1 vI.ownBlock) (r1 : w1.ownsRow B 102 2 v1 (xs.length + 1) (xs.flatMap outC ++ outC (l, k))) (h1 : ∀ j, v1.ownBlock = some j -> vI.ownBlock = some j ∨ (wr.alloc o).heap.size <= j) :
  GrpE w (w1.setCell ⟨bk, 1, none⟩ v1) B bk vI l xs k n 0 [l] v1 l := by
 have z1 := g1.size
 simp at z1
 have hvb : some bk ≠ vI.ownBlock := fun e => hvb' e.symm
 have c1 := keep_cell g1 c hvb
 have f1 := keep_frozen g1 f hvb (by simp; omega) (by omega)
 have lst : (w1.setCell ⟨bk, 1, none⟩ v1).ownsRow B 87 5 l n ((List.replicate n (mkEn k)).flatMap En.cells) := by
  refine own_store (World.ownsRow.kept (World.ownsRow.alloc rq _) g1 ?_) _ _ _ hlb
  cases hq : l.ownBlock with
  | none => exact .inl rfl
  | some j => exact .inr (fun e => hs j hq e.symm)
 have sep : ∀ j, l.ownBlock = some j -> v1.ownBlock ≠ some j := fun j hj e => by
  rcases h1 j e with e | e
  ·exact hs j hj e
  ·have := (hl j hj).2; simp at e; omega
 refine ⟨rfl, World.cell?_setCell_same' _ _ _ (by rw [c1]; rfl), fun o => ?_, ?_, fun j hj => ?_, lst, fun j hj => .inl hj, sep, fun i v hi => ?_, ?_, ?_, fun j u hu => ?_, fun j u hj hu => cell_beside (keep_cell g1 (ok.cell hu hlb) hvb) hj⟩
 ·have := f1 o
  go_simp
 ·have e : (xs ++ [l].map (fun v => (v, k))).flatMap outC = xs.flatMap outC ++ outC (l, k) := by rw [List.flatMap_append]; simp
  rw [e]
  exact own_store r1 _ _ _ (fun e => by
   rcases h1 bk e with e | e
   ·exact hvb' e
   ·simp at e; omega)
 ·rcases h1 j hj with hj | hj
  ·exact .inl hj
  ·exact .inr (by simp at hj; omega)
 ·have hi0 : i = 0 := by have := (List.getElem?_eq_some_iff.1 hi).1; simp at this; omega
  subst hi0
  simp at hi
  subst hi
  exact MkE.of_own lst (fun j hj => ⟨.inl hj, sep j hj, (lst.lt j hj).2⟩)
 ·have q0 : Only w wr (fun j => j = bk ∨ vI.ownBlock = some j ∨ l.ownBlock = some j) := ok.mono (fun _ _ e => .inr (.inr e))
  have q1 : Only wr w1 (fun j => (j = bk ∨ vI.ownBlock = some j ∨ l.ownBlock = some j) ∨ w.heap.size <= j) := ⟨g1.os, g1.tape, g1.output, by omega, fun j hj hn => by
   rw [g1.block j (by simp; omega) (fun e => hn (.inl (.inr (.inl e.symm)))), (World.grownBy_alloc wr o none).block j hj (by simp)]⟩
  exact (q0.trans q1).trans ((Only.set w1 bk 1 v1).mono (fun _ _ e => .inl (.inl e)))
 ·simp; omega
 ·have h2 : w1.cell? ⟨w.heap.size, j, none⟩ = some u := keep_cell g1 (bx j u hu) (fun e => by have := (hv _ e.symm).2; omega)
  exact (Only.set w1 bk 1 v1).cell h2 (by simp; omega)
structure Book (w : World) (B bk : Nat) (vI vE : Value) (xi xe : List (Value × Int)) (A : Nat -> Prop) : Prop where
 hb : bk < w.heap.size
 nI : vI.ownBlock ≠ some bk
 nE : vE.ownBlock ≠ some bk
 hB : B <= w.heap.size
 c0 : w.cell? ⟨bk, 0, none⟩ = some vI
 c1 : w.cell? ⟨bk, 1, none⟩ = some vE
 c2 : w.cell? ⟨bk, 2, none⟩ = some (.slice none 0 0)
 f : ∀ o, w.frozen? ⟨bk, o, none⟩ = false
 rI : w.ownsRow B 100 2 vI xi.length (xi.flatMap outC)
 rE : w.ownsRow B 102 2 vE xe.length (xe.flatMap outC)
 sep : ∀ j, vI.ownBlock = some j -> vE.ownBlock ≠ some j
 mi : ∀ p ∈ xi, ∃ n, n <= 1010 /\ MkI w p.1 n p.2 A
 me : ∀ p ∈ xe, ∃ n, n <= 1010 /\ MkE w p.1 n p.2 A
 ha : ∀ j, A j -> j ≠ bk /\ j < w.heap.size /\ vI.ownBlock ≠ some j /\ vE.ownBlock ≠ some j
 bi : ∀ p ∈ xi, 0 <= p.2 /\ p.2 <= 20000000
 be : ∀ p ∈ xe, 0 <= p.2 /\ p.2 <= 20000000
theorem Book.grow {w w' : World} {B bk : Nat} {vI vE : Value} {xi xe : List (Value × Int)} {A : Nat -> Prop} (h : Book w B bk vI vE xi xe A) (g : w.grownBy w' none) : Book w' B bk vI vE xi xe A :=
 ⟨Nat.lt_of_lt_of_le h.hb g.size, h.nI, h.nE, Nat.le_trans h.hB g.size, g.cell h.c0 (by simp), g.cell h.c1 (by simp), g.cell h.c2 (by simp), fun o => (World.frozen?_of_block (a := ⟨bk, o, none⟩) (g.block bk h.hb (by simp))).trans (h.f o), own_grown h.rI g, own_grown h.rE g, h.sep,
  fun p hp => by obtain ⟨n, hn, hm⟩ := h.mi p hp; exact ⟨n, hn, hm.step (fun _ _ _ _ _ hc => g.cell hc (by simp)) (fun _ e => e)⟩,
  fun p hp => by obtain ⟨n, hn, hm⟩ := h.me p hp; exact ⟨n, hn, hm.step (fun _ _ _ _ _ hc => g.cell hc (by simp)) (fun _ e => e)⟩,
  fun j hj => by have := h.ha j hj; have := g.size; exact ⟨(h.ha j hj).1, by omega, (h.ha j hj).2.2.1, (h.ha j hj).2.2.2⟩, h.bi, h.be⟩
theorem Book.items {w w' : World} {B bk : Nat} {vI vE : Value} {xi xe : List (Value × Int)} {A : Nat -> Prop} (h : Book w B bk vI vE xi xe A) {l : Value} {is : List It} (_rl : OwnI B w l is) (hn : is.length <= 1000) (hx : xi.length <= 10000000)
  (hlb : l.ownBlock ≠ some bk) (hA : ∀ j, l.ownBlock = some j -> ¬ A j /\ vE.ownBlock ≠ some j) {ys : List Value} {vc lc : Value} (g : Grp w w' B bk vI l xi (xi.length : Int) is.length 3 ys vc lc) :
  Book w' B bk vc vE (xi ++ ys.map (fun v => (v, (xi.length : Int)))) xe (fun j => A j ∨ ((l.ownBlock = some j ∨ w.heap.size < j) /\ vc.ownBlock ≠ some j /\ j < w'.heap.size)) := by
 have hb := h.hb
 have hB := h.hB
 have hz := g.z
 have keepA : ∀ j, A j -> ¬ (j = bk ∨ vI.ownBlock = some j ∨ l.ownBlock = some j) := fun j hj e => by
  have h1 := h.ha j hj
  rcases e with e | e | e
  ·exact h1.1 e
  ·exact h1.2.2.1 e
  ·exact (hA j e).1 hj
 have vcA : ∀ j, A j -> vc.ownBlock ≠ some j := fun j hj e => by
  have h1 := h.ha j hj
  rcases g.vb j e with e | e
  ·exact h1.2.2.1 e
  ·omega
 refine ⟨by omega, fun e => by
  rcases g.vb bk e with e | e
  ·exact h.nI e
  ·omega, h.nE, by omega, g.c, g.kc 1 _ (by omega) h.c1, g.kc 2 _ (by omega) h.c2, g.f, ?_, ?_, fun j hj e => ?_, fun p hp => ?_, fun p hp => ?_, fun j hj => ?_, fun p hp => by
  rcases List.mem_append.1 hp with hp | hp
  ·exact h.bi p hp
  ·obtain ⟨v, _, rfl⟩ := List.mem_map.1 hp
   exact ⟨by simp, by simp; omega⟩, h.be⟩
 ·have := g.row
  rw [List.length_append, List.length_map, g.y]
  exact this
 ·refine g.o.own h.rE (fun j hj e => ?_)
  rcases e with e | e | e
  ·exact h.nE (by rw [<- e]; exact hj)
  ·exact h.sep j e hj
  ·exact (hA j e).2 hj
 ·rcases g.vb j hj with e' | e'
  ·exact h.sep j e' e
  ·have := (h.rE.lt j e).2; omega
 ·rcases List.mem_append.1 hp with hp | hp
  ·obtain ⟨n, hn, hm⟩ := h.mi p hp
   exact ⟨n, hn, hm.step (fun g0 j u hg _ hc => g.o.cell hc (keepA g0 hg)) (fun _ e => .inl e)⟩
  ·obtain ⟨v, hv, rfl⟩ := List.mem_map.1 hp
   obtain ⟨i, hi, hvi⟩ := List.getElem_of_mem hv
   have hy := g.y
   refine ⟨is.length + i, by omega, (g.m i v (by rw [List.getElem?_eq_getElem hi, hvi])).step (fun _ _ _ _ _ hc => hc) (fun _ e => .inr e)⟩
 ·obtain ⟨n, hn, hm⟩ := h.me p hp
  exact ⟨n, hn, hm.step (fun g0 j u hg _ hc => g.o.cell hc (keepA g0 hg)) (fun _ e => .inl e)⟩
 ·rcases hj with hj | ⟨hj, hv, hl⟩
  ·have := h.ha j hj
   exact ⟨this.1, by omega, vcA j hj, this.2.2.2⟩
  ·refine ⟨fun e0 => ?_, hl, hv, fun e => ?_⟩
   ·rcases hj with hj | hj
    ·exact hlb (by rw [<- e0]; exact hj)
    ·omega
   ·rcases hj with hj | hj
    ·exact (hA j hj).2 e
    ·have := (h.rE.lt j e).2; omega
end Go.Proofs.YtammnaafdhhjaaaGreat
