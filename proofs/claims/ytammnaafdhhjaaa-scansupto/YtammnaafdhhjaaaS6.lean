/- Ytammnaafdhhjaaa: lists of records that came out, written full of marks: what stands while they are. -/
import Derived.Test.YtammnaafdhhjaaaS3
import Derived.Test.YtammnaafdhhjaaaJC5
namespace Go.Proofs.Ytammnaafdhhjaaa
open Go.RowKit

def mkRw (K : Int) : Rw := ⟨⟨K, 0, it0, mk0, [], []⟩, .slice none 0 0, .slice none 0 0⟩
/-- So many cells, one behind another. -/
def putL (w : World) (g : Nat) : Nat → List Value → World
  | _, [] => w
  | p, v :: r => putL (w.setCell ⟨g, p, none⟩ v) g (p + 1) r
theorem putL_only (g : Nat) : ∀ (vs : List Value) (w : World) (p : Nat), Only w (putL w g p vs) (fun j => j = g)
  | [], w, _ => Only.refl w _
  | v :: r, w, p => (Only.set w g p v).trans ((putL_only g r _ (p + 1)).mono (fun _ _ h => .inl h))
theorem putL_own {B : Nat} {e : TypeId} {size g N cap : Nat} : ∀ (vs ys A zs : List Value) (w : World) (p : Nat), vs.length = ys.length → A.length = p → w.ownsRow B e size (.slice (some ⟨g, 0, none⟩) N cap) N (A ++ ys ++ zs) → (putL w g p vs).ownsRow B e size (.slice (some ⟨g, 0, none⟩) N cap) N (A ++ vs ++ zs)
  | [], [], A, zs, w, p, _, _, h => h
  | v :: r, y :: ys, A, zs, w, p, hl, hp, h => by
    have h1 := (h.stored p v).1
    have e : (A ++ y :: ys ++ zs).set p v = (A ++ [v]) ++ ys ++ zs := by
      subst hp
      simp
    rw [e] at h1
    have h2 := putL_own r ys (A ++ [v]) zs _ (p + 1) (by simpa using hl) (by simp [hp]) h1
    have e2 : A ++ v :: r ++ zs = (A ++ [v]) ++ r ++ zs := by simp
    rw [e2]
    exact h2
  | [], _ :: _, _, _, _, _, hl, _, _ => by simp at hl
  | _ :: _, [], _, _, _, _, hl, _, _ => by simp at hl

theorem infoRecs : ∃ i, Try.prog.info? 43 = some i ∧ i.zero = some (.slice none 0 0) ∧ i.size = 1 ∧ i.bytes = 24 := info_parts (by kernel_rfl)
theorem rcells_len (rs : List Rw) : (rs.flatMap Rw.cells).length = rs.length * 13 := by
  induction rs with
  | nil => rfl
  | cons a t ih => rw [List.flatMap_cons, List.length_append, ih, List.length_cons]; simp [Rw.cells]; omega
theorem rep_at (K : Int) (n k : Nat) (h : k < n) : ((List.replicate n (mkRw K)).flatMap Rw.cells)[k * 13]? = some (.int .i64 K) := by
  induction n generalizing k with
  | zero => omega
  | succ n ih =>
    rw [List.replicate_succ, List.flatMap_cons]
    cases k with
    | zero => rfl
    | succ k =>
      rw [List.getElem?_append_right (by simp [Rw.cells]; omega)]
      have := ih k (by omega)
      rw [← this]
      congr 1
      simp [Rw.cells]
      omega

/-- A list that is full of a mark: (its value, the mark, how many). -/
def MkR (w : World) (p : Value × Int × Nat) (G : Nat → Prop) : Prop :=
  ∃ a c, p.1 = .slice a p.2.2 c ∧ (0 < p.2.2 → ∃ g, a = some ⟨g, 0, none⟩ ∧ G g ∧ ∀ k, k < p.2.2 → w.cell? ⟨g, k * 13, none⟩ = some (.int .i64 p.2.1))
theorem MkR.step {w w' : World} {p : Value × Int × Nat} {G G' : Nat → Prop} (h : MkR w p G) (hc : ∀ g k u, G g → k < p.2.2 → w.cell? ⟨g, k * 13, none⟩ = some u → w'.cell? ⟨g, k * 13, none⟩ = some u) (hG : ∀ g, 0 < p.2.2 → G g → G' g) : MkR w' p G' := by
  obtain ⟨a, c, e, hx⟩ := h
  refine ⟨a, c, e, fun hp => ?_⟩
  obtain ⟨g, ea, hg, hk⟩ := hx hp
  exact ⟨g, ea, hG g hp hg, fun k hk' => hc g k _ hg hk' (hk k hk')⟩

/-- What stands while lists are marked: vs holds all that were put down (ys); lc is the one that is at work, N of it may be shared. -/
structure Mrk (w wr : World) (B : Nat) (F G : Nat → Prop) (vs lc : Value) (N : Nat) (ys : List (Value × Int × Nat)) : Prop where
  row : wr.ownsRow B 43 1 vs ys.length (ys.map (·.1))
  sep : ∀ j, lc.ownBlock = some j → vs.ownBlock ≠ some j
  m : ∀ p ∈ ys, MkR wr p (fun g => G g ∧ g < wr.heap.size ∧ vs.ownBlock ≠ some g ∧ (lc.ownBlock = some g → p.2.2 ≤ N))
  o : Only w wr F
  v : ∀ j, vs.ownBlock = some j → w.heap.size ≤ j
  l : ∀ j, lc.ownBlock = some j → G j ∧ (F j ∨ w.heap.size ≤ j)

/-- The list at work is written, within what is shared by none. -/
theorem Mrk.fill {w wr w' : World} {B : Nat} {F G : Nat → Prop} {vs lc : Value} {ys : List (Value × Int × Nat)} (h : Mrk w wr B F G vs lc 0 ys) (o : Only wr w' (fun j => lc.ownBlock = some j)) : Mrk w w' B F G vs lc 0 ys := by
  have z := o.size
  refine ⟨o.own h.row (fun j hj e => h.sep j e hj), h.sep, fun p hp => ?_, h.o.trans (o.mono (fun j _ e => ?_)), h.v, h.l⟩
  · refine (h.m p hp).step (fun g k u hg hk hc => o.cell hc (fun e => ?_)) (fun g _ hg => ⟨hg.1, by omega, hg.2.2⟩)
    have := hg.2.2.2 e
    omega
  · exact (h.l j e).2
theorem Mrk.more {w wr : World} {B : Nat} {F G : Nat → Prop} {vs lc : Value} {N N' : Nat} {ys : List (Value × Int × Nat)} (h : Mrk w wr B F G vs lc N ys) (hn : N ≤ N') : Mrk w wr B F G vs lc N' ys :=
  ⟨h.row, h.sep, fun p hp => (h.m p hp).step (fun _ _ _ _ _ hc => hc) (fun _ _ hg => ⟨hg.1, hg.2.1, hg.2.2.1, fun e => Nat.le_trans (hg.2.2.2 e) hn⟩), h.o, h.v, h.l⟩
/-- The list at work is put down. -/
theorem Mrk.down {w wr w' : World} {B : Nat} {F G : Nat → Prop} {vs lc v' : Value} {N : Nat} {K : Int} {ys : List (Value × Int × Nat)} {ob : Obj} (h : Mrk w wr B F G vs lc N ys) (lst : wr.ownsRow B 32 13 lc N ((List.replicate N (mkRw K)).flatMap Rw.cells))
    (g : (wr.alloc ob).grownBy w' vs.ownBlock) (r : w'.ownsRow B 43 1 v' (ys.length + 1) (ys.map (·.1) ++ [lc])) (b : ∀ j, v'.ownBlock = some j → vs.ownBlock = some j ∨ (wr.alloc ob).heap.size ≤ j) :
    Mrk w w' B F G v' lc N (ys ++ [(lc, K, N)]) ∧ w'.ownsRow B 32 13 lc N ((List.replicate N (mkRw K)).flatMap Rw.cells) := by
  have z := g.size
  have zo := h.o.size
  simp at z
  have lst' : w'.ownsRow B 32 13 lc N ((List.replicate N (mkRw K)).flatMap Rw.cells) := by
    refine World.ownsRow.kept (World.ownsRow.alloc lst _) g ?_
    cases hq : lc.ownBlock with
    | none => exact .inl rfl
    | some j => exact .inr (fun e => h.sep j hq e.symm)
  have nb : ∀ j, j < wr.heap.size → vs.ownBlock ≠ some j → v'.ownBlock ≠ some j := fun j hj hn e => by
    rcases b j e with e | e
    · exact hn e
    · simp at e; omega
  have sep : ∀ j, lc.ownBlock = some j → v'.ownBlock ≠ some j := fun j hj => nb j (lst.lt j hj).2 (h.sep j hj)
  refine ⟨⟨?_, sep, fun p hp => ?_, h.o.trans ⟨g.os, g.tape, g.output, by omega, fun j hj hn => ?_⟩, fun j hj => ?_, h.l⟩, lst'⟩
  · rw [List.length_append, List.map_append]
    exact r
  · rcases List.mem_append.1 hp with hp | hp
    · refine (h.m p hp).step (fun g0 k u hg hk hc => keep_cell g hc (fun e => hg.2.2.1 e.symm)) (fun g0 _ hg => ⟨hg.1, by omega, nb g0 hg.2.1 hg.2.2.1, hg.2.2.2⟩)
    · rw [List.mem_singleton] at hp
      subst hp
      rcases lst'.2 with ⟨e, rfl⟩ | ⟨g0, cap, cur, e, _⟩
      · exact ⟨none, 0, e, fun hp => by simp at hp⟩
      · refine ⟨_, cap, e, fun _ => ⟨g0, rfl, ⟨(h.l g0 (by rw [e]; rfl)).1, (lst'.lt g0 (by rw [e]; rfl)).2, sep g0 (by rw [e]; rfl), fun _ => Nat.le_refl _⟩, fun k hk => ?_⟩⟩
        have hk' : k < N := hk
        subst e
        exact (lst'.cellAt (k * 13) (by omega)).trans (rep_at K N k hk')
  · rw [g.block j (by simp; omega) (fun e => hn (.inr (h.v j e.symm))), (World.grownBy_alloc wr ob none).block j hj (by simp)]
  · rcases b j hj with e | e
    · exact h.v j e
    · simp at e; omega
/-- The list at work gets one more. -/
theorem Mrk.longer {w wr w' : World} {B : Nat} {F G : Nat → Prop} {vs lc l' : Value} {N : Nat} {ys : List (Value × Int × Nat)} {ob : Obj} {xs ys' : List Value} (hG : ∀ j, w.heap.size ≤ j → G j) (h : Mrk w wr B F G vs lc N ys)
    (g : (wr.alloc ob).grownBy w' lc.ownBlock) (_r : w'.ownsRow B 32 13 l' (N + 1) (xs ++ ys')) (b : ∀ j, l'.ownBlock = some j → lc.ownBlock = some j ∨ (wr.alloc ob).heap.size ≤ j) (kp : Keeps (wr.alloc ob) w' lc (N * 13)) :
    Mrk w w' B F G vs l' (N + 1) ys := by
  have z := g.size
  have zo := h.o.size
  simp at z
  refine ⟨?_, fun j hj e => ?_, fun p hp => ?_, h.o.trans ⟨g.os, g.tape, g.output, by omega, fun j hj hn => ?_⟩, h.v, fun j hj => ?_⟩
  · refine World.ownsRow.kept (World.ownsRow.alloc h.row _) g ?_
    cases hq : vs.ownBlock with
    | none => exact .inl rfl
    | some j => exact .inr (fun e => h.sep j e.symm hq)
  · rcases b j hj with hj | hj
    · exact h.sep j hj e
    · have := (h.row.lt j e).2; simp at hj; omega
  · refine (h.m p hp).step (fun g0 k u hg hk hc => ?_) (fun g0 _ hg => ⟨hg.1, by omega, hg.2.2.1, fun e => ?_⟩)
    · have h1 : (wr.alloc ob).cell? ⟨g0, k * 13, none⟩ = some u := (World.grownBy_alloc wr ob none).cell hc (by simp)
      exact kp g0 (k * 13) u (fun e => by have := hg.2.2.2 e; omega) h1
    · rcases b g0 e with e | e
      · exact Nat.le_trans (hg.2.2.2 e) (Nat.le_succ _)
      · have := hg.2.1; simp at e; omega
  · rw [g.block j (by simp; omega) (fun e => by
      rcases (h.l j e.symm).2 with e | e
      · exact hn (.inl e)
      · exact hn (.inr e)), (World.grownBy_alloc wr ob none).block j hj (by simp)]
  · rcases b j hj with hj | hj
    · exact h.l j hj
    · simp at hj
      exact ⟨hG j (by omega), .inr (by omega)⟩
/-- Another list is at work. -/
theorem Mrk.other {w wr : World} {B : Nat} {F G G' : Nat → Prop} {vs lc l' : Value} {N : Nat} {ys : List (Value × Int × Nat)} (h : Mrk w wr B F G vs lc N ys) (hG : ∀ j, G j → G' j) (hl : ∀ j, l'.ownBlock = some j → ¬ G j ∧ G' j ∧ F j ∧ j < w.heap.size) : Mrk w wr B F G' vs l' 0 ys :=
  ⟨h.row, fun j hj e => by have := h.v j e; have := (hl j hj).2.2.2; omega, fun p hp => (h.m p hp).step (fun _ _ _ _ _ hc => hc) (fun g _ hg => ⟨hG g hg.1, hg.2.1, hg.2.2.1, fun e => absurd hg.1 (hl g e).1⟩), h.o, h.v, fun j hj => ⟨(hl j hj).2.1, .inl (hl j hj).2.2.1⟩⟩
end Go.Proofs.Ytammnaafdhhjaaa
