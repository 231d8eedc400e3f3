/- Ytammnaafdhhjaaa: the book of all the lists that two scans gave. -/
import Derived.Test.YtammnaafdhhjaaaS4
import Derived.Test.YtammnaafdhhjaaaS5
import Derived.Test.YtammnaafdhhjaaaS7
import Derived.Test.YtammnaafdhhjaaaC9
namespace Go.Proofs.Ytammnaafdhhjaaa
open Go.RowKit

theorem scanR_len (f : Nat) (l : List UInt8) : (scanR f l).length ≤ f := by
  induction f generalizing l with
  | zero => exact Nat.le_refl _
  | succ f ih =>
    show (if _ then _ else _ : List Rc).length ≤ _
    split
    · have := ih (l.drop (2 + (frame l).length))
      simp only [List.length_cons]
      omega
    · simp
theorem scanL_len (l : List UInt8) : (scanL l).length ≤ l.length := scanR_len _ _
theorem scanR_calm (f : Nat) (l : List UInt8) : ∀ p ∈ scanR f l, Calm p := by
  induction f generalizing l with
  | zero => intro p hp; cases hp
  | succ f ih =>
    intro p hp
    by_cases h : frB l = true ∧ decB (frame l) = true
    · have e : scanR (f + 1) l = dec (frame l) :: scanR f (l.drop (2 + (frame l).length)) := if_pos h
      rw [e] at hp
      rcases List.mem_cons.1 hp with rfl | hp
      · have hs := decP_small (frame l)
        have ed : decP (frame l) = dec (frame l) := if_pos h.2
        rw [ed] at hs
        exact ⟨by omega, by omega, hs.2.2.1, hs.2.2.2.1, hs.2.2.2.2⟩
      · exact ih _ p hp
    · have e : scanR (f + 1) l = [] := if_neg h
      rw [e] at hp
      cases hp

theorem Book.only {w w' : World} {B bk : Nat} {vI vE : Value} {xi xe : List (Value × Int)} {A S : Nat → Prop} (h : Book w B bk vI vE xi xe A) (o : Only w w' S) (hS : ∀ j, S j → ¬ A j ∧ vI.ownBlock ≠ some j ∧ vE.ownBlock ≠ some j ∧ j ≠ bk) : Book w' B bk vI vE xi xe A := by
  have hbk : ¬ S bk := fun e => (hS bk e).2.2.2 rfl
  have hz := o.size
  refine ⟨Nat.lt_of_lt_of_le h.hb hz, h.nI, h.nE, Nat.le_trans h.hB hz, o.cell h.c0 hbk, o.cell h.c1 hbk, o.cell h.c2 hbk, fun q => (o.frozen (a := ⟨bk, q, none⟩) h.hb hbk).trans (h.f q), o.own h.rI (fun j hj e => (hS j e).2.1 hj), o.own h.rE (fun j hj e => (hS j e).2.2.1 hj), h.sep, fun p hp => ?_, fun p hp => ?_, fun j hj => ?_, h.bi, h.be⟩
  · obtain ⟨n, hn, hm⟩ := h.mi p hp
    exact ⟨n, hn, hm.step (fun g j u hg _ hc => o.cell hc (fun e => (hS g e).1 hg)) (fun _ e => e)⟩
  · obtain ⟨n, hn, hm⟩ := h.me p hp
    exact ⟨n, hn, hm.step (fun g j u hg _ hc => o.cell hc (fun e => (hS g e).1 hg)) (fun _ e => e)⟩
  · have := h.ha j hj
    exact ⟨this.1, by omega, this.2.2⟩

/-- Lists that are still to be put into the book. -/
structure Todo (w : World) (B bk : Nat) (vI vE : Value) (A : Nat → Prop) (ts : List Rw) : Prop where
  oi : ∀ r ∈ ts, OwnI B w r.vi r.p.items
  oo : ∀ r ∈ ts, OwnE B w r.vo r.p.outs
  ni : ∀ r ∈ ts, r.p.items.length ≤ 1000 ∧ r.p.outs.length ≤ 1000
  io : ∀ r ∈ ts, ∀ j, r.vi.ownBlock = some j → r.vo.ownBlock ≠ some j
  fr : ∀ r ∈ ts, ∀ j, r.has j → ¬ A j ∧ vI.ownBlock ≠ some j ∧ vE.ownBlock ≠ some j ∧ j ≠ bk
  pw : ts.Pairwise (fun r r' => ∀ j, r.has j → ¬ r'.has j)
theorem Todo.lt {w : World} {B bk : Nat} {vI vE : Value} {A : Nat → Prop} {ts : List Rw} (h : Todo w B bk vI vE A ts) {r : Rw} (hr : r ∈ ts) {j : Nat} (hj : r.has j) : B ≤ j ∧ j < w.heap.size := by
  rcases hj with hj | hj
  · exact (h.oi r hr).lt j hj
  · exact (h.oo r hr).lt j hj
/-- A list of records that lies by itself. -/
structure Outer (w : World) (B bk : Nat) (vI vE : Value) (A : Nat → Prop) (ts : List Rw) (v : Value) (rs : List Rw) : Prop where
  row : w.ownsRow B 32 13 v rs.length (rs.flatMap Rw.cells)
  fr : ∀ j, v.ownBlock = some j → ¬ A j ∧ vI.ownBlock ≠ some j ∧ vE.ownBlock ≠ some j ∧ j ≠ bk ∧ ∀ r ∈ ts, ¬ r.has j

theorem Todo.next {w w' : World} {B bk : Nat} {vI vE vI' vE' : Value} {xi xe xi' xe' : List (Value × Int)} {A A' : Nat → Prop} {r : Rw} {ts : List Rw} (h : Owned w w' B bk vI vE xi xe A r.vi r.vo vI' vE' xi' xe' A') (t : Todo w B bk vI vE A (r :: ts)) : Todo w' B bk vI' vE' A' ts := by
  have hpw := List.pairwise_cons.1 t.pw
  have nS : ∀ q ∈ ts, ∀ j, q.has j → ¬ (j = bk ∨ vI.ownBlock = some j ∨ vE.ownBlock = some j ∨ r.vi.ownBlock = some j ∨ r.vo.ownBlock = some j) := fun q hq j hj e => by
    have h1 := t.fr q (List.mem_cons_of_mem _ hq) j hj
    rcases e with e | e | e | e | e
    · exact h1.2.2.2 e
    · exact h1.2.1 e
    · exact h1.2.2.1 e
    · exact hpw.1 q hq j (.inl e) hj
    · exact hpw.1 q hq j (.inr e) hj
  refine ⟨fun q hq => h.o.own (t.oi q (List.mem_cons_of_mem _ hq)) (fun j hj => nS q hq j (.inl hj)), fun q hq => h.o.own (t.oo q (List.mem_cons_of_mem _ hq)) (fun j hj => nS q hq j (.inr hj)), fun q hq => t.ni q (List.mem_cons_of_mem _ hq), fun q hq => t.io q (List.mem_cons_of_mem _ hq), fun q hq j hj => ?_, hpw.2⟩
  have h1 := t.fr q (List.mem_cons_of_mem _ hq) j hj
  have hlt := (t.lt (List.mem_cons_of_mem _ hq) hj).2
  have n0 := nS q hq j hj
  refine ⟨fun e => ?_, fun e => ?_, fun e => ?_, h1.2.2.2⟩
  · rcases h.a j e with e | e | e | e
    · exact h1.1 e
    · exact n0 (.inr (.inr (.inr (.inl e))))
    · exact n0 (.inr (.inr (.inr (.inr e))))
    · omega
  · rcases h.i j e with e | e
    · exact h1.2.1 e
    · omega
  · rcases h.e j e with e | e
    · exact h1.2.2.1 e
    · omega

theorem Outer.next {w w' : World} {B bk : Nat} {vI vE vI' vE' v : Value} {xi xe xi' xe' : List (Value × Int)} {A A' : Nat → Prop} {r : Rw} {ts rs : List Rw} (h : Owned w w' B bk vI vE xi xe A r.vi r.vo vI' vE' xi' xe' A') (t : Outer w B bk vI vE A (r :: ts) v rs) : Outer w' B bk vI' vE' A' ts v rs := by
  have nS : ∀ j, v.ownBlock = some j → ¬ (j = bk ∨ vI.ownBlock = some j ∨ vE.ownBlock = some j ∨ r.vi.ownBlock = some j ∨ r.vo.ownBlock = some j) := fun j hj e => by
    have h1 := t.fr j hj
    rcases e with e | e | e | e | e
    · exact h1.2.2.2.1 e
    · exact h1.2.1 e
    · exact h1.2.2.1 e
    · exact h1.2.2.2.2 r (List.mem_cons_self ..) (.inl e)
    · exact h1.2.2.2.2 r (List.mem_cons_self ..) (.inr e)
  refine ⟨h.o.own t.row nS, fun j hj => ?_⟩
  have h1 := t.fr j hj
  have hlt := (t.row.lt j hj).2
  have n0 := nS j hj
  refine ⟨fun e => ?_, fun e => ?_, fun e => ?_, h1.2.2.2.1, fun q hq => h1.2.2.2.2 q (List.mem_cons_of_mem _ hq)⟩
  · rcases h.a j e with e | e | e | e
    · exact h1.1 e
    · exact n0 (.inr (.inr (.inr (.inl e))))
    · exact n0 (.inr (.inr (.inr (.inr e))))
    · omega
  · rcases h.i j e with e | e
    · exact h1.2.1 e
    · omega
  · rcases h.e j e with e | e
    · exact h1.2.2.1 e
    · omega

/-- All that stands while the lists are put into the book. -/
def Look (w wr : World) (bk : Nat) (v1 v2 : Value) (rs1 rs2 ts : List Rw) (N : Nat) : Prop :=
  ∃ vI vE xi xe A, Book wr w.heap.size bk vI vE xi xe A ∧ xi.length = N ∧ xe.length = N ∧ Todo wr w.heap.size bk vI vE A ts ∧ Outer wr w.heap.size bk vI vE A ts v1 rs1 ∧ Outer wr w.heap.size bk vI vE A ts v2 rs2 ∧ w.grownBy wr none ∧ w.heap.size ≤ bk

theorem ownRecord_look (w wr : World) (bk : Nat) (v1 v2 : Value) (rs1 rs2 ts : List Rw) (r : Rw) (N : Nat) (hN : N ≤ 10000000) (h : Look w wr bk v1 v2 rs1 rs2 (r :: ts) N) :
    Calls Try.prog 18 #[.pointer (some ⟨bk, 0, none⟩), rv r.p.kind r.p.seq r.p.it r.p.mks r.vi r.vo] wr fun e w' => e = .returned (.tuple #[]) ∧ Look w w' bk v1 v2 rs1 rs2 ts (N + 4) := by
  obtain ⟨vI, vE, xi, xe, A, hb, hi, he, ht, h1, h2, hg, hbk⟩ := h
  have hm := List.mem_cons_self (a := r) (l := ts)
  refine Calls.mono (ownRecord_any w.heap.size bk vI vE xi xe A r.p.kind r.p.seq r.p.it r.p.mks r.vi r.vo r.p.items r.p.outs wr hb (ht.oi r hm) (ht.oo r hm) (ht.ni r hm).1 (ht.ni r hm).2 (by omega) (by omega)
    (fun j hj => ⟨(ht.fr r hm j (.inl hj)).1, (ht.fr r hm j (.inl hj)).2.1, (ht.fr r hm j (.inl hj)).2.2.1⟩) (fun j hj => ⟨(ht.fr r hm j (.inr hj)).1, (ht.fr r hm j (.inr hj)).2.1, (ht.fr r hm j (.inr hj)).2.2.1⟩) (ht.io r hm)
    (fun e => (ht.fr r hm bk (.inl e)).2.2.2 rfl) (fun e => (ht.fr r hm bk (.inr e)).2.2.2 rfl)) ?_
  rintro e w' ⟨rfl, vI', vE', xi', xe', A', ow⟩
  refine ⟨rfl, vI', vE', xi', xe', A', ow.b, by rw [ow.ni, hi], by rw [ow.ne, he], ht.next ow, h1.next ow, h2.next ow, grown_of_only hg ow.o (fun j e => ?_), hbk⟩
  rcases e with e | e | e | e | e
  · omega
  · exact (hb.rI.lt j e).1
  · exact (hb.rE.lt j e).1
  · exact (ht.lt hm (.inl e)).1
  · exact (ht.lt hm (.inr e)).1

/-- The two lists' records, by turns. -/
def turns (a b : List Rw) : List Rw := (a.zip b).flatMap (fun p => [p.1, p.2])
theorem turns_cons (a b : List Rw) (i : Nat) (ha : i < a.length) (hb : i < b.length) : turns (a.drop i) (b.drop i) = a[i] :: b[i] :: turns (a.drop (i + 1)) (b.drop (i + 1)) := by
  unfold turns
  rw [List.drop_eq_getElem_cons ha, List.drop_eq_getElem_cons hb, List.zip_cons_cons, List.flatMap_cons]
  rfl
theorem turns_mem {a b : List Rw} {r : Rw} (h : r ∈ turns a b) : r ∈ a ∨ r ∈ b := by
  unfold turns at h
  obtain ⟨p, hp, hr⟩ := List.mem_flatMap.1 h
  obtain ⟨x, y⟩ := p
  have := List.of_mem_zip hp
  simp at hr
  rcases hr with rfl | rfl
  · exact .inl this.1
  · exact .inr this.2
theorem turns_pw {R : Rw → Rw → Prop} {a b : List Rw} (ha : a.Pairwise R) (hb : b.Pairwise R) (hab : ∀ x ∈ a, ∀ y ∈ b, R x y ∧ R y x) : (turns a b).Pairwise R := by
  induction a generalizing b with
  | nil => exact List.Pairwise.nil
  | cons x a ih =>
    cases b with
    | nil => exact List.Pairwise.nil
    | cons y b =>
      have ha' := List.pairwise_cons.1 ha
      have hb' := List.pairwise_cons.1 hb
      have e : turns (x :: a) (y :: b) = x :: y :: turns a b := rfl
      rw [e]
      refine List.pairwise_cons.2 ⟨fun z hz => ?_, List.pairwise_cons.2 ⟨fun z hz => ?_, ih ha'.2 hb'.2 (fun p hp q hq => hab p (List.mem_cons_of_mem _ hp) q (List.mem_cons_of_mem _ hq))⟩⟩
      · rcases List.mem_cons.1 hz with rfl | hz
        · exact (hab x (List.mem_cons_self ..) z (List.mem_cons_self ..)).1
        · rcases turns_mem hz with hz | hz
          · exact ha'.1 z hz
          · exact (hab x (List.mem_cons_self ..) z (List.mem_cons_of_mem _ hz)).1
      · rcases turns_mem hz with hz | hz
        · exact (hab z (List.mem_cons_of_mem _ hz) y (List.mem_cons_self ..)).2
        · exact hb'.1 z hz

/-- An empty book over two lists that came out one behind the other. -/
theorem Look.start {w wa wb wr : World} {v1 v2 : Value} {rs1 rs2 : List Rw} (hw : w.heap.size ≤ wa.heap.size) (hab : wa.heap.size ≤ wb.heap.size) (g : w.grownBy wr none) (h1 : Came wa.heap.size wb v1 rs1) (g1 : wb.grownBy wr none) (h2 : Came wb.heap.size wr v2 rs2)
    (hc : ∀ r ∈ rs1, Calm r.p) (hc' : ∀ r ∈ rs2, Calm r.p) :
    Look w (wr.alloc (.cells #[.slice none 0 0, .slice none 0 0, .slice none 0 0] 52)) wr.heap.size v1 v2 rs1 rs2 (turns rs1 rs2) 0 := by
  have g3 := World.grownBy_alloc wr (.cells #[.slice none 0 0, .slice none 0 0, .slice none 0 0] 52) none
  have gz := g.size
  have gz1 := g1.size
  have k1 := (h1.grown g1).grown g3
  have k2 := h2.grown g3
  have lt1 : ∀ r ∈ rs1, ∀ j, r.has j → j < wb.heap.size := fun r hr j hj => (h1.lt hr hj).2
  have ge2 : ∀ r ∈ rs2, ∀ j, r.has j → wb.heap.size ≤ j := fun r hr j hj => (h2.lt hr hj).1
  have lt2 : ∀ r ∈ rs2, ∀ j, r.has j → j < wr.heap.size := fun r hr j hj => (h2.lt hr hj).2
  have o1 : ∀ j, v1.ownBlock = some j → j < wb.heap.size := fun j hj => (h1.row.lt j hj).2
  have o2 : ∀ j, v2.ownBlock = some j → wb.heap.size ≤ j ∧ j < wr.heap.size := fun j hj => h2.row.lt j hj
  have frT : ∀ r ∈ turns rs1 rs2, ∀ j, r.has j → j < wr.heap.size := fun r hr j hj => by
    rcases turns_mem hr with hr | hr
    · have := lt1 r hr j hj; omega
    · exact lt2 r hr j hj
  refine ⟨.slice none 0 0, .slice none 0 0, [], [], fun _ => False, ?_, rfl, rfl, ⟨fun r hr => ?_, fun r hr => ?_, fun r hr => ?_, fun r hr => ?_, fun r hr j hj => ⟨fun h => h, by simp [Value.ownBlock], by simp [Value.ownBlock], by have := frT r hr j hj; omega⟩, ?_⟩, ⟨own_base k1.row hw, fun j hj => ⟨fun h => h, by simp [Value.ownBlock], by simp [Value.ownBlock], by have := o1 j hj; omega, fun r hr e => ?_⟩⟩, ⟨own_base k2.row (by omega), fun j hj => ⟨fun h => h, by simp [Value.ownBlock], by simp [Value.ownBlock], by have := o2 j hj; omega, fun r hr e => ?_⟩⟩, g.trans g3, gz⟩
  · exact ⟨by simp, by simp [Value.ownBlock], by simp [Value.ownBlock], by simp; omega, by go_simp, by go_simp, by go_simp, fun o => by go_simp, World.ownsRow_nil _ _ _ _, World.ownsRow_nil _ _ _ _, by simp [Value.ownBlock], by simp, by simp, fun j h => h.elim, by simp, by simp⟩
  · rcases turns_mem hr with hr | hr
    · exact own_base (k1.oi r hr) hw
    · exact own_base (k2.oi r hr) (by omega)
  · rcases turns_mem hr with hr | hr
    · exact own_base (k1.oo r hr) hw
    · exact own_base (k2.oo r hr) (by omega)
  · rcases turns_mem hr with hr | hr
    · exact ⟨(hc r hr).ni, (hc r hr).no⟩
    · exact ⟨(hc' r hr).ni, (hc' r hr).no⟩
  · rcases turns_mem hr with hr | hr
    · exact h1.io r hr
    · exact h2.io r hr
  · refine turns_pw h1.pw h2.pw (fun x hx y hy => ⟨fun j hj hj' => ?_, fun j hj hj' => ?_⟩)
    · have := lt1 x hx j hj; have := ge2 y hy j hj'; omega
    · have := lt1 x hx j hj'; have := ge2 y hy j hj; omega
  · rcases turns_mem hr with hr | hr
    · exact h1.out r hr j e hj
    · have := ge2 r hr j e; have := o1 j hj; omega
  · rcases turns_mem hr with hr | hr
    · have := lt1 r hr j e; have := o2 j hj; omega
    · exact h2.out r hr j e hj
end Go.Proofs.Ytammnaafdhhjaaa
