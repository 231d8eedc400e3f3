/- Ytammnaafdhhjaaa: the book of the lists that are the caller's. -/
import Derived.Test.YtammnaafdhhjaaaJC5
namespace Go.Proofs.Ytammnaafdhhjaaa
open Go.RowKit

structure Book (w : World) (B bk : Nat) (vI vE : Value) (xi xe : List (Value × Int)) (A : Nat → Prop) : Prop where
  hb : bk < w.heap.size
  nI : vI.ownBlock ≠ some bk
  nE : vE.ownBlock ≠ some bk
  hB : B ≤ w.heap.size
  c0 : w.cell? ⟨bk, 0, none⟩ = some vI
  c1 : w.cell? ⟨bk, 1, none⟩ = some vE
  c2 : w.cell? ⟨bk, 2, none⟩ = some (.slice none 0 0)
  f : ∀ o, w.frozen? ⟨bk, o, none⟩ = false
  rI : w.ownsRow B 75 2 vI xi.length (xi.flatMap outC)
  rE : w.ownsRow B 77 2 vE xe.length (xe.flatMap outC)
  sep : ∀ j, vI.ownBlock = some j → vE.ownBlock ≠ some j
  mi : ∀ p ∈ xi, ∃ n, n ≤ 1010 ∧ MkI w p.1 n p.2 A
  me : ∀ p ∈ xe, ∃ n, n ≤ 1010 ∧ MkE w p.1 n p.2 A
  ha : ∀ j, A j → j ≠ bk ∧ j < w.heap.size ∧ vI.ownBlock ≠ some j ∧ vE.ownBlock ≠ some j
  bi : ∀ p ∈ xi, 0 ≤ p.2 ∧ p.2 ≤ 20000000
  be : ∀ p ∈ xe, 0 ≤ p.2 ∧ p.2 ≤ 20000000
theorem Book.grow {w w' : World} {B bk : Nat} {vI vE : Value} {xi xe : List (Value × Int)} {A : Nat → Prop} (h : Book w B bk vI vE xi xe A) (g : w.grownBy w' none) : Book w' B bk vI vE xi xe A :=
  ⟨Nat.lt_of_lt_of_le h.hb g.size, h.nI, h.nE, Nat.le_trans h.hB g.size, g.cell h.c0 (by simp), g.cell h.c1 (by simp), g.cell h.c2 (by simp), fun o => (World.frozen?_of_block (a := ⟨bk, o, none⟩) (g.block bk h.hb (by simp))).trans (h.f o), own_grown h.rI g, own_grown h.rE g, h.sep,
    fun p hp => by obtain ⟨n, hn, hm⟩ := h.mi p hp; exact ⟨n, hn, hm.step (fun _ _ _ _ _ hc => g.cell hc (by simp)) (fun _ e => e)⟩,
    fun p hp => by obtain ⟨n, hn, hm⟩ := h.me p hp; exact ⟨n, hn, hm.step (fun _ _ _ _ _ hc => g.cell hc (by simp)) (fun _ e => e)⟩,
    fun j hj => by have := h.ha j hj; have := g.size; exact ⟨(h.ha j hj).1, by omega, (h.ha j hj).2.2.1, (h.ha j hj).2.2.2⟩, h.bi, h.be⟩

theorem Book.items {w w' : World} {B bk : Nat} {vI vE : Value} {xi xe : List (Value × Int)} {A : Nat → Prop} (h : Book w B bk vI vE xi xe A) {l : Value} {is : List It} (_rl : OwnI B w l is) (hn : is.length ≤ 1000) (hx : xi.length ≤ 10000000)
    (hlb : l.ownBlock ≠ some bk) (hA : ∀ j, l.ownBlock = some j → ¬ A j ∧ vE.ownBlock ≠ some j) {ys : List Value} {vc lc : Value} (g : Grp w w' B bk vI l xi (xi.length : Int) is.length 3 ys vc lc) :
    Book w' B bk vc vE (xi ++ ys.map (fun v => (v, (xi.length : Int)))) xe (fun j => A j ∨ ((l.ownBlock = some j ∨ w.heap.size < j) ∧ vc.ownBlock ≠ some j ∧ j < w'.heap.size)) := by
  have hb := h.hb
  have hB := h.hB
  have hz := g.z
  have keepA : ∀ j, A j → ¬ (j = bk ∨ vI.ownBlock = some j ∨ l.ownBlock = some j) := fun j hj e => by
    have h1 := h.ha j hj
    rcases e with e | e | e
    · exact h1.1 e
    · exact h1.2.2.1 e
    · exact (hA j e).1 hj
  have vcA : ∀ j, A j → vc.ownBlock ≠ some j := fun j hj e => by
    have h1 := h.ha j hj
    rcases g.vb j e with e | e
    · exact h1.2.2.1 e
    · omega
  refine ⟨by omega, fun e => by
    rcases g.vb bk e with e | e
    · exact h.nI e
    · omega, h.nE, by omega, g.c, g.kc 1 _ (by omega) h.c1, g.kc 2 _ (by omega) h.c2, g.f, ?_, ?_, fun j hj e => ?_, fun p hp => ?_, fun p hp => ?_, fun j hj => ?_, fun p hp => by
    rcases List.mem_append.1 hp with hp | hp
    · exact h.bi p hp
    · obtain ⟨v, _, rfl⟩ := List.mem_map.1 hp
      exact ⟨by simp, by simp; omega⟩, h.be⟩
  · have := g.row
    rw [List.length_append, List.length_map, g.y]
    exact this
  · refine g.o.own h.rE (fun j hj e => ?_)
    rcases e with e | e | e
    · exact h.nE (by rw [← e]; exact hj)
    · exact h.sep j e hj
    · exact (hA j e).2 hj
  · rcases g.vb j hj with e' | e'
    · exact h.sep j e' e
    · have := (h.rE.lt j e).2; omega
  · rcases List.mem_append.1 hp with hp | hp
    · obtain ⟨n, hn, hm⟩ := h.mi p hp
      exact ⟨n, hn, hm.step (fun g0 j u hg _ hc => g.o.cell hc (keepA g0 hg)) (fun _ e => .inl e)⟩
    · obtain ⟨v, hv, rfl⟩ := List.mem_map.1 hp
      obtain ⟨i, hi, hvi⟩ := List.getElem_of_mem hv
      have hy := g.y
      refine ⟨is.length + i, by omega, (g.m i v (by rw [List.getElem?_eq_getElem hi, hvi])).step (fun _ _ _ _ _ hc => hc) (fun _ e => .inr e)⟩
  · obtain ⟨n, hn, hm⟩ := h.me p hp
    exact ⟨n, hn, hm.step (fun g0 j u hg _ hc => g.o.cell hc (keepA g0 hg)) (fun _ e => .inl e)⟩
  · rcases hj with hj | ⟨hj, hv, hl⟩
    · have := h.ha j hj
      exact ⟨this.1, by omega, vcA j hj, this.2.2.2⟩
    · refine ⟨fun e0 => ?_, hl, hv, fun e => ?_⟩
      · rcases hj with hj | hj
        · exact hlb (by rw [← e0]; exact hj)
        · omega
      · rcases hj with hj | hj
        · exact (hA j hj).2 e
        · have := (h.rE.lt j e).2; omega

theorem Book.entries {w w' : World} {B bk : Nat} {vI vE : Value} {xi xe : List (Value × Int)} {A : Nat → Prop} (h : Book w B bk vI vE xi xe A) {l : Value} {es : List En} (_rl : OwnE B w l es) (hn : es.length ≤ 1000) (hx : xe.length ≤ 10000000)
    (hlb : l.ownBlock ≠ some bk) (hA : ∀ j, l.ownBlock = some j → ¬ A j ∧ vI.ownBlock ≠ some j) {ys : List Value} {vc lc : Value} (g : GrpE w w' B bk vE l xe (xe.length : Int) es.length 3 ys vc lc) :
    Book w' B bk vI vc xi (xe ++ ys.map (fun v => (v, (xe.length : Int)))) (fun j => A j ∨ ((l.ownBlock = some j ∨ w.heap.size < j) ∧ vc.ownBlock ≠ some j ∧ j < w'.heap.size)) := by
  have hb := h.hb
  have hB := h.hB
  have hz := g.z
  have keepA : ∀ j, A j → ¬ (j = bk ∨ vE.ownBlock = some j ∨ l.ownBlock = some j) := fun j hj e => by
    have h1 := h.ha j hj
    rcases e with e | e | e
    · exact h1.1 e
    · exact h1.2.2.2 e
    · exact (hA j e).1 hj
  have vcA : ∀ j, A j → vc.ownBlock ≠ some j := fun j hj e => by
    have h1 := h.ha j hj
    rcases g.vb j e with e | e
    · exact h1.2.2.2 e
    · omega
  refine ⟨by omega, h.nI, fun e => by
    rcases g.vb bk e with e | e
    · exact h.nE e
    · omega, by omega, g.kc 0 _ (by omega) h.c0, g.c, g.kc 2 _ (by omega) h.c2, g.f, ?_, ?_, fun j hj e => ?_, fun p hp => ?_, fun p hp => ?_, fun j hj => ?_, h.bi, fun p hp => by
    rcases List.mem_append.1 hp with hp | hp
    · exact h.be p hp
    · obtain ⟨v, _, rfl⟩ := List.mem_map.1 hp
      exact ⟨by simp, by simp; omega⟩⟩
  · refine g.o.own h.rI (fun j hj e => ?_)
    rcases e with e | e | e
    · exact h.nI (by rw [← e]; exact hj)
    · exact h.sep j hj e
    · exact (hA j e).2 hj
  · have := g.row
    rw [List.length_append, List.length_map, g.y]
    exact this
  · rcases g.vb j e with e' | e'
    · exact h.sep j hj e'
    · have := (h.rI.lt j hj).2; omega
  · obtain ⟨n, hn, hm⟩ := h.mi p hp
    exact ⟨n, hn, hm.step (fun g0 j u hg _ hc => g.o.cell hc (keepA g0 hg)) (fun _ e => .inl e)⟩
  · rcases List.mem_append.1 hp with hp | hp
    · obtain ⟨n, hn, hm⟩ := h.me p hp
      exact ⟨n, hn, hm.step (fun g0 j u hg _ hc => g.o.cell hc (keepA g0 hg)) (fun _ e => .inl e)⟩
    · obtain ⟨v, hv, rfl⟩ := List.mem_map.1 hp
      obtain ⟨i, hi, hvi⟩ := List.getElem_of_mem hv
      have hy := g.y
      refine ⟨es.length + i, by omega, (g.m i v (by rw [List.getElem?_eq_getElem hi, hvi])).step (fun _ _ _ _ _ hc => hc) (fun _ e => .inr e)⟩
  · rcases hj with hj | ⟨hj, hv, hl⟩
    · have := h.ha j hj
      exact ⟨this.1, by omega, this.2.2.1, vcA j hj⟩
    · refine ⟨fun e0 => ?_, hl, fun e => ?_, hv⟩
      · rcases hj with hj | hj
        · exact hlb (by rw [← e0]; exact hj)
        · omega
      · rcases hj with hj | hj
        · exact (hA j hj).2 e
        · have := (h.rI.lt j e).2; omega

/-- What a record's two lists leave in the book. -/
structure Owned (w w' : World) (B bk : Nat) (vI vE : Value) (xi xe : List (Value × Int)) (A : Nat → Prop) (vi vo vI' vE' : Value) (xi' xe' : List (Value × Int)) (A' : Nat → Prop) : Prop where
  b : Book w' B bk vI' vE' xi' xe' A'
  ni : xi'.length = xi.length + 4
  ne : xe'.length = xe.length + 4
  o : Only w w' (fun j => j = bk ∨ vI.ownBlock = some j ∨ vE.ownBlock = some j ∨ vi.ownBlock = some j ∨ vo.ownBlock = some j)
  a : ∀ j, A' j → A j ∨ vi.ownBlock = some j ∨ vo.ownBlock = some j ∨ w.heap.size ≤ j
  i : ∀ j, vI'.ownBlock = some j → vI.ownBlock = some j ∨ w.heap.size ≤ j
  e : ∀ j, vE'.ownBlock = some j → vE.ownBlock = some j ∨ w.heap.size ≤ j

set_option maxHeartbeats 2000000 in
theorem ownRecord_any (B bk : Nat) (vI vE : Value) (xi xe : List (Value × Int)) (A : Nat → Prop) (K s : Int) (i : It) (m : Mk) (vi vo : Value) (is : List It) (es : List En) (w : World) (h : Book w B bk vI vE xi xe A) (oi : OwnI B w vi is) (oo : OwnE B w vo es)
    (hni : is.length ≤ 1000) (hno : es.length ≤ 1000) (hxi : xi.length ≤ 10000000) (hxe : xe.length ≤ 10000000) (hA : ∀ j, vi.ownBlock = some j → ¬ A j ∧ vI.ownBlock ≠ some j ∧ vE.ownBlock ≠ some j) (hA' : ∀ j, vo.ownBlock = some j → ¬ A j ∧ vI.ownBlock ≠ some j ∧ vE.ownBlock ≠ some j) (hap : ∀ j, vi.ownBlock = some j → vo.ownBlock ≠ some j) (hib : vi.ownBlock ≠ some bk) (hob : vo.ownBlock ≠ some bk) :
    Calls Try.prog 18 #[.pointer (some ⟨bk, 0, none⟩), rv K s i m vi vo] w fun e w' => e = .returned (.tuple #[]) ∧ ∃ vI' vE' xi' xe' A', Owned w w' B bk vI vE xi xe A vi vo vI' vE' xi' xe' A' := by
  have HH := Hid.mk' h
  have OI := Hid.mk' oi
  have OO := Hid.mk' oo
  have HA := Hid.mk' hA
  have HA' := Hid.mk' hA'
  have HAP := Hid.mk' hap
  have HIB := Hid.mk' hib
  have HOB := Hid.mk' hob
  have hb := h.hb
  have hB := h.hB
  clear h oi oo hA hA' hap hib hob
  obtain ⟨ai, ni, ci, rfl⟩ := slice_of OI.out
  obtain ⟨ao, no, co, rfl⟩ := slice_of OO.out
  unfold rv
  go_enter Try.func18, Try.ntmps18
  go_wp2_with fail
  have BW := Hid.mk' (HH.out.grow (World.grownBy_alloc w (.cells #[.int .i64 K, .int .i64 s, .int .i64 i.sh, .int .i64 i.nu, .float .f32 i.pl, .float .f32 i.sp, .int .i64 m.g, .int .i64 m.m, .int .i64 m.s, .int .i64 m.a, .int .i64 m.n, .slice ai ni ci, .slice ao no co] 32) none))
  refine Calls.mono (ownItems_any B bk vI xi (.slice ai ni ci) is _ (by simp; omega) HIB.out BW.out.nI (by simp; omega) BW.out.c0 BW.out.f BW.out.rI (World.ownsRow.alloc OI.out _) (fun j hj => (HA.out j hj).2.1) hni hxi) ?_
  rintro e w1 ⟨rfl, ys, vc, lc, g⟩
  have zg := g.z
  simp at zg
  have B1 := Hid.mk' (BW.out.items (World.ownsRow.alloc OI.out _) hni hxi HIB.out (fun j hj => ⟨(HA.out j hj).1, (HA.out j hj).2.2⟩) g)
  have GG := Hid.mk' g
  have c12 : w1.cell? ⟨w.heap.size, 12, none⟩ = some (.slice ao no co) := g.o.cell (a := ⟨w.heap.size, 12, none⟩) (by go_simp) (fun e => by
    rcases e with e | e | e
    · simp at e; omega
    · have := (HH.out.rI.lt _ e).2; simp at this
    · have := (OI.out.lt _ e).2; simp at this)
  have OO1 : Hid (OwnE B w1 (.slice ao no co) es) := g.o.own (World.ownsRow.alloc OO.out _) (fun j hj e => by
    rcases e with e | e | e
    · exact HOB.out (by rw [← e]; exact hj)
    · exact (HA'.out j hj).2.1 e
    · exact HAP.out j e hj)
  clear g
  go_wp2_with fail
  refine Calls.mono (ownEntries_any B bk vE xe (.slice ao no co) es _ (by omega) HOB.out B1.out.nE (by omega) B1.out.c1 B1.out.f B1.out.rE OO1.out (fun j hj => (HA'.out j hj).2.2) hno hxe) ?_
  rintro e w2 ⟨rfl, zs, ve, le, g⟩
  have G2 := Hid.mk' g
  clear g
  have hvc0 : ∀ j, vc.ownBlock = some j → vI.ownBlock = some j ∨ w.heap.size ≤ j := fun j hj => by
    rcases GG.out.vb j hj with e | e
    · exact .inl e
    · exact .inr (by simp at e; omega)
  have B2 := Hid.mk' (B1.out.entries OO1.out hno hxe HOB.out (fun j hj => ⟨fun e => by
      have hw := (OO.out.lt j hj).2
      rcases e with e | ⟨e | e, _⟩
      · exact (HA'.out j hj).1 e
      · exact HAP.out j e hj
      · simp at e; omega, fun e => by
      have hw := (OO.out.lt j hj).2
      rcases hvc0 j e with e | e
      · exact (HA'.out j hj).2.1 e
      · omega⟩) G2.out)
  have hvc := Hid.mk' hvc0
  clear hvc0
  go_wp2
  refine bodyPost_end (v := .tuple #[]) (by simp [results, Try.results18]) rfl ⟨rfl, vc, ve, _, _, _, B2.out, by rw [List.length_append, List.length_map, GG.out.y], by rw [List.length_append, List.length_map, G2.out.y], ?_, fun j hj => ?_, hvc.out, fun j hj => ?_⟩
  · have q0 : Only w (w.alloc (.cells #[.int .i64 K, .int .i64 s, .int .i64 i.sh, .int .i64 i.nu, .float .f32 i.pl, .float .f32 i.sp, .int .i64 m.g, .int .i64 m.m, .int .i64 m.s, .int .i64 m.a, .int .i64 m.n, .slice ai ni ci, .slice ao no co] 32)) (fun j => j = bk ∨ vI.ownBlock = some j ∨ vE.ownBlock = some j ∨ Value.ownBlock (.slice ai ni ci) = some j ∨ Value.ownBlock (.slice ao no co) = some j) := (Only.grown (World.grownBy_alloc w _ none)).mono (by simp)
    refine (q0.trans (GG.out.o.mono (fun j _ e => .inl ?_))).trans (G2.out.o.mono (fun j _ e => .inl ?_))
    · rcases e with e | e | e
      · exact .inl e
      · exact .inr (.inl e)
      · exact .inr (.inr (.inr (.inl e)))
    · rcases e with e | e | e
      · exact .inl e
      · exact .inr (.inr (.inl e))
      · exact .inr (.inr (.inr (.inr e)))
  · rcases hj with (hj | ⟨hj | hj, _⟩) | ⟨hj | hj, _⟩
    · exact .inl hj
    · exact .inr (.inl hj)
    · exact .inr (.inr (.inr (by simp at hj; omega)))
    · exact .inr (.inr (.inl hj))
    · exact .inr (.inr (.inr (by omega)))
  · rcases G2.out.vb j hj with e | e
    · exact .inl e
    · exact .inr (by omega)
end Go.Proofs.Ytammnaafdhhjaaa
