import Derived.Test.YtammnaafdhhjaaaGreatRows
import Derived.Test.YtammnaafdhhjaaaGreatJG7
import Derived.Test.YtammnaafdhhjaaaGreatJT4
set_option maxHeartbeats 16000000
set_option maxRecDepth 100000
namespace Go.Proofs.YtammnaafdhhjaaaGreat
open Go.RowKit
theorem PP.at {w : World} {bp b0 b1 : Nat} {s0 s1 : Sh} {F0 F1 : Nat -> Prop} (h : PP w bp b0 b1 s0 s1 F0 F1) {i : Int} (hi : is01 i) : PS w (pick01 b0 b1 i) (pick01 s0 s1 i) (pick01 F0 F1 i) /\ (∀ j, pick01 F0 F1 i j -> F0 j ∨ F1 j) /\ (∀ j, pick01 F0 F1 i j -> j < w.heap.size) := by
 rcases hi with rfl | rfl
 ·exact ⟨h.p0, fun _ e => .inl e, h.l0⟩
 ·exact ⟨h.p1, fun _ e => .inr e, h.l1⟩
theorem up_at {s0 s1 : Sh} {i : Int} (h : upE s0.up s1.up i = 0) : is01 i /\ (pick01 s0 s1 i).up = true := by
 obtain ⟨h1, h2⟩ := upE_ok h
 refine ⟨h1, ?_⟩
 rcases h1 with rfl | rfl <;> exact h2
section
variable {w : World} {B bw bp b0 b1 bq q0 q1 bk : Nat} {cI cO cJ : Int} {s0 s1 : Sh} {r0 r1 : Rs} {F0 F1 R : Nat -> Prop} {n : Nat}
theorem LM.li (h : LM w B bw bp b0 b1 bq q0 q1 bk cI cO cJ s0 s1 r0 r1 F0 F1 R n) (pg : PG cI cO cJ s0 s1 r0 r1) : LI w B bw n := ⟨bp, b0, b1, bq, q0, q1, bk, cI, cO, cJ, s0, s1, r0, r1, F0, F1, R, h, pg⟩
theorem LM.turn {w1 w2 W : World} {s : Sh} {r : Rs} (h : LM w B bw bp b0 b1 bq q0 q1 bk cI cO cJ s0 s1 r0 r1 F0 F1 R n) (pg : PG cI cO cJ s0 s1 r0 r1) {i : Int} (hi : is01 i) (ps : PS w1 (pick01 b0 b1 i) s (NX w w1 (pick01 F0 F1 i))) (o : Only w w1 (pick01 F0 F1 i)) (gW : w1.grownBy W none) (a : At w2 (pick01 q0 q1 i) r.cells) (o2 : Only W w2 (fun j => j = pick01 q0 q1 i)) (g : Good s r) (e : s.cfg (pick01 s0 s1 i)) : LI w2 B bw n /\ Only W w2 (fun j => j = q0 ∨ j = q1) := by
 obtain ⟨F0', F1', h', _⟩ := h.prog hi ps o
 have h2 := (h'.grown gW).doc hi a o2
 refine ⟨h2.li (pg.put hi g e), o2.mono (fun j _ e => ?_)⟩
 rcases hi with rfl | rfl
 ·exact .inl e
 ·exact .inr e
def BothE (w : World) (B bw bp bq q0 q1 : Nat) (F0 F1 : Nat -> Prop) (n : Nat) (fx fy : Nat) (ars : List Value) : Prop :=
 Calls Tryz.prog fx (Value.pointer (some ⟨bp, 0, none⟩) :: ars).toArray w fun e w1 => ∃ z : Int, e = .returned (.int .i64 z) /\ Only w w1 (fun j => F0 j ∨ F1 j) /\ ∀ W, w1.grownBy W none -> Calls Tryz.prog fy (Value.pointer (some ⟨bq, 0, none⟩) :: ars).toArray W fun e' w2 => e' = .returned (.int .i64 z) /\ LI w2 B bw n /\ Only W w2 (fun j => j = q0 ∨ j = q1)
theorem both_tick (h : LM w B bw bp b0 b1 bq q0 q1 bk cI cO cJ s0 s1 r0 r1 F0 F1 R n) (pg : PG cI cO cJ s0 s1 r0 r1) (i : Int) : BothE w B bw bp bq q0 q1 F0 F1 n 33 50 [.int .i64 i] := by
 refine pTick_w bp b0 b1 _ _ s0.up s1.up i w h.pp.at_ (up_ps b0 s0 F0 w h.pp.p0) (up_ps b1 s1 F1 w h.pp.p1) _ (fun hu => ⟨_, rfl, Only.refl _ _, fun W gW => ?_⟩) (fun hu => ?_)
 ·have h' := h.grown gW
  refine rTick_w bq q0 q1 cI cO cJ r0 r1 i W h'.ry _ (fun _ => ⟨by rw [pg.up], h'.li pg, Only.refl _ _⟩) (fun hz => absurd (by rw [<- pg.up]; exact hz) hu)
 ·obtain ⟨hi, up⟩ := up_at hu
  obtain ⟨ps, pf, pl⟩ := h.pp.at hi
  obtain ⟨g, hn, e1, e2, e3⟩ := pg.at hi
  obtain ⟨_, _, _, _, _, has, _⟩ := g.has up
  obtain ⟨d1, d2, d3, _⟩ := has.sh g.i1 g.o1
  have gd := tick_good g up
  refine (tick_ps (pick01 b0 b1 i) (pick01 s0 s1 i) (pick01 F0 F1 i) w ps up g.ct (by have := g.j1; omega) ⟨d1, d2, d3⟩).mono ?_
  rintro e w1 ⟨rfl, p1, o1⟩
  refine ⟨_, rfl, _, rfl, o1.mono (fun j _ e => pf j e), fun W gW => ?_⟩
  obtain ⟨F0', F1', h1, _⟩ := h.prog hi p1 o1
  have hW := h1.grown gW
  refine rTick_w bq q0 q1 cI cO cJ r0 r1 i W hW.ry _ (fun hz => absurd (by rw [pg.up]; exact hu) hz) (fun _ => ?_)
  have jr := rJournal_any bq q0 q1 cI cO cJ _ _ i (pick01 r0 r1 i) tickRec W hW.ry.at_ (hW.ry.at hi).1 hi g.rok g.kb (by rw [g.rct]; exact g.ct) (by have := g.j1; rw [<- e3]; omega) told_tick ⟨rfl, rfl⟩ (hW.ry.at hi).2
  refine Calls.mono jr ?_
  rintro e w2 ⟨rfl, a2, o2⟩
  rw [<- e3] at a2 ⊢
  refine ⟨_, rfl, by rw [gd.1]; rfl, ?_⟩
  exact h.turn pg hi p1 o1 gW a2 o2 gd.2 (jrn_cfg _ _)
theorem both_snap (h : LM w B bw bp b0 b1 bq q0 q1 bk cI cO cJ s0 s1 r0 r1 F0 F1 R n) (pg : PG cI cO cJ s0 s1 r0 r1) (i : Int) : BothE w B bw bp bq q0 q1 F0 F1 n 28 51 [.int .i64 i] := by
 refine pSnapshot_w bp b0 b1 _ _ s0.up s1.up i w h.pp.at_ (up_ps b0 s0 F0 w h.pp.p0) (up_ps b1 s1 F1 w h.pp.p1) _ (fun hu => ⟨_, rfl, Only.refl _ _, fun W gW => ?_⟩) (fun hu => ?_)
 ·have h' := h.grown gW
  refine (rSnap_any bq q0 q1 cI cO cJ s0 s1 r0 r1 i W h'.ry pg).mono ?_
  rintro e w2 ⟨k1, _⟩
  obtain ⟨he, rfl⟩ := k1 (by rw [pg.up]; exact hu)
  exact ⟨by rw [he, pg.up], h'.li pg, Only.refl _ _⟩
 ·obtain ⟨hi, up⟩ := up_at hu
  obtain ⟨ps, pf, pl⟩ := h.pp.at hi
  obtain ⟨g, hn, e1, e2, e3⟩ := pg.at hi
  obtain ⟨_, _, _, _, _, has, _⟩ := g.has up
  obtain ⟨d1, d2, d3, _⟩ := has.sh g.i1 g.o1
  have gd := snap_good g up
  have tb := fun hg => told_base has g.i1 g.o1 hg
  refine (snap_ps (pick01 b0 b1 i) (pick01 s0 s1 i) (pick01 F0 F1 i) w ps up d2 d1.l g.ct has.mo.g0 has.mo.g1 (fun hg => (tb hg).m) ⟨⟨by show (0 : Nat) < _; decide, by show (0 : Nat) < _; decide⟩, fun x hx => (has.it x hx).2, fun x hx => (has.en x hx).2.1⟩).mono ?_
  rintro e w1 ⟨rfl, p1, o1⟩
  refine ⟨_, rfl, _, rfl, o1.mono (fun j _ e => pf j e), fun W gW => ?_⟩
  obtain ⟨F0', F1', h1, _⟩ := h.prog hi p1 o1
  have hW := h1.grown gW
  refine (rSnap_any bq q0 q1 cI cO cJ s0 s1 r0 r1 i W hW.ry pg).mono ?_
  rintro e w2 ⟨_, k2⟩
  obtain ⟨he, a2, o2⟩ := k2 (by rw [pg.up]; exact hu)
  rw [<- e3] at he a2
  exact ⟨by rw [he, gd.1], h.turn pg hi p1 o1 gW a2 o2 gd.2 (snap_cfg _)⟩
theorem both_break (h : LM w B bw bp b0 b1 bq q0 q1 bk cI cO cJ s0 s1 r0 r1 F0 F1 R n) (pg : PG cI cO cJ s0 s1 r0 r1) (i k m : Int) (hk : k <= 9223372036854775807) (hm : kpB m) : BothE w B bw bp bq q0 q1 F0 F1 n 27 52 [.int .i64 i, .int .i64 k, .int .i64 m] := by
 refine pBreak_w bp b0 b1 _ _ i k m w h.pp.at_ _ (fun hu => ⟨_, rfl, Only.refl _ _, fun W gW => ?_⟩) (fun hi => ?_)
 ·have h' := h.grown gW
  refine (rBreak_any bq q0 q1 cI cO cJ r0 r1 i k m W h'.ry).mono ?_
  rintro e w2 ⟨k1, _⟩
  obtain ⟨he, rfl⟩ := k1 (.inl hu)
  exact ⟨he, h'.li pg, Only.refl _ _⟩
 ·obtain ⟨ps, pf, pl⟩ := h.pp.at hi
  obtain ⟨g, hn, e1, e2, e3⟩ := pg.at hi
  refine (break_ps (pick01 b0 b1 i) (pick01 s0 s1 i) (pick01 F0 F1 i) k m w ps hk).mono ?_
  rintro e w1 (⟨hk0, rfl, rfl⟩ | ⟨hk0, rfl, p1, o1⟩)
  ·refine ⟨_, rfl, _, rfl, Only.refl _ _, fun W gW => ?_⟩
   have h' := h.grown gW
   refine (rBreak_any bq q0 q1 cI cO cJ r0 r1 i k m W h'.ry).mono ?_
   rintro e w2 ⟨k1, _⟩
   obtain ⟨he, rfl⟩ := k1 (.inr hk0)
   exact ⟨he, h'.li pg, Only.refl _ _⟩
  ·refine ⟨_, rfl, _, rfl, o1.mono (fun j _ e => pf j e), fun W gW => ?_⟩
   obtain ⟨F0', F1', h1, _⟩ := h.prog hi p1 o1
   have hW := h1.grown gW
   refine (rBreak_any bq q0 q1 cI cO cJ r0 r1 i k m W hW.ry).mono ?_
   rintro e w2 ⟨_, k2⟩
   obtain ⟨he, a2, o2⟩ := k2 ⟨hi, hk0⟩
   exact ⟨he, h.turn pg hi p1 o1 gW a2 o2 (break_good g k m hk0 hk hm) ⟨rfl, rfl, rfl, rfl⟩⟩
theorem both_crash (h : LM w B bw bp b0 b1 bq q0 q1 bk cI cO cJ s0 s1 r0 r1 F0 F1 R n) (pg : PG cI cO cJ s0 s1 r0 r1) (i m : Int) (hm : kpB m) : BothE w B bw bp bq q0 q1 F0 F1 n 18 53 [.int .i64 i, .int .i64 m] := by
 refine pCrash_w bp b0 b1 _ _ s0.up s1.up i m w h.pp.at_ (up_ps b0 s0 F0 w h.pp.p0) (up_ps b1 s1 F1 w h.pp.p1) _ (fun hu => ⟨_, rfl, Only.refl _ _, fun W gW => ?_⟩) (fun hu => ?_)
 ·have h' := h.grown gW
  refine (rCrash_any bq q0 q1 cI cO cJ r0 r1 i m W h'.ry pg.g0.rok pg.g1.rok hm).mono ?_
  rintro e w2 ⟨he, k1, _⟩
  obtain rfl := k1 (by rw [pg.up]; exact hu)
  exact ⟨by rw [he, pg.up], h'.li pg, Only.refl _ _⟩
 ·obtain ⟨hi, up⟩ := up_at hu
  obtain ⟨ps, pf, pl⟩ := h.pp.at hi
  obtain ⟨g, hn, e1, e2, e3⟩ := pg.at hi
  refine (crash_ps (pick01 b0 b1 i) (pick01 s0 s1 i) (pick01 F0 F1 i) m w ps).mono ?_
  rintro e w1 ⟨rfl, p1, o1⟩
  refine ⟨_, rfl, _, rfl, o1.mono (fun j _ e => pf j e), fun W gW => ?_⟩
  obtain ⟨F0', F1', h1, _⟩ := h.prog hi p1 o1
  have hW := h1.grown gW
  refine (rCrash_any bq q0 q1 cI cO cJ r0 r1 i m W hW.ry pg.g0.rok pg.g1.rok hm).mono ?_
  rintro e w2 ⟨he, _, k2⟩
  obtain ⟨a2, o2⟩ := k2 (by rw [pg.up]; exact hu)
  exact ⟨by rw [he, pg.up, hu], h.turn pg hi p1 o1 gW a2 o2 (crash_good g m) ⟨rfl, rfl, rfl, rfl⟩⟩
theorem both_restart (h : LM w B bw bp b0 b1 bq q0 q1 bk cI cO cJ s0 s1 r0 r1 F0 F1 R n) (pg : PG cI cO cJ s0 s1 r0 r1) (i : Int) : BothE w B bw bp bq q0 q1 F0 F1 n 17 54 [.int .i64 i] := by
 have c0 : r0.ct < 2 := by rw [pg.g0.rct]; exact pg.g0.ct
 have c1 : r1.ct < 2 := by rw [pg.g1.rct]; exact pg.g1.ct
 refine pRestart_w bp b0 b1 _ _ i w h.pp.at_ _ (fun hu => ⟨_, rfl, Only.refl _ _, fun W gW => ?_⟩) (fun hi => ?_)
 ·have h' := h.grown gW
  refine (rRestart_any bq q0 q1 cI cO cJ r0 r1 i W h'.ry pg.g0.rok pg.g1.rok c0 c1).mono ?_
  rintro e w2 ⟨k1, _⟩
  obtain ⟨he, rfl⟩ := k1 (fun e => hu e.1)
  exact ⟨he, h'.li pg, Only.refl _ _⟩
 ·obtain ⟨ps, pf, pl⟩ := h.pp.at hi
  obtain ⟨g, hn, e1, e2, e3⟩ := pg.at hi
  cases hu : (pick01 s0 s1 i).up
  ·obtain ⟨j1, j2⟩ := restart_good g
   refine (restart_ps (pick01 b0 b1 i) (pick01 s0 s1 i) (pick01 F0 F1 i) w ps hu j1).mono ?_
   rintro e w1 ⟨rfl, p1, o1⟩
   refine ⟨_, rfl, _, rfl, o1.mono (fun j _ e => pf j e), fun W gW => ?_⟩
   obtain ⟨F0', F1', h1, _⟩ := h.prog hi p1 o1
   have hW := h1.grown gW
   refine (rRestart_any bq q0 q1 cI cO cJ r0 r1 i W hW.ry pg.g0.rok pg.g1.rok c0 c1).mono ?_
   rintro e w2 ⟨_, k2⟩
   obtain ⟨he, a2, o2⟩ := k2 ⟨hi, by rw [g.up]; exact hu⟩
   exact ⟨he, h.turn pg hi p1 o1 gW a2 o2 j2 (restart_cfg _)⟩
  ·refine (restart_up (pick01 b0 b1 i) (pick01 s0 s1 i) (pick01 F0 F1 i) w ps hu).mono ?_
   rintro e w1 ⟨rfl, rfl⟩
   refine ⟨_, rfl, _, rfl, Only.refl _ _, fun W gW => ?_⟩
   have h' := h.grown gW
   refine (rRestart_any bq q0 q1 cI cO cJ r0 r1 i W h'.ry pg.g0.rok pg.g1.rok c0 c1).mono ?_
   rintro e w2 ⟨k1, _⟩
   obtain ⟨he, rfl⟩ := k1 (fun e => by have := e.2; rw [g.up, hu] at this; cases this)
   exact ⟨he, h'.li pg, Only.refl _ _⟩
theorem both_destroy (h : LM w B bw bp b0 b1 bq q0 q1 bk cI cO cJ s0 s1 r0 r1 F0 F1 R n) (pg : PG cI cO cJ s0 s1 r0 r1) (i x y : Int) (hx : i64B x) (hy : i64B y) : BothE w B bw bp bq q0 q1 F0 F1 n 48 49 [.int .i64 i, .agg #[.int .i64 x, .int .i64 y]] := by
 have g0 := World.grownBy_alloc w (.cells #[.int .i64 x, .int .i64 y] 32) none
 have hg := h.grown g0
 refine pDestroy_w bp b0 b1 _ _ s0.up s1.up i x y w hg.pp.at_ (up_ps b0 s0 F0 _ hg.pp.p0) (up_ps b1 s1 F1 _ hg.pp.p1) _ (fun hu => ⟨_, rfl, (Only.grown g0).mono (by simp), fun W gW => ?_⟩) (fun hu => ?_)
 ·have h' := hg.grown gW
  refine rDestroy_w bq q0 q1 cI cO cJ s0 s1 r0 r1 i x y W h'.ry pg _ (fun _ w2 g2 => ⟨by rw [pg.up], (h'.grown g2).li pg, (Only.grown g2).mono (by simp)⟩) (fun hz => absurd (by rw [<- pg.up]; exact hz) hu) (fun hz => absurd (by rw [<- pg.up]; exact hz) hu)
 ·obtain ⟨hi, up⟩ := up_at hu
  obtain ⟨ps, pf, pl⟩ := hg.pp.at hi
  obtain ⟨g, hn, e1, e2, e3⟩ := pg.at hi
  have hu' : upE r0.up r1.up i = 0 := by rw [pg.up]; exact hu
  refine (destroy_ps (pick01 b0 b1 i) (pick01 s0 s1 i) (pick01 F0 F1 i) x y _ ps up g.ct (by have := g.j1; omega) hx hy (fun hh => (dest_good g up x y hh).1)).mono ?_
  rintro e w1 ⟨d1, d2⟩
  cases hh : hasTh (pick01 s0 s1 i).th x y
  ·obtain ⟨rfl, p1, o1⟩ := d1 hh
   refine ⟨_, rfl, _, rfl, ((Only.grown g0).mono (by simp)).trans (o1.mono (fun j _ e => .inl (pf j e))), fun W gW => ?_⟩
   obtain ⟨F0', F1', h1, _⟩ := hg.prog hi p1 o1
   have hW := h1.grown gW
   have es : (put01 s0 s1 (pick01 s0 s1 i) i).1 = s0 /\ (put01 s0 s1 (pick01 s0 s1 i) i).2 = s1 := by rcases hi with rfl | rfl <;> exact ⟨rfl, rfl⟩
   rw [es.1, es.2] at hW
   refine rDestroy_w bq q0 q1 cI cO cJ s0 s1 r0 r1 i x y W hW.ry pg _ (fun hz => absurd hu' hz) (fun _ _ w2 g2 => ⟨rfl, (hW.grown g2).li pg, (Only.grown g2).mono (by simp)⟩) (fun _ hz => by rw [hh] at hz; cases hz)
  ·obtain ⟨rfl, p1, o1⟩ := d2 hh
   obtain ⟨idb, gd1, gd2⟩ := dest_good g up x y hh
   refine ⟨_, rfl, _, rfl, ((Only.grown g0).mono (by simp)).trans (o1.mono (fun j _ e => .inl (pf j e))), fun W gW => ?_⟩
   obtain ⟨F0', F1', h1, _⟩ := hg.prog hi p1 o1
   have hW := h1.grown gW
   refine rDestroy_w bq q0 q1 cI cO cJ s0 s1 r0 r1 i x y W hW.ry pg _ (fun hz => absurd hu' hz) (fun _ hz => by rw [hh] at hz; cases hz) (fun _ _ W' gW' => ?_)
   have hW' := hW.grown gW'
   have jr := rJournal_any bq q0 q1 cI cO cJ _ _ i (pick01 r0 r1 i) (destRec x y) W' hW'.ry.at_ (hW'.ry.at hi).1 hi g.rok g.kb (by rw [g.rct]; exact g.ct) (by have := g.j1; rw [<- e3]; omega) (told_dest idb) ⟨rfl, rfl⟩ (hW'.ry.at hi).2
   refine Calls.mono jr ?_
   rintro e w2 ⟨rfl, a2, o2⟩
   rw [<- e3] at a2 ⊢
   obtain ⟨t1, t2⟩ := hg.turn pg hi p1 o1 (gW.trans gW') a2 o2 gd2 (jrn_cfg _ _)
   exact ⟨_, rfl, by rw [gd1]; rfl, t1, ((Only.grown gW').mono (by simp)).trans (t2.mono (fun _ _ e => .inl e))⟩
end
theorem act_destroy (B bw n : Nat) (sh k m x y : Int) (pl sp : Nat) (t : ByteArray) (w : World) (h : LI w B bw n) (hx : i64B x) (hy : i64B y) :
  Calls Tryz.prog 22 #[.pointer (some ⟨bw, 0, none⟩), .agg #[.int .i64 2, .int .i64 sh, .int .i64 k, .int .i64 m, .int .i64 x, .int .i64 y, .float .f32 pl, .float .f32 sp, .string t]] w fun e w' => e = .returned (.bool true) /\ LI w' B bw n /\ Only w w' (fun j => B <= j) := by
 obtain ⟨bp, b0, b1, bq, q0, q1, bk, cI, cO, cJ, s0, s1, r0, r1, F0, F1, R, lm, pg⟩ := h
 have g0 := World.grownBy_alloc w (.cells #[.int .i64 2, .int .i64 sh, .int .i64 k, .int .i64 m, .int .i64 x, .int .i64 y, .float .f32 pl, .float .f32 sp, .string t] 35) none
 have LMH := Hid.mk' lm
 have G0 := Hid.mk' g0
 have AX := Hid.mk' (At.new w [.int .i64 2, .int .i64 sh, .int .i64 k, .int .i64 m, .int .i64 x, .int .i64 y, .float .f32 pl, .float .f32 sp, .string t] 35)
 have AW := Hid.mk' (lm.lw.grown g0)
 have nqb : Hid (∀ j, j = q0 ∨ j = q1 -> j ≠ bw /\ j < w.heap.size /\ B <= j) := Hid.mk' fun j hj => ⟨(lm.wq j (.inr hj)).1, lm.lt (.inr (.inr (.inl (.inr hj)))), lm.h2 j (.inr hj)⟩
 have nfb : Hid (∀ j, F0 j ∨ F1 j -> j ≠ bw /\ j < w.heap.size /\ B <= j) := Hid.mk' fun j hj => ⟨(lm.wp j (.inr hj)).1, lm.lt (.inr (.inl (.inr hj))), lm.h1 j (.inr hj)⟩
 have BT : Hid (∀ W, w.grownBy W none -> BothE W B bw bp bq q0 q1 F0 F1 n 48 49 [.int .i64 sh, .agg #[.int .i64 x, .int .i64 y]]) := Hid.mk' fun W gW => both_destroy (LMH.out.grown gW) pg sh x y hx hy
 unfold BothE at BT
 clear lm pg g0
 go_enter Tryz.func22, Tryz.ntmps22
 go_wp2_with fail
 refine wp_region_held_drew (S := fun w' => At w' bw (LC bp bq bk) /\ At w' w.heap.size (AC 2 sh k m x y pl sp t)) (by kernel_rfl) (⟨AW.out.drew, AX.out.drew⟩) (fun hHeld => ?_)
 refine hTk 0 ?_
 simp only [lS0, lS1]
 refine hTk 1 ?_
 simp only [lS0, lS1]
 refine hTk 2 ?_
 simp only [lS0, lS1]
 refine hTy 3 rfl (by intro w hSw; have S0 := hSw.1.c 0 _ rfl; go_simp; try with_reducible rfl) ?_
 simp only [lS0, lS1]
 refine hTk 4 ?_
 simp only [lS0, lS1]
 refine hTy 5 rfl (by intro w hSw; have S1 := hSw.2.c 1 _ rfl; go_simp; try with_reducible rfl) ?_
 simp only [lS0, lS1]
 refine hTk 6 ?_
 simp only [lS0, lS1]
 refine hTy 7 rfl (by intro w hSw; have S4 := hSw.2.c 4 _ rfl; have S5 := hSw.2.c 5 _ rfl; go_simp; try with_reducible rfl) ?_
 simp only [lS0, lS1]
 refine hCall 8 (f := 48) (args := #[.pointer (some ⟨bp, 0, none⟩), .int .i64 sh, .agg #[.int .i64 x, .int .i64 y]]) (by kernel_rfl) (by rfl) (by rfl) (by go_simp) ?_
 refine Calls.mono (BT.out _ (grownBy_drew G0.out)) ?_
 rintro e w1 ⟨z, rfl, o1, nx⟩
 have O1 := Hid.mk' o1
 have h1 : At w1 bw (LC bp bq bk) /\ At w1 w.heap.size (AC 2 sh k m x y pl sp t) := ⟨hHeld.1.only o1 (fun e => (nfb.out _ e).1 rfl), hHeld.2.only o1 (fun e => Nat.lt_irrefl _ (nfb.out _ e).2.1)⟩
 have NX1 := Hid.mk' nx
 clear hHeld o1 nx
 have hHeld := h1
 refine ⟨_, rfl, hHeld, ?_⟩
 simp only [lS0, lS1]
 refine hTk 9 ?_
 simp only [lS0, lS1]
 refine wpAnyH_done (by kernel_rfl) ?_ _
 have H1 := Hid.mk' hHeld
 clear hHeld h1
 go_wp2_with fail
 refine wp_region_held_drew (S := fun w' => At w' bw (LC bp bq bk) /\ At w' w.heap.size (AC 2 sh k m x y pl sp t)) (by kernel_rfl) (⟨H1.out.1.drew, H1.out.2.drew⟩) (fun hHeld => ?_)
 refine hTk 0 ?_
 simp only [lS0, lS1]
 refine hTk 1 ?_
 simp only [lS0, lS1]
 refine hTk 2 ?_
 simp only [lS0, lS1]
 refine hTy 3 rfl (by intro w hSw; have S0 := hSw.1.c 1 _ rfl; go_simp; try with_reducible rfl) ?_
 simp only [lS0, lS1]
 refine hTk 4 ?_
 simp only [lS0, lS1]
 refine hTy 5 rfl (by intro w hSw; have S1 := hSw.2.c 1 _ rfl; go_simp; try with_reducible rfl) ?_
 simp only [lS0, lS1]
 refine hTk 6 ?_
 simp only [lS0, lS1]
 refine hTy 7 rfl (by intro w hSw; have S4 := hSw.2.c 4 _ rfl; have S5 := hSw.2.c 5 _ rfl; go_simp; try with_reducible rfl) ?_
 simp only [lS0, lS1]
 refine hCall 8 (f := 49) (args := #[.pointer (some ⟨bq, 0, none⟩), .int .i64 sh, .agg #[.int .i64 x, .int .i64 y]]) (by kernel_rfl) (by rfl) (by rfl) (by go_simp) ?_
 refine Calls.mono (NX1.out _ (grownBy_drew (grownBy_refl _ _))) ?_
 rintro e w2 ⟨rfl, li2, o2⟩
 have L2 := Hid.mk' li2
 have O2 := Hid.mk' o2
 have h2 : At w2 bw (LC bp bq bk) /\ At w2 w.heap.size (AC 2 sh k m x y pl sp t) := ⟨hHeld.1.only o2 (fun e => (nqb.out _ e).1 rfl), hHeld.2.only o2 (fun e => Nat.lt_irrefl _ (nqb.out _ e).2.1)⟩
 clear hHeld o2 li2
 have hHeld := h2
 refine ⟨_, rfl, hHeld, ?_⟩
 simp only [lS0, lS1]
 refine hTk 9 ?_
 simp only [lS0, lS1]
 refine wpAnyH_done (by kernel_rfl) ?_ _
 clear hHeld h2
 have hzz : (z == z) = true := by simp
 go_wp2
 go_ret
 refine ⟨rfl, L2.out, ?_⟩
 exact ((((Only.grown (grownBy_drew G0.out)).mono (by simp)).trans (O1.out.mono (fun j _ e => .inl (nfb.out j e).2.2))).drew).trans (O2.out.mono (fun j _ e => .inl (nqb.out j e).2.2))
theorem act_tick (B bw n : Nat) (sh k m x y : Int) (pl sp : Nat) (t : ByteArray) (w : World) (h : LI w B bw n) :
  Calls Tryz.prog 22 #[.pointer (some ⟨bw, 0, none⟩), .agg #[.int .i64 3, .int .i64 sh, .int .i64 k, .int .i64 m, .int .i64 x, .int .i64 y, .float .f32 pl, .float .f32 sp, .string t]] w fun e w' => e = .returned (.bool true) /\ LI w' B bw n /\ Only w w' (fun j => B <= j) := by
 obtain ⟨bp, b0, b1, bq, q0, q1, bk, cI, cO, cJ, s0, s1, r0, r1, F0, F1, R, lm, pg⟩ := h
 have g0 := World.grownBy_alloc w (.cells #[.int .i64 3, .int .i64 sh, .int .i64 k, .int .i64 m, .int .i64 x, .int .i64 y, .float .f32 pl, .float .f32 sp, .string t] 35) none
 have LMH := Hid.mk' lm
 have G0 := Hid.mk' g0
 have AX := Hid.mk' (At.new w [.int .i64 3, .int .i64 sh, .int .i64 k, .int .i64 m, .int .i64 x, .int .i64 y, .float .f32 pl, .float .f32 sp, .string t] 35)
 have AW := Hid.mk' (lm.lw.grown g0)
 have nqb : Hid (∀ j, j = q0 ∨ j = q1 -> j ≠ bw /\ j < w.heap.size /\ B <= j) := Hid.mk' fun j hj => ⟨(lm.wq j (.inr hj)).1, lm.lt (.inr (.inr (.inl (.inr hj)))), lm.h2 j (.inr hj)⟩
 have nfb : Hid (∀ j, F0 j ∨ F1 j -> j ≠ bw /\ j < w.heap.size /\ B <= j) := Hid.mk' fun j hj => ⟨(lm.wp j (.inr hj)).1, lm.lt (.inr (.inl (.inr hj))), lm.h1 j (.inr hj)⟩
 have BT : Hid (∀ W, w.grownBy W none -> BothE W B bw bp bq q0 q1 F0 F1 n 33 50 [.int .i64 sh]) := Hid.mk' fun W gW => both_tick (LMH.out.grown gW) pg sh
 unfold BothE at BT
 clear lm pg g0
 go_enter Tryz.func22, Tryz.ntmps22
 go_wp2_with fail
 refine wp_region_held_drew (S := fun w' => At w' bw (LC bp bq bk) /\ At w' w.heap.size (AC 3 sh k m x y pl sp t)) (by kernel_rfl) (⟨AW.out.drew, AX.out.drew⟩) (fun hHeld => ?_)
 refine hTk 0 ?_
 simp only [lS0, lS1]
 refine hTk 1 ?_
 simp only [lS0, lS1]
 refine hTk 2 ?_
 simp only [lS0, lS1]
 refine hTy 3 rfl (by intro w hSw; have S0 := hSw.1.c 0 _ rfl; go_simp; try with_reducible rfl) ?_
 simp only [lS0, lS1]
 refine hTk 4 ?_
 simp only [lS0, lS1]
 refine hTy 5 rfl (by intro w hSw; have S1 := hSw.2.c 1 _ rfl; go_simp; try with_reducible rfl) ?_
 simp only [lS0, lS1]
 refine hCall 6 (f := 33) (args := #[.pointer (some ⟨bp, 0, none⟩), .int .i64 sh]) (by kernel_rfl) (by rfl) (by rfl) (by go_simp) ?_
 refine Calls.mono (BT.out _ (grownBy_drew G0.out)) ?_
 rintro e w1 ⟨z, rfl, o1, nx⟩
 have O1 := Hid.mk' o1
 have h1 : At w1 bw (LC bp bq bk) /\ At w1 w.heap.size (AC 3 sh k m x y pl sp t) := ⟨hHeld.1.only o1 (fun e => (nfb.out _ e).1 rfl), hHeld.2.only o1 (fun e => Nat.lt_irrefl _ (nfb.out _ e).2.1)⟩
 have NX1 := Hid.mk' nx
 clear hHeld o1 nx
 have hHeld := h1
 refine ⟨_, rfl, hHeld, ?_⟩
 simp only [lS0, lS1]
 refine hTk 7 ?_
 simp only [lS0, lS1]
 refine wpAnyH_done (by kernel_rfl) ?_ _
 have H1 := Hid.mk' hHeld
 clear hHeld h1
 go_wp2_with fail
 refine wp_region_held_drew (S := fun w' => At w' bw (LC bp bq bk) /\ At w' w.heap.size (AC 3 sh k m x y pl sp t)) (by kernel_rfl) (⟨H1.out.1.drew, H1.out.2.drew⟩) (fun hHeld => ?_)
 refine hTk 0 ?_
 simp only [lS0, lS1]
 refine hTk 1 ?_
 simp only [lS0, lS1]
 refine hTk 2 ?_
 simp only [lS0, lS1]
 refine hTy 3 rfl (by intro w hSw; have S0 := hSw.1.c 1 _ rfl; go_simp; try with_reducible rfl) ?_
 simp only [lS0, lS1]
 refine hTk 4 ?_
 simp only [lS0, lS1]
 refine hTy 5 rfl (by intro w hSw; have S1 := hSw.2.c 1 _ rfl; go_simp; try with_reducible rfl) ?_
 simp only [lS0, lS1]
 refine hCall 6 (f := 50) (args := #[.pointer (some ⟨bq, 0, none⟩), .int .i64 sh]) (by kernel_rfl) (by rfl) (by rfl) (by go_simp) ?_
 refine Calls.mono (NX1.out _ (grownBy_drew (grownBy_refl _ _))) ?_
 rintro e w2 ⟨rfl, li2, o2⟩
 have L2 := Hid.mk' li2
 have O2 := Hid.mk' o2
 have h2 : At w2 bw (LC bp bq bk) /\ At w2 w.heap.size (AC 3 sh k m x y pl sp t) := ⟨hHeld.1.only o2 (fun e => (nqb.out _ e).1 rfl), hHeld.2.only o2 (fun e => Nat.lt_irrefl _ (nqb.out _ e).2.1)⟩
 clear hHeld o2 li2
 have hHeld := h2
 refine ⟨_, rfl, hHeld, ?_⟩
 simp only [lS0, lS1]
 refine hTk 7 ?_
 simp only [lS0, lS1]
 refine wpAnyH_done (by kernel_rfl) ?_ _
 clear hHeld h2
 have hzz : (z == z) = true := by simp
 go_wp2
 go_ret
 refine ⟨rfl, L2.out, ?_⟩
 exact ((((Only.grown (grownBy_drew G0.out)).mono (by simp)).trans (O1.out.mono (fun j _ e => .inl (nfb.out j e).2.2))).drew).trans (O2.out.mono (fun j _ e => .inl (nqb.out j e).2.2))
theorem act_snap (B bw n : Nat) (sh k m x y : Int) (pl sp : Nat) (t : ByteArray) (w : World) (h : LI w B bw n) :
  Calls Tryz.prog 22 #[.pointer (some ⟨bw, 0, none⟩), .agg #[.int .i64 4, .int .i64 sh, .int .i64 k, .int .i64 m, .int .i64 x, .int .i64 y, .float .f32 pl, .float .f32 sp, .string t]] w fun e w' => e = .returned (.bool true) /\ LI w' B bw n /\ Only w w' (fun j => B <= j) := by
 obtain ⟨bp, b0, b1, bq, q0, q1, bk, cI, cO, cJ, s0, s1, r0, r1, F0, F1, R, lm, pg⟩ := h
 have g0 := World.grownBy_alloc w (.cells #[.int .i64 4, .int .i64 sh, .int .i64 k, .int .i64 m, .int .i64 x, .int .i64 y, .float .f32 pl, .float .f32 sp, .string t] 35) none
 have LMH := Hid.mk' lm
 have G0 := Hid.mk' g0
 have AX := Hid.mk' (At.new w [.int .i64 4, .int .i64 sh, .int .i64 k, .int .i64 m, .int .i64 x, .int .i64 y, .float .f32 pl, .float .f32 sp, .string t] 35)
 have AW := Hid.mk' (lm.lw.grown g0)
 have nqb : Hid (∀ j, j = q0 ∨ j = q1 -> j ≠ bw /\ j < w.heap.size /\ B <= j) := Hid.mk' fun j hj => ⟨(lm.wq j (.inr hj)).1, lm.lt (.inr (.inr (.inl (.inr hj)))), lm.h2 j (.inr hj)⟩
 have nfb : Hid (∀ j, F0 j ∨ F1 j -> j ≠ bw /\ j < w.heap.size /\ B <= j) := Hid.mk' fun j hj => ⟨(lm.wp j (.inr hj)).1, lm.lt (.inr (.inl (.inr hj))), lm.h1 j (.inr hj)⟩
 have BT : Hid (∀ W, w.grownBy W none -> BothE W B bw bp bq q0 q1 F0 F1 n 28 51 [.int .i64 sh]) := Hid.mk' fun W gW => both_snap (LMH.out.grown gW) pg sh
 unfold BothE at BT
 clear lm pg g0
 go_enter Tryz.func22, Tryz.ntmps22
 go_wp2_with fail
 refine wp_region_held_drew (S := fun w' => At w' bw (LC bp bq bk) /\ At w' w.heap.size (AC 4 sh k m x y pl sp t)) (by kernel_rfl) (⟨AW.out.drew, AX.out.drew⟩) (fun hHeld => ?_)
 refine hTk 0 ?_
 simp only [lS0, lS1]
 refine hTk 1 ?_
 simp only [lS0, lS1]
 refine hTk 2 ?_
 simp only [lS0, lS1]
 refine hTy 3 rfl (by intro w hSw; have S0 := hSw.1.c 0 _ rfl; go_simp; try with_reducible rfl) ?_
 simp only [lS0, lS1]
 refine hTk 4 ?_
 simp only [lS0, lS1]
 refine hTy 5 rfl (by intro w hSw; have S1 := hSw.2.c 1 _ rfl; go_simp; try with_reducible rfl) ?_
 simp only [lS0, lS1]
 refine hCall 6 (f := 28) (args := #[.pointer (some ⟨bp, 0, none⟩), .int .i64 sh]) (by kernel_rfl) (by rfl) (by rfl) (by go_simp) ?_
 refine Calls.mono (BT.out _ (grownBy_drew G0.out)) ?_
 rintro e w1 ⟨z, rfl, o1, nx⟩
 have O1 := Hid.mk' o1
 have h1 : At w1 bw (LC bp bq bk) /\ At w1 w.heap.size (AC 4 sh k m x y pl sp t) := ⟨hHeld.1.only o1 (fun e => (nfb.out _ e).1 rfl), hHeld.2.only o1 (fun e => Nat.lt_irrefl _ (nfb.out _ e).2.1)⟩
 have NX1 := Hid.mk' nx
 clear hHeld o1 nx
 have hHeld := h1
 refine ⟨_, rfl, hHeld, ?_⟩
 simp only [lS0, lS1]
 refine hTk 7 ?_
 simp only [lS0, lS1]
 refine wpAnyH_done (by kernel_rfl) ?_ _
 have H1 := Hid.mk' hHeld
 clear hHeld h1
 go_wp2_with fail
 refine wp_region_held_drew (S := fun w' => At w' bw (LC bp bq bk) /\ At w' w.heap.size (AC 4 sh k m x y pl sp t)) (by kernel_rfl) (⟨H1.out.1.drew, H1.out.2.drew⟩) (fun hHeld => ?_)
 refine hTk 0 ?_
 simp only [lS0, lS1]
 refine hTk 1 ?_
 simp only [lS0, lS1]
 refine hTk 2 ?_
 simp only [lS0, lS1]
 refine hTy 3 rfl (by intro w hSw; have S0 := hSw.1.c 1 _ rfl; go_simp; try with_reducible rfl) ?_
 simp only [lS0, lS1]
 refine hTk 4 ?_
 simp only [lS0, lS1]
 refine hTy 5 rfl (by intro w hSw; have S1 := hSw.2.c 1 _ rfl; go_simp; try with_reducible rfl) ?_
 simp only [lS0, lS1]
 refine hCall 6 (f := 51) (args := #[.pointer (some ⟨bq, 0, none⟩), .int .i64 sh]) (by kernel_rfl) (by rfl) (by rfl) (by go_simp) ?_
 refine Calls.mono (NX1.out _ (grownBy_drew (grownBy_refl _ _))) ?_
 rintro e w2 ⟨rfl, li2, o2⟩
 have L2 := Hid.mk' li2
 have O2 := Hid.mk' o2
 have h2 : At w2 bw (LC bp bq bk) /\ At w2 w.heap.size (AC 4 sh k m x y pl sp t) := ⟨hHeld.1.only o2 (fun e => (nqb.out _ e).1 rfl), hHeld.2.only o2 (fun e => Nat.lt_irrefl _ (nqb.out _ e).2.1)⟩
 clear hHeld o2 li2
 have hHeld := h2
 refine ⟨_, rfl, hHeld, ?_⟩
 simp only [lS0, lS1]
 refine hTk 7 ?_
 simp only [lS0, lS1]
 refine wpAnyH_done (by kernel_rfl) ?_ _
 clear hHeld h2
 have hzz : (z == z) = true := by simp
 go_wp2
 go_ret
 refine ⟨rfl, L2.out, ?_⟩
 exact ((((Only.grown (grownBy_drew G0.out)).mono (by simp)).trans (O1.out.mono (fun j _ e => .inl (nfb.out j e).2.2))).drew).trans (O2.out.mono (fun j _ e => .inl (nqb.out j e).2.2))
theorem act_break (B bw n : Nat) (sh k m x y : Int) (pl sp : Nat) (t : ByteArray) (w : World) (h : LI w B bw n) (hk : i64B k) (hm : i64B m) :
  Calls Tryz.prog 22 #[.pointer (some ⟨bw, 0, none⟩), .agg #[.int .i64 5, .int .i64 sh, .int .i64 k, .int .i64 m, .int .i64 x, .int .i64 y, .float .f32 pl, .float .f32 sp, .string t]] w fun e w' => e = .returned (.bool true) /\ LI w' B bw n /\ Only w w' (fun j => B <= j) := by
 obtain ⟨bp, b0, b1, bq, q0, q1, bk, cI, cO, cJ, s0, s1, r0, r1, F0, F1, R, lm, pg⟩ := h
 have g0 := World.grownBy_alloc w (.cells #[.int .i64 5, .int .i64 sh, .int .i64 k, .int .i64 m, .int .i64 x, .int .i64 y, .float .f32 pl, .float .f32 sp, .string t] 35) none
 have LMH := Hid.mk' lm
 have G0 := Hid.mk' g0
 have AX := Hid.mk' (At.new w [.int .i64 5, .int .i64 sh, .int .i64 k, .int .i64 m, .int .i64 x, .int .i64 y, .float .f32 pl, .float .f32 sp, .string t] 35)
 have AW := Hid.mk' (lm.lw.grown g0)
 have nqb : Hid (∀ j, j = q0 ∨ j = q1 -> j ≠ bw /\ j < w.heap.size /\ B <= j) := Hid.mk' fun j hj => ⟨(lm.wq j (.inr hj)).1, lm.lt (.inr (.inr (.inl (.inr hj)))), lm.h2 j (.inr hj)⟩
 have nfb : Hid (∀ j, F0 j ∨ F1 j -> j ≠ bw /\ j < w.heap.size /\ B <= j) := Hid.mk' fun j hj => ⟨(lm.wp j (.inr hj)).1, lm.lt (.inr (.inl (.inr hj))), lm.h1 j (.inr hj)⟩
 have BT : Hid (∀ W, w.grownBy W none -> BothE W B bw bp bq q0 q1 F0 F1 n 27 52 [.int .i64 sh, .int .i64 k, .int .i64 m]) := Hid.mk' fun W gW => both_break (LMH.out.grown gW) pg sh k m hk.2 hm
 unfold BothE at BT
 clear lm pg g0
 go_enter Tryz.func22, Tryz.ntmps22
 go_wp2_with fail
 refine wp_region_held_drew (S := fun w' => At w' bw (LC bp bq bk) /\ At w' w.heap.size (AC 5 sh k m x y pl sp t)) (by kernel_rfl) (⟨AW.out.drew, AX.out.drew⟩) (fun hHeld => ?_)
 refine hTk 0 ?_
 simp only [lS0, lS1]
 refine hTk 1 ?_
 simp only [lS0, lS1]
 refine hTk 2 ?_
 simp only [lS0, lS1]
 refine hTy 3 rfl (by intro w hSw; have S0 := hSw.1.c 0 _ rfl; go_simp; try with_reducible rfl) ?_
 simp only [lS0, lS1]
 refine hTk 4 ?_
 simp only [lS0, lS1]
 refine hTy 5 rfl (by intro w hSw; have S1 := hSw.2.c 1 _ rfl; go_simp; try with_reducible rfl) ?_
 simp only [lS0, lS1]
 refine hTk 6 ?_
 simp only [lS0, lS1]
 refine hTy 7 rfl (by intro w hSw; have S2 := hSw.2.c 2 _ rfl; go_simp; try with_reducible rfl) ?_
 simp only [lS0, lS1]
 refine hTk 8 ?_
 simp only [lS0, lS1]
 refine hTy 9 rfl (by intro w hSw; have S3 := hSw.2.c 3 _ rfl; go_simp; try with_reducible rfl) ?_
 simp only [lS0, lS1]
 refine hCall 10 (f := 27) (args := #[.pointer (some ⟨bp, 0, none⟩), .int .i64 sh, .int .i64 k, .int .i64 m]) (by kernel_rfl) (by rfl) (by rfl) (by go_simp) ?_
 refine Calls.mono (BT.out _ (grownBy_drew G0.out)) ?_
 rintro e w1 ⟨z, rfl, o1, nx⟩
 have O1 := Hid.mk' o1
 have h1 : At w1 bw (LC bp bq bk) /\ At w1 w.heap.size (AC 5 sh k m x y pl sp t) := ⟨hHeld.1.only o1 (fun e => (nfb.out _ e).1 rfl), hHeld.2.only o1 (fun e => Nat.lt_irrefl _ (nfb.out _ e).2.1)⟩
 have NX1 := Hid.mk' nx
 clear hHeld o1 nx
 have hHeld := h1
 refine ⟨_, rfl, hHeld, ?_⟩
 simp only [lS0, lS1]
 refine hTk 11 ?_
 simp only [lS0, lS1]
 refine wpAnyH_done (by kernel_rfl) ?_ _
 have H1 := Hid.mk' hHeld
 clear hHeld h1
 go_wp2_with fail
 refine wp_region_held_drew (S := fun w' => At w' bw (LC bp bq bk) /\ At w' w.heap.size (AC 5 sh k m x y pl sp t)) (by kernel_rfl) (⟨H1.out.1.drew, H1.out.2.drew⟩) (fun hHeld => ?_)
 refine hTk 0 ?_
 simp only [lS0, lS1]
 refine hTk 1 ?_
 simp only [lS0, lS1]
 refine hTk 2 ?_
 simp only [lS0, lS1]
 refine hTy 3 rfl (by intro w hSw; have S0 := hSw.1.c 1 _ rfl; go_simp; try with_reducible rfl) ?_
 simp only [lS0, lS1]
 refine hTk 4 ?_
 simp only [lS0, lS1]
 refine hTy 5 rfl (by intro w hSw; have S1 := hSw.2.c 1 _ rfl; go_simp; try with_reducible rfl) ?_
 simp only [lS0, lS1]
 refine hTk 6 ?_
 simp only [lS0, lS1]
 refine hTy 7 rfl (by intro w hSw; have S2 := hSw.2.c 2 _ rfl; go_simp; try with_reducible rfl) ?_
 simp only [lS0, lS1]
 refine hTk 8 ?_
 simp only [lS0, lS1]
 refine hTy 9 rfl (by intro w hSw; have S3 := hSw.2.c 3 _ rfl; go_simp; try with_reducible rfl) ?_
 simp only [lS0, lS1]
 refine hCall 10 (f := 52) (args := #[.pointer (some ⟨bq, 0, none⟩), .int .i64 sh, .int .i64 k, .int .i64 m]) (by kernel_rfl) (by rfl) (by rfl) (by go_simp) ?_
 refine Calls.mono (NX1.out _ (grownBy_drew (grownBy_refl _ _))) ?_
 rintro e w2 ⟨rfl, li2, o2⟩
 have L2 := Hid.mk' li2
 have O2 := Hid.mk' o2
 have h2 : At w2 bw (LC bp bq bk) /\ At w2 w.heap.size (AC 5 sh k m x y pl sp t) := ⟨hHeld.1.only o2 (fun e => (nqb.out _ e).1 rfl), hHeld.2.only o2 (fun e => Nat.lt_irrefl _ (nqb.out _ e).2.1)⟩
 clear hHeld o2 li2
 have hHeld := h2
 refine ⟨_, rfl, hHeld, ?_⟩
 simp only [lS0, lS1]
 refine hTk 11 ?_
 simp only [lS0, lS1]
 refine wpAnyH_done (by kernel_rfl) ?_ _
 clear hHeld h2
 have hzz : (z == z) = true := by simp
 go_wp2
 go_ret
 refine ⟨rfl, L2.out, ?_⟩
 exact ((((Only.grown (grownBy_drew G0.out)).mono (by simp)).trans (O1.out.mono (fun j _ e => .inl (nfb.out j e).2.2))).drew).trans (O2.out.mono (fun j _ e => .inl (nqb.out j e).2.2))
theorem act_crash (B bw n : Nat) (sh k m x y : Int) (pl sp : Nat) (t : ByteArray) (w : World) (h : LI w B bw n) (hm : i64B m) :
  Calls Tryz.prog 22 #[.pointer (some ⟨bw, 0, none⟩), .agg #[.int .i64 6, .int .i64 sh, .int .i64 k, .int .i64 m, .int .i64 x, .int .i64 y, .float .f32 pl, .float .f32 sp, .string t]] w fun e w' => e = .returned (.bool true) /\ LI w' B bw n /\ Only w w' (fun j => B <= j) := by
 obtain ⟨bp, b0, b1, bq, q0, q1, bk, cI, cO, cJ, s0, s1, r0, r1, F0, F1, R, lm, pg⟩ := h
 have g0 := World.grownBy_alloc w (.cells #[.int .i64 6, .int .i64 sh, .int .i64 k, .int .i64 m, .int .i64 x, .int .i64 y, .float .f32 pl, .float .f32 sp, .string t] 35) none
 have LMH := Hid.mk' lm
 have G0 := Hid.mk' g0
 have AX := Hid.mk' (At.new w [.int .i64 6, .int .i64 sh, .int .i64 k, .int .i64 m, .int .i64 x, .int .i64 y, .float .f32 pl, .float .f32 sp, .string t] 35)
 have AW := Hid.mk' (lm.lw.grown g0)
 have nqb : Hid (∀ j, j = q0 ∨ j = q1 -> j ≠ bw /\ j < w.heap.size /\ B <= j) := Hid.mk' fun j hj => ⟨(lm.wq j (.inr hj)).1, lm.lt (.inr (.inr (.inl (.inr hj)))), lm.h2 j (.inr hj)⟩
 have nfb : Hid (∀ j, F0 j ∨ F1 j -> j ≠ bw /\ j < w.heap.size /\ B <= j) := Hid.mk' fun j hj => ⟨(lm.wp j (.inr hj)).1, lm.lt (.inr (.inl (.inr hj))), lm.h1 j (.inr hj)⟩
 have BT : Hid (∀ W, w.grownBy W none -> BothE W B bw bp bq q0 q1 F0 F1 n 18 53 [.int .i64 sh, .int .i64 m]) := Hid.mk' fun W gW => both_crash (LMH.out.grown gW) pg sh m hm
 unfold BothE at BT
 clear lm pg g0
 go_enter Tryz.func22, Tryz.ntmps22
 go_wp2_with fail
 refine wp_region_held_drew (S := fun w' => At w' bw (LC bp bq bk) /\ At w' w.heap.size (AC 6 sh k m x y pl sp t)) (by kernel_rfl) (⟨AW.out.drew, AX.out.drew⟩) (fun hHeld => ?_)
 refine hTk 0 ?_
 simp only [lS0, lS1]
 refine hTk 1 ?_
 simp only [lS0, lS1]
 refine hTk 2 ?_
 simp only [lS0, lS1]
 refine hTy 3 rfl (by intro w hSw; have S0 := hSw.1.c 0 _ rfl; go_simp; try with_reducible rfl) ?_
 simp only [lS0, lS1]
 refine hTk 4 ?_
 simp only [lS0, lS1]
 refine hTy 5 rfl (by intro w hSw; have S1 := hSw.2.c 1 _ rfl; go_simp; try with_reducible rfl) ?_
 simp only [lS0, lS1]
 refine hTk 6 ?_
 simp only [lS0, lS1]
 refine hTy 7 rfl (by intro w hSw; have S3 := hSw.2.c 3 _ rfl; go_simp; try with_reducible rfl) ?_
 simp only [lS0, lS1]
 refine hCall 8 (f := 18) (args := #[.pointer (some ⟨bp, 0, none⟩), .int .i64 sh, .int .i64 m]) (by kernel_rfl) (by rfl) (by rfl) (by go_simp) ?_
 refine Calls.mono (BT.out _ (grownBy_drew G0.out)) ?_
 rintro e w1 ⟨z, rfl, o1, nx⟩
 have O1 := Hid.mk' o1
 have h1 : At w1 bw (LC bp bq bk) /\ At w1 w.heap.size (AC 6 sh k m x y pl sp t) := ⟨hHeld.1.only o1 (fun e => (nfb.out _ e).1 rfl), hHeld.2.only o1 (fun e => Nat.lt_irrefl _ (nfb.out _ e).2.1)⟩
 have NX1 := Hid.mk' nx
 clear hHeld o1 nx
 have hHeld := h1
 refine ⟨_, rfl, hHeld, ?_⟩
 simp only [lS0, lS1]
 refine hTk 9 ?_
 simp only [lS0, lS1]
 refine wpAnyH_done (by kernel_rfl) ?_ _
 have H1 := Hid.mk' hHeld
 clear hHeld h1
 go_wp2_with fail
 refine wp_region_held_drew (S := fun w' => At w' bw (LC bp bq bk) /\ At w' w.heap.size (AC 6 sh k m x y pl sp t)) (by kernel_rfl) (⟨H1.out.1.drew, H1.out.2.drew⟩) (fun hHeld => ?_)
 refine hTk 0 ?_
 simp only [lS0, lS1]
 refine hTk 1 ?_
 simp only [lS0, lS1]
 refine hTk 2 ?_
 simp only [lS0, lS1]
 refine hTy 3 rfl (by intro w hSw; have S0 := hSw.1.c 1 _ rfl; go_simp; try with_reducible rfl) ?_
 simp only [lS0, lS1]
 refine hTk 4 ?_
 simp only [lS0, lS1]
 refine hTy 5 rfl (by intro w hSw; have S1 := hSw.2.c 1 _ rfl; go_simp; try with_reducible rfl) ?_
 simp only [lS0, lS1]
 refine hTk 6 ?_
 simp only [lS0, lS1]
 refine hTy 7 rfl (by intro w hSw; have S3 := hSw.2.c 3 _ rfl; go_simp; try with_reducible rfl) ?_
 simp only [lS0, lS1]
 refine hCall 8 (f := 53) (args := #[.pointer (some ⟨bq, 0, none⟩), .int .i64 sh, .int .i64 m]) (by kernel_rfl) (by rfl) (by rfl) (by go_simp) ?_
 refine Calls.mono (NX1.out _ (grownBy_drew (grownBy_refl _ _))) ?_
 rintro e w2 ⟨rfl, li2, o2⟩
 have L2 := Hid.mk' li2
 have O2 := Hid.mk' o2
 have h2 : At w2 bw (LC bp bq bk) /\ At w2 w.heap.size (AC 6 sh k m x y pl sp t) := ⟨hHeld.1.only o2 (fun e => (nqb.out _ e).1 rfl), hHeld.2.only o2 (fun e => Nat.lt_irrefl _ (nqb.out _ e).2.1)⟩
 clear hHeld o2 li2
 have hHeld := h2
 refine ⟨_, rfl, hHeld, ?_⟩
 simp only [lS0, lS1]
 refine hTk 9 ?_
 simp only [lS0, lS1]
 refine wpAnyH_done (by kernel_rfl) ?_ _
 clear hHeld h2
 have hzz : (z == z) = true := by simp
 go_wp2
 go_ret
 refine ⟨rfl, L2.out, ?_⟩
 exact ((((Only.grown (grownBy_drew G0.out)).mono (by simp)).trans (O1.out.mono (fun j _ e => .inl (nfb.out j e).2.2))).drew).trans (O2.out.mono (fun j _ e => .inl (nqb.out j e).2.2))
theorem act_restart (B bw n : Nat) (sh k m x y : Int) (pl sp : Nat) (t : ByteArray) (w : World) (h : LI w B bw n) :
  Calls Tryz.prog 22 #[.pointer (some ⟨bw, 0, none⟩), .agg #[.int .i64 7, .int .i64 sh, .int .i64 k, .int .i64 m, .int .i64 x, .int .i64 y, .float .f32 pl, .float .f32 sp, .string t]] w fun e w' => e = .returned (.bool true) /\ LI w' B bw n /\ Only w w' (fun j => B <= j) := by
 obtain ⟨bp, b0, b1, bq, q0, q1, bk, cI, cO, cJ, s0, s1, r0, r1, F0, F1, R, lm, pg⟩ := h
 have g0 := World.grownBy_alloc w (.cells #[.int .i64 7, .int .i64 sh, .int .i64 k, .int .i64 m, .int .i64 x, .int .i64 y, .float .f32 pl, .float .f32 sp, .string t] 35) none
 have LMH := Hid.mk' lm
 have G0 := Hid.mk' g0
 have AX := Hid.mk' (At.new w [.int .i64 7, .int .i64 sh, .int .i64 k, .int .i64 m, .int .i64 x, .int .i64 y, .float .f32 pl, .float .f32 sp, .string t] 35)
 have AW := Hid.mk' (lm.lw.grown g0)
 have nqb : Hid (∀ j, j = q0 ∨ j = q1 -> j ≠ bw /\ j < w.heap.size /\ B <= j) := Hid.mk' fun j hj => ⟨(lm.wq j (.inr hj)).1, lm.lt (.inr (.inr (.inl (.inr hj)))), lm.h2 j (.inr hj)⟩
 have nfb : Hid (∀ j, F0 j ∨ F1 j -> j ≠ bw /\ j < w.heap.size /\ B <= j) := Hid.mk' fun j hj => ⟨(lm.wp j (.inr hj)).1, lm.lt (.inr (.inl (.inr hj))), lm.h1 j (.inr hj)⟩
 have BT : Hid (∀ W, w.grownBy W none -> BothE W B bw bp bq q0 q1 F0 F1 n 17 54 [.int .i64 sh]) := Hid.mk' fun W gW => both_restart (LMH.out.grown gW) pg sh
 unfold BothE at BT
 clear lm pg g0
 go_enter Tryz.func22, Tryz.ntmps22
 go_wp2_with fail
 refine wp_region_held_drew (S := fun w' => At w' bw (LC bp bq bk) /\ At w' w.heap.size (AC 7 sh k m x y pl sp t)) (by kernel_rfl) (⟨AW.out.drew, AX.out.drew⟩) (fun hHeld => ?_)
 refine hTk 0 ?_
 simp only [lS0, lS1]
 refine hTk 1 ?_
 simp only [lS0, lS1]
 refine hTk 2 ?_
 simp only [lS0, lS1]
 refine hTy 3 rfl (by intro w hSw; have S0 := hSw.1.c 0 _ rfl; go_simp; try with_reducible rfl) ?_
 simp only [lS0, lS1]
 refine hTk 4 ?_
 simp only [lS0, lS1]
 refine hTy 5 rfl (by intro w hSw; have S1 := hSw.2.c 1 _ rfl; go_simp; try with_reducible rfl) ?_
 simp only [lS0, lS1]
 refine hCall 6 (f := 17) (args := #[.pointer (some ⟨bp, 0, none⟩), .int .i64 sh]) (by kernel_rfl) (by rfl) (by rfl) (by go_simp) ?_
 refine Calls.mono (BT.out _ (grownBy_drew G0.out)) ?_
 rintro e w1 ⟨z, rfl, o1, nx⟩
 have O1 := Hid.mk' o1
 have h1 : At w1 bw (LC bp bq bk) /\ At w1 w.heap.size (AC 7 sh k m x y pl sp t) := ⟨hHeld.1.only o1 (fun e => (nfb.out _ e).1 rfl), hHeld.2.only o1 (fun e => Nat.lt_irrefl _ (nfb.out _ e).2.1)⟩
 have NX1 := Hid.mk' nx
 clear hHeld o1 nx
 have hHeld := h1
 refine ⟨_, rfl, hHeld, ?_⟩
 simp only [lS0, lS1]
 refine hTk 7 ?_
 simp only [lS0, lS1]
 refine wpAnyH_done (by kernel_rfl) ?_ _
 have H1 := Hid.mk' hHeld
 clear hHeld h1
 go_wp2_with fail
 refine wp_region_held_drew (S := fun w' => At w' bw (LC bp bq bk) /\ At w' w.heap.size (AC 7 sh k m x y pl sp t)) (by kernel_rfl) (⟨H1.out.1.drew, H1.out.2.drew⟩) (fun hHeld => ?_)
 refine hTk 0 ?_
 simp only [lS0, lS1]
 refine hTk 1 ?_
 simp only [lS0, lS1]
 refine hTk 2 ?_
 simp only [lS0, lS1]
 refine hTy 3 rfl (by intro w hSw; have S0 := hSw.1.c 1 _ rfl; go_simp; try with_reducible rfl) ?_
 simp only [lS0, lS1]
 refine hTk 4 ?_
 simp only [lS0, lS1]
 refine hTy 5 rfl (by intro w hSw; have S1 := hSw.2.c 1 _ rfl; go_simp; try with_reducible rfl) ?_
 simp only [lS0, lS1]
 refine hCall 6 (f := 54) (args := #[.pointer (some ⟨bq, 0, none⟩), .int .i64 sh]) (by kernel_rfl) (by rfl) (by rfl) (by go_simp) ?_
 refine Calls.mono (NX1.out _ (grownBy_drew (grownBy_refl _ _))) ?_
 rintro e w2 ⟨rfl, li2, o2⟩
 have L2 := Hid.mk' li2
 have O2 := Hid.mk' o2
 have h2 : At w2 bw (LC bp bq bk) /\ At w2 w.heap.size (AC 7 sh k m x y pl sp t) := ⟨hHeld.1.only o2 (fun e => (nqb.out _ e).1 rfl), hHeld.2.only o2 (fun e => Nat.lt_irrefl _ (nqb.out _ e).2.1)⟩
 clear hHeld o2 li2
 have hHeld := h2
 refine ⟨_, rfl, hHeld, ?_⟩
 simp only [lS0, lS1]
 refine hTk 7 ?_
 simp only [lS0, lS1]
 refine wpAnyH_done (by kernel_rfl) ?_ _
 clear hHeld h2
 have hzz : (z == z) = true := by simp
 go_wp2
 go_ret
 refine ⟨rfl, L2.out, ?_⟩
 exact ((((Only.grown (grownBy_drew G0.out)).mono (by simp)).trans (O1.out.mono (fun j _ e => .inl (nfb.out j e).2.2))).drew).trans (O2.out.mono (fun j _ e => .inl (nqb.out j e).2.2))
theorem both_mint {w : World} {B bw bp b0 b1 bq q0 q1 bk : Nat} {cI cO cJ : Int} {s0 s1 : Sh} {r0 r1 : Rs} {F0 F1 R : Nat -> Prop} {n : Nat} (h : LM w B bw bp b0 b1 bq q0 q1 bk cI cO cJ s0 s1 r0 r1 F0 F1 R n) (pg : PG cI cO cJ s0 s1 r0 r1) (H : Nat) (hH : ∀ j, LF bw bp bq q0 q1 F0 F1 R j -> j < H) (hHw : H <= w.heap.size) (sh : Int) (pl sp : Nat) (wp : pl < 4294967296) (wq : sp < 4294967296) :
  Calls Tryz.prog 46 #[.pointer (some ⟨bp, 0, none⟩), .int .i64 sh, .float .f32 pl, .float .f32 sp] w fun e w1 => ∃ x y z : Int, e = .returned (idE x y z) /\ Only w w1 (fun j => F0 j ∨ F1 j) /\ ∀ W, Only w1 W (fun j => (H <= j /\ j < w.heap.size) ∨ w1.heap.size <= j) -> Calls Tryz.prog 47 #[.pointer (some ⟨bq, 0, none⟩), .int .i64 sh, .float .f32 pl, .float .f32 sp] W fun e' w2 => e' = .returned (idE x y z) /\ Only W w2 (fun j => j = q0 ∨ j = q1) /\ ∀ V, Only w2 V (fun j => (H <= j /\ j < w.heap.size) ∨ w1.heap.size <= j) -> LI V B bw n := by
 have g0 := World.grownBy_alloc w (.cells #[.int .i64 0, .int .i64 0] 32) none
 have hg := h.grown g0
 have lf : ∀ j, LF bw bp bq q0 q1 F0 F1 R j -> ¬ j = w.heap.size := fun j hj e => by have := hH j hj; omega
 refine pMint_w bp b0 b1 _ _ s0.up s1.up sh pl sp w hg.pp.at_ (up_ps b0 s0 F0 _ hg.pp.p0) (up_ps b1 s1 F1 _ hg.pp.p1) _ (fun hu w1 o1 => ⟨_, _, _, rfl, ((Only.grown g0).mono (by simp)).trans (o1.mono (fun j _ e => .inr (by omega))), fun W oW => ?_⟩) (fun hu => ?_)
 ·have z1 := o1.size
  have z0 := g0.size
  have nA : ∀ j, LF bw bp bq q0 q1 F0 F1 R j -> ¬ ((H <= j /\ j < w.heap.size) ∨ w1.heap.size <= j) := fun j hj e => by have := hH j hj; omega
  have h' := (hg.only o1 lf).only oW nA
  refine (rMint_any bq q0 q1 cI cO cJ s0 s1 r0 r1 sh pl sp W h'.ry pg wp wq).mono ?_
  rintro e w2 ⟨k1, _⟩
  obtain ⟨he, g2⟩ := k1 (by rw [pg.up]; exact hu)
  exact ⟨by rw [he, pg.up], (Only.grown g2).mono (by simp), fun V oV => ((h'.grown g2).only oV nA).li pg⟩
 ·obtain ⟨hi, up⟩ := up_at hu
  obtain ⟨ps, pf, pll⟩ := hg.pp.at hi
  obtain ⟨g, hn, e1, e2, e3⟩ := pg.at hi
  obtain ⟨_, _, _, _, _, has, _⟩ := g.has up
  have gd := mint_good g up pl sp wp wq
  rw [e1, e3] at gd
  refine (mint_ps (pick01 b0 b1 sh) (pick01 s0 s1 sh) (pick01 F0 F1 sh) pl sp _ ps pll up g.ct (by have := g.j1; omega) g.no has.mo.m0 has.mo.m1 wp wq).mono ?_
  rintro e w1 ⟨rfl, p1, o1⟩
  have nX : ¬ pick01 F0 F1 sh w.heap.size := fun e => lf _ (.inr (.inl (.inr (pf _ e)))) rfl
  refine ⟨_, _, _, rfl, (At.new w [.int .i64 0, .int .i64 0] 32).only o1 nX, fun w2 o2 => ⟨_, _, _, rfl, (((Only.grown g0).mono (by simp)).trans (o1.mono (fun j _ e => .inl (pf j e)))).trans (o2.mono (fun j _ e => .inr (by omega))), fun W oW => ?_⟩⟩
  obtain ⟨F0', F1', h1, hF⟩ := hg.prog hi p1 o1
  have h1lt := fun j hj => h1.lt (j := j) hj
  have lf' : ∀ j, LF bw bp bq q0 q1 F0' F1' R j -> j < H ∨ (w.heap.size < j /\ j < w1.heap.size) := fun j hj => by
   have l1 := h1lt j hj
   rcases hj with hj | (hj | hj) | hj
   ·exact .inl (hH j (.inl hj))
   ·exact .inl (hH j (.inr (.inl (.inl hj))))
   ·rcases hF j hj with h | h
    ·exact .inl (hH j (.inr (.inl (.inr h))))
    ·exact .inr ⟨by simp at h; omega, l1⟩
   ·exact .inl (hH j (.inr (.inr hj)))
  have z2 := o2.size
  have z1 := o1.size
  simp at z1
  have h2 := h1.only o2 (fun j hj e => by have := lf' j hj; omega)
  have nA : ∀ j, LF bw bp bq q0 q1 F0' F1' R j -> ¬ ((H <= j /\ j < w.heap.size) ∨ w2.heap.size <= j) := fun j hj e => by have := lf' j hj; omega
  have hW := h2.only oW nA
  refine (rMint_any bq q0 q1 cI cO cJ s0 s1 r0 r1 sh pl sp W hW.ry pg wp wq).mono ?_
  rintro e w3 ⟨_, k2⟩
  obtain ⟨he, a3, o3⟩ := k2 (by rw [pg.up]; exact hu)
  refine ⟨by rw [he, gd.1], o3.mono (fun j _ e => ?_), fun V oV => ?_⟩
  ·rcases hi with rfl | rfl
   ·exact .inl e
   ·exact .inr e
  ·exact ((hW.doc hi a3 o3).only oV nA).li (pg.put hi gd.2 (mint_cfg _ _ _))
theorem act_mint (B bw n : Nat) (sh k m x y : Int) (pl sp : Nat) (t : ByteArray) (w : World) (h : LI w B bw n) (wp : pl < 4294967296) (wq : sp < 4294967296) :
  Calls Tryz.prog 22 #[.pointer (some ⟨bw, 0, none⟩), .agg #[.int .i64 1, .int .i64 sh, .int .i64 k, .int .i64 m, .int .i64 x, .int .i64 y, .float .f32 pl, .float .f32 sp, .string t]] w fun e w' => e = .returned (.bool true) /\ LI w' B bw n /\ Only w w' (fun j => B <= j) := by
 obtain ⟨bp, b0, b1, bq, q0, q1, bk, cI, cO, cJ, s0, s1, r0, r1, F0, F1, R, lm, pg⟩ := h
 have g0 := World.grownBy_alloc w (.cells #[.int .i64 1, .int .i64 sh, .int .i64 k, .int .i64 m, .int .i64 x, .int .i64 y, .float .f32 pl, .float .f32 sp, .string t] 35) none
 have LMH := Hid.mk' lm
 have G0 := Hid.mk' g0
 have AX := Hid.mk' (At.new w [.int .i64 1, .int .i64 sh, .int .i64 k, .int .i64 m, .int .i64 x, .int .i64 y, .float .f32 pl, .float .f32 sp, .string t] 35)
 have AW := Hid.mk' (lm.lw.grown g0)
 have nqb : Hid (∀ j, j = q0 ∨ j = q1 -> j ≠ bw /\ j < w.heap.size /\ B <= j) := Hid.mk' fun j hj => ⟨(lm.wq j (.inr hj)).1, lm.lt (.inr (.inr (.inl (.inr hj)))), lm.h2 j (.inr hj)⟩
 have nfb : Hid (∀ j, F0 j ∨ F1 j -> j ≠ bw /\ j < w.heap.size /\ B <= j) := Hid.mk' fun j hj => ⟨(lm.wp j (.inr hj)).1, lm.lt (.inr (.inl (.inr hj))), lm.h1 j (.inr hj)⟩
 have BT := Hid.mk' fun W (gW : w.grownBy W none) => both_mint (LMH.out.grown gW) pg w.heap.size (fun j hj => lm.lt hj) gW.size sh pl sp wp wq
 have hwB : B <= w.heap.size := Nat.le_trans lm.h0 (Nat.le_of_lt lm.lw.lt)
 have bwl := lm.lw.lt
 clear lm pg g0
 unfold idE at BT
 go_enter Tryz.func22, Tryz.ntmps22
 go_wp2_with fail
 refine wp_region_held_drew (S := fun w' => At w' bw (LC bp bq bk) /\ At w' w.heap.size (AC 1 sh k m x y pl sp t) /\ True) (by kernel_rfl) (⟨AW.out.drew, AX.out.drew, trivial⟩) (fun hHeld => ?_)
 refine hTk 0 ?_
 simp only [lS0, lS1]
 refine hTk 1 ?_
 simp only [lS0, lS1]
 refine hTk 2 ?_
 simp only [lS0, lS1]
 refine hTy 3 rfl (by intro w hSw; have S0 := hSw.1.c 0 _ rfl; go_simp; try with_reducible rfl) ?_
 simp only [lS0, lS1]
 refine hTk 4 ?_
 simp only [lS0, lS1]
 refine hTy 5 rfl (by intro w hSw; have S1 := hSw.2.1.c 1 _ rfl; go_simp; try with_reducible rfl) ?_
 simp only [lS0, lS1]
 refine hTk 6 ?_
 simp only [lS0, lS1]
 refine hTy 7 rfl (by intro w hSw; have S6 := hSw.2.1.c 6 _ rfl; go_simp; try with_reducible rfl) ?_
 simp only [lS0, lS1]
 refine hTk 8 ?_
 simp only [lS0, lS1]
 refine hTy 9 rfl (by intro w hSw; have S7 := hSw.2.1.c 7 _ rfl; go_simp; try with_reducible rfl) ?_
 simp only [lS0, lS1]
 refine hEither 10 14 (f := 46) (args := #[.pointer (some ⟨bp, 0, none⟩), .int .i64 sh, .float .f32 pl, .float .f32 sp]) (by kernel_rfl) (by rfl) (by rfl) (by go_simp) (by rfl) (by rfl) ?_ ?_
 ·skip
  refine Calls.mono (BT.out _ (grownBy_drew G0.out)) ?_
  rintro e w1 ⟨ix, iy, z, rfl, o1, nx⟩
  have hS : At w1 bw (LC bp bq bk) /\ At w1 w.heap.size (AC 1 sh k m x y pl sp t) /\ True := ⟨hHeld.1.only o1 (fun e => (nfb.out _ e).1 rfl), hHeld.2.1.only o1 (fun e => Nat.lt_irrefl _ (nfb.out _ e).2.1), trivial⟩
  have O1 := Hid.mk' o1
  have NX0 := Hid.mk' nx
  have z1 := o1.size
  simp at z1
  clear hHeld
  have hHeld := hS
  refine ⟨_, rfl, hHeld, ?_⟩
  simp only [lS0, lS1]
  refine hTk 11 ?_
  simp only [lS0, lS1]
  refine hTk 12 ?_
  simp only [lS0, lS1]
  refine hTk 13 ?_
  simp only [lS0, lS1]
  refine hRun 14 (by kernel_rfl) (by rfl) (by rfl) ?_
  intro K hK
  go_simp
  refine hK _ _ ⟨hHeld.1.alloc _, hHeld.2.1.alloc _, trivial⟩ ?_
  clear hK K
  refine hRun 15 (by kernel_rfl) (by rfl) (by rfl) ?_
  intro K hK
  go_simp
  refine hK _ _ ⟨hHeld.1.alloc _, hHeld.2.1.alloc _, trivial⟩ ?_
  clear hK K
  replace hHeld : At (w1.alloc (.cells #[.int .i64 ix, .int .i64 iy] 32)) bw [.pointer (some ⟨bp, 0, none⟩), .pointer (some ⟨bq, 0, none⟩), .pointer (some ⟨bk, 0, none⟩)] /\ At (w1.alloc (.cells #[.int .i64 ix, .int .i64 iy] 32)) w.heap.size [.int .i64 1, .int .i64 sh, .int .i64 k, .int .i64 m, .int .i64 x, .int .i64 y, .float .f32 pl, .float .f32 sp, .string t] /\ True := ⟨hHeld.1.alloc _, hHeld.2.1.alloc _, trivial⟩
  refine hTk 16 ?_
  simp only [lS0, lS1]
  refine wpAnyH_done (by kernel_rfl) ?_ _
  have XA1 : Hid (At (w1.alloc (.cells #[.int .i64 ix, .int .i64 iy] 32)) w1.heap.size [.int .i64 ix, .int .i64 iy]) := Hid.mk' (At.new w1 [.int .i64 ix, .int .i64 iy] 32)
  have VO := Hid.mk' ((Only.grown (World.grownBy_alloc w1 (.cells #[.int .i64 ix, .int .i64 iy] 32) none)).mono (A' := fun j => w.heap.size < j /\ j < (w.alloc (.cells #[.int .i64 1, .int .i64 sh, .int .i64 k, .int .i64 m, .int .i64 x, .int .i64 y, .float .f32 pl, .float .f32 sp, .string t] 35)).drew.heap.size) (by simp))
  have ON1 : Hid (Only w (w1.alloc (.cells #[.int .i64 ix, .int .i64 iy] 32)) (fun j => B <= j)) := Hid.mk' ((((Only.grown (grownBy_drew G0.out)).mono (A' := fun j => B <= j) (by simp)).trans (O1.out.mono (fun j _ e => .inl (nfb.out j e).2.2))).trans (VO.out.mono (fun j _ e => .inr (by omega))))
  have NX1 : Hid (∀ W, (w1.alloc (.cells #[.int .i64 ix, .int .i64 iy] 32)).grownBy W none -> Calls Tryz.prog 47 #[.pointer (some ⟨bq, 0, none⟩), .int .i64 sh, .float .f32 pl, .float .f32 sp] W fun e' w2 => e' = .returned (.tuple #[.agg #[.int .i64 ix, .int .i64 iy], .int .i64 z]) /\ Only W w2 (fun j => j = q0 ∨ j = q1) /\ ∀ V', Only w2 V' (fun j => (w1.alloc (.cells #[.int .i64 ix, .int .i64 iy] 32)).heap.size <= j) -> LI V' B bw n) := Hid.mk' fun W gW => by
   refine (NX0.out W ((VO.out.mono (fun j h1 h2 => .inl ⟨by omega, h2.2⟩)).trans ((Only.grown gW).mono (by simp)))).mono ?_
   rintro e w2 ⟨e1, e2, e3⟩
   exact ⟨e1, e2, fun V' o' => e3 V' (o'.mono (fun j _ e => .inr (by simp at e; omega)))⟩
  have HA1 := Hid.mk' hHeld
  have xl1 : w.heap.size < w1.heap.size := by omega
  have ONZ := ON1.out.size
  have xv1 := XA1.out.lt
  clear hHeld hS NX0 VO O1
  generalize (w1.alloc (.cells #[.int .i64 ix, .int .i64 iy] 32)) = V1 at *
  generalize w1.heap.size = X1 at *
  go_wp2_with fail
  refine wp_region_held_drew (S := fun w' => At w' bw (LC bp bq bk) /\ At w' w.heap.size (AC 1 sh k m x y pl sp t) /\ At w' X1 [.int .i64 ix, .int .i64 iy]) (by kernel_rfl) (⟨HA1.out.1.drew, HA1.out.2.1.drew, XA1.out.drew⟩) (fun hHeld => ?_)
  refine hTk 0 ?_
  simp only [lS0, lS1]
  refine hTk 1 ?_
  simp only [lS0, lS1]
  refine hTk 2 ?_
  simp only [lS0, lS1]
  refine hTy 3 rfl (by intro w hSw; have S0 := hSw.1.c 1 _ rfl; go_simp; try with_reducible rfl) ?_
  simp only [lS0, lS1]
  refine hTk 4 ?_
  simp only [lS0, lS1]
  refine hTy 5 rfl (by intro w hSw; have S1 := hSw.2.1.c 1 _ rfl; go_simp; try with_reducible rfl) ?_
  simp only [lS0, lS1]
  refine hTk 6 ?_
  simp only [lS0, lS1]
  refine hTy 7 rfl (by intro w hSw; have S6 := hSw.2.1.c 6 _ rfl; go_simp; try with_reducible rfl) ?_
  simp only [lS0, lS1]
  refine hTk 8 ?_
  simp only [lS0, lS1]
  refine hTy 9 rfl (by intro w hSw; have S7 := hSw.2.1.c 7 _ rfl; go_simp; try with_reducible rfl) ?_
  simp only [lS0, lS1]
  refine hEither 10 14 (f := 47) (args := #[.pointer (some ⟨bq, 0, none⟩), .int .i64 sh, .float .f32 pl, .float .f32 sp]) (by kernel_rfl) (by rfl) (by rfl) (by go_simp) (by rfl) (by rfl) ?_ ?_
  ·skip
   refine Calls.mono (NX1.out _ (grownBy_drew (grownBy_refl _ _))) ?_
   rintro e w2 ⟨rfl, o2, cl2⟩
   have hS : At w2 bw (LC bp bq bk) /\ At w2 w.heap.size (AC 1 sh k m x y pl sp t) /\ At w2 X1 [.int .i64 ix, .int .i64 iy] := ⟨hHeld.1.only o2 (fun e => (nqb.out _ e).1 rfl), hHeld.2.1.only o2 (fun e => Nat.lt_irrefl _ (nqb.out _ e).2.1), hHeld.2.2.only o2 (fun e => by have := (nqb.out _ e).2.1; omega)⟩
   have O2 := Hid.mk' o2
   have CL2 := Hid.mk' cl2
   have z2 := o2.size
   simp at z2
   clear hHeld
   have hHeld := hS
   refine ⟨_, rfl, hHeld, ?_⟩
   simp only [lS0, lS1]
   refine hTk 11 ?_
   simp only [lS0, lS1]
   refine hTk 12 ?_
   simp only [lS0, lS1]
   refine hTk 13 ?_
   simp only [lS0, lS1]
   refine hRun 14 (by kernel_rfl) (by rfl) (by rfl) ?_
   intro K hK
   go_simp
   refine hK _ _ ⟨hHeld.1.alloc _, hHeld.2.1.alloc _, hHeld.2.2.alloc _⟩ ?_
   clear hK K
   refine hRun 15 (by kernel_rfl) (by rfl) (by rfl) ?_
   intro K hK
   go_simp
   refine hK _ _ ⟨hHeld.1.alloc _, hHeld.2.1.alloc _, hHeld.2.2.alloc _⟩ ?_
   clear hK K
   replace hHeld : At (w2.alloc (.cells #[.int .i64 ix, .int .i64 iy] 32)) bw [.pointer (some ⟨bp, 0, none⟩), .pointer (some ⟨bq, 0, none⟩), .pointer (some ⟨bk, 0, none⟩)] /\ At (w2.alloc (.cells #[.int .i64 ix, .int .i64 iy] 32)) w.heap.size [.int .i64 1, .int .i64 sh, .int .i64 k, .int .i64 m, .int .i64 x, .int .i64 y, .float .f32 pl, .float .f32 sp, .string t] /\ At (w2.alloc (.cells #[.int .i64 ix, .int .i64 iy] 32)) X1 [.int .i64 ix, .int .i64 iy] := ⟨hHeld.1.alloc _, hHeld.2.1.alloc _, hHeld.2.2.alloc _⟩
   refine hTk 16 ?_
   simp only [lS0, lS1]
   refine wpAnyH_done (by kernel_rfl) ?_ _
   have XA2 : Hid (At (w2.alloc (.cells #[.int .i64 ix, .int .i64 iy] 32)) w2.heap.size [.int .i64 ix, .int .i64 iy]) := Hid.mk' (At.new w2 [.int .i64 ix, .int .i64 iy] 32)
   have VO := Hid.mk' ((Only.grown (World.grownBy_alloc w2 (.cells #[.int .i64 ix, .int .i64 iy] 32) none)).mono (A' := fun j => V1.heap.size <= j) (by simp))
   have L2 := Hid.mk' (CL2.out _ VO.out)
   have ON2 : Hid (Only w (w2.alloc (.cells #[.int .i64 ix, .int .i64 iy] 32)) (fun j => B <= j)) := Hid.mk' ((ON1.out.drew.trans (O2.out.mono (fun j _ e => .inl (nqb.out j e).2.2))).trans (VO.out.mono (fun j _ e => .inr (by omega))))
   have HA2 := Hid.mk' hHeld
   clear hHeld hS VO O2 CL2
   generalize (w2.alloc (.cells #[.int .i64 ix, .int .i64 iy] 32)) = V2 at *
   generalize w2.heap.size = X2 at *
   have c0 := HA2.out.2.2.c 0 _ rfl
   have c1 := HA2.out.2.2.c 1 _ rfl
   have d0 := XA2.out.c 0 _ rfl
   have d1 := XA2.out.c 1 _ rfl
   have hzz : (z == z) = true := by simp
   go_wp2
   go_ret
   exact ⟨rfl, L2.out, ON2.out⟩
  ·skip
   intro K hK
   go_simp
   refine hK _ _ ⟨hHeld.1.alloc _, hHeld.2.1.alloc _, hHeld.2.2.alloc _⟩ ?_
   clear hK K
   replace hHeld : At (V1.drew.alloc (.cells #[.int .i64 0, .int .i64 0] 32)) bw [.pointer (some ⟨bp, 0, none⟩), .pointer (some ⟨bq, 0, none⟩), .pointer (some ⟨bk, 0, none⟩)] /\ At (V1.drew.alloc (.cells #[.int .i64 0, .int .i64 0] 32)) w.heap.size [.int .i64 1, .int .i64 sh, .int .i64 k, .int .i64 m, .int .i64 x, .int .i64 y, .float .f32 pl, .float .f32 sp, .string t] /\ At (V1.drew.alloc (.cells #[.int .i64 0, .int .i64 0] 32)) X1 [.int .i64 ix, .int .i64 iy] := ⟨hHeld.1.alloc _, hHeld.2.1.alloc _, hHeld.2.2.alloc _⟩
   refine hCall 10 (f := 47) (args := #[.pointer (some ⟨bq, 0, none⟩), .int .i64 sh, .float .f32 pl, .float .f32 sp]) (by kernel_rfl) (by rfl) (by rfl) (by go_simp) ?_
   refine Calls.mono (NX1.out _ (grownBy_alloc' (grownBy_drew (grownBy_refl _ _)) _)) ?_
   rintro e w2 ⟨rfl, o2, cl2⟩
   have hS : At w2 bw (LC bp bq bk) /\ At w2 w.heap.size (AC 1 sh k m x y pl sp t) /\ At w2 X1 [.int .i64 ix, .int .i64 iy] := ⟨hHeld.1.only o2 (fun e => (nqb.out _ e).1 rfl), hHeld.2.1.only o2 (fun e => Nat.lt_irrefl _ (nqb.out _ e).2.1), hHeld.2.2.only o2 (fun e => by have := (nqb.out _ e).2.1; omega)⟩
   have O2 := Hid.mk' o2
   have CL2 := Hid.mk' cl2
   have z2 := o2.size
   simp at z2
   have XB : At w2 V1.heap.size [.int .i64 0, .int .i64 0] := by
    have := (At.new V1.drew [.int .i64 0, .int .i64 0] 32).only o2 (fun e => by have := (nqb.out _ e).2.1; simp at this; omega)
    simpa using this
   clear hHeld
   have hHeld := hS
   refine ⟨_, rfl, hHeld, ?_⟩
   simp only [lS0, lS1]
   refine hTk 11 ?_
   simp only [lS0, lS1]
   refine hTk 12 ?_
   simp only [lS0, lS1]
   refine hTk 13 ?_
   simp only [lS0, lS1]
   refine hRun 15 (by kernel_rfl) (by rfl) (by rfl) ?_
   intro K hK
   have xf := XB.f
   have xc0 := XB.c 0 _ rfl
   have xc1 := XB.c 1 _ rfl
   have PXL := XB.all [.int .i64 ix, .int .i64 iy] rfl
   have POL := putL_only V1.heap.size [.int .i64 ix, .int .i64 iy] w2 0
   simp only [putL, Nat.reduceAdd] at PXL POL
   go_simp
   have hS2 : At ((w2.setCell ⟨V1.heap.size, 0, none⟩ (.int .i64 ix)).setCell ⟨V1.heap.size, 1, none⟩ (.int .i64 iy)) bw [.pointer (some ⟨bp, 0, none⟩), .pointer (some ⟨bq, 0, none⟩), .pointer (some ⟨bk, 0, none⟩)] /\ At ((w2.setCell ⟨V1.heap.size, 0, none⟩ (.int .i64 ix)).setCell ⟨V1.heap.size, 1, none⟩ (.int .i64 iy)) w.heap.size [.int .i64 1, .int .i64 sh, .int .i64 k, .int .i64 m, .int .i64 x, .int .i64 y, .float .f32 pl, .float .f32 sp, .string t] /\ At ((w2.setCell ⟨V1.heap.size, 0, none⟩ (.int .i64 ix)).setCell ⟨V1.heap.size, 1, none⟩ (.int .i64 iy)) X1 [.int .i64 ix, .int .i64 iy] := ⟨hHeld.1.only POL (fun e => by omega), hHeld.2.1.only POL (fun e => by omega), hHeld.2.2.only POL (fun e => by omega)⟩
   refine hK _ _ hS2 ?_
   clear hK K
   clear hHeld
   have hHeld := hS2
   refine hTk 16 ?_
   simp only [lS0, lS1]
   refine wpAnyH_done (by kernel_rfl) ?_ _
   have XA2 : Hid (At ((w2.setCell ⟨V1.heap.size, 0, none⟩ (.int .i64 ix)).setCell ⟨V1.heap.size, 1, none⟩ (.int .i64 iy)) V1.heap.size [.int .i64 ix, .int .i64 iy]) := Hid.mk' PXL
   have VO := Hid.mk' (POL.mono (A' := fun j => V1.heap.size <= j) (fun j h1 h2 => by omega))
   have L2 := Hid.mk' (CL2.out _ VO.out)
   have ON2 : Hid (Only w ((w2.setCell ⟨V1.heap.size, 0, none⟩ (.int .i64 ix)).setCell ⟨V1.heap.size, 1, none⟩ (.int .i64 iy)) (fun j => B <= j)) := Hid.mk' (((ON1.out.drew.trans ((Only.grown (World.grownBy_alloc V1.drew (.cells #[.int .i64 0, .int .i64 0] 32) none)).mono (by simp))).trans (O2.out.mono (fun j _ e => .inl (nqb.out j e).2.2))).trans (VO.out.mono (fun j _ e => .inr (by omega))))
   have HA2 := Hid.mk' hHeld
   clear PXL POL hS2 XB xf xc0 xc1
   clear hHeld hS VO O2 CL2
   generalize ((w2.setCell ⟨V1.heap.size, 0, none⟩ (.int .i64 ix)).setCell ⟨V1.heap.size, 1, none⟩ (.int .i64 iy)) = V2 at *
   generalize V1.heap.size = X2 at *
   have c0 := HA2.out.2.2.c 0 _ rfl
   have c1 := HA2.out.2.2.c 1 _ rfl
   have d0 := XA2.out.c 0 _ rfl
   have d1 := XA2.out.c 1 _ rfl
   have hzz : (z == z) = true := by simp
   go_wp2
   go_ret
   exact ⟨rfl, L2.out, ON2.out⟩
 ·skip
  intro K hK
  go_simp
  refine hK _ _ ⟨hHeld.1.alloc _, hHeld.2.1.alloc _, trivial⟩ ?_
  clear hK K
  replace hHeld : At ((w.alloc (.cells #[.int .i64 1, .int .i64 sh, .int .i64 k, .int .i64 m, .int .i64 x, .int .i64 y, .float .f32 pl, .float .f32 sp, .string t] 35)).drew.alloc (.cells #[.int .i64 0, .int .i64 0] 32)) bw [.pointer (some ⟨bp, 0, none⟩), .pointer (some ⟨bq, 0, none⟩), .pointer (some ⟨bk, 0, none⟩)] /\ At ((w.alloc (.cells #[.int .i64 1, .int .i64 sh, .int .i64 k, .int .i64 m, .int .i64 x, .int .i64 y, .float .f32 pl, .float .f32 sp, .string t] 35)).drew.alloc (.cells #[.int .i64 0, .int .i64 0] 32)) w.heap.size [.int .i64 1, .int .i64 sh, .int .i64 k, .int .i64 m, .int .i64 x, .int .i64 y, .float .f32 pl, .float .f32 sp, .string t] /\ True := ⟨hHeld.1.alloc _, hHeld.2.1.alloc _, trivial⟩
  refine hCall 10 (f := 46) (args := #[.pointer (some ⟨bp, 0, none⟩), .int .i64 sh, .float .f32 pl, .float .f32 sp]) (by kernel_rfl) (by rfl) (by rfl) (by go_simp) ?_
  refine Calls.mono (BT.out _ (grownBy_alloc' (grownBy_drew G0.out) _)) ?_
  rintro e w1 ⟨ix, iy, z, rfl, o1, nx⟩
  have hS : At w1 bw (LC bp bq bk) /\ At w1 w.heap.size (AC 1 sh k m x y pl sp t) /\ True := ⟨hHeld.1.only o1 (fun e => (nfb.out _ e).1 rfl), hHeld.2.1.only o1 (fun e => Nat.lt_irrefl _ (nfb.out _ e).2.1), trivial⟩
  have O1 := Hid.mk' o1
  have NX0 := Hid.mk' nx
  have z1 := o1.size
  simp at z1
  have XB : At w1 (w.heap.size + 1) [.int .i64 0, .int .i64 0] := by
   have := (At.new (w.alloc (.cells #[.int .i64 1, .int .i64 sh, .int .i64 k, .int .i64 m, .int .i64 x, .int .i64 y, .float .f32 pl, .float .f32 sp, .string t] 35)).drew [.int .i64 0, .int .i64 0] 32).only o1 (fun e => by have := (nfb.out _ e).2.1; simp at this; omega)
   simpa using this
  clear hHeld
  have hHeld := hS
  refine ⟨_, rfl, hHeld, ?_⟩
  simp only [lS0, lS1]
  refine hTk 11 ?_
  simp only [lS0, lS1]
  refine hTk 12 ?_
  simp only [lS0, lS1]
  refine hTk 13 ?_
  simp only [lS0, lS1]
  refine hRun 15 (by kernel_rfl) (by rfl) (by rfl) ?_
  intro K hK
  have xf := XB.f
  have xc0 := XB.c 0 _ rfl
  have xc1 := XB.c 1 _ rfl
  have PXL := XB.all [.int .i64 ix, .int .i64 iy] rfl
  have POL := putL_only (w.heap.size + 1) [.int .i64 ix, .int .i64 iy] w1 0
  simp only [putL, Nat.reduceAdd] at PXL POL
  go_simp
  have hS2 : At ((w1.setCell ⟨(w.heap.size + 1), 0, none⟩ (.int .i64 ix)).setCell ⟨(w.heap.size + 1), 1, none⟩ (.int .i64 iy)) bw [.pointer (some ⟨bp, 0, none⟩), .pointer (some ⟨bq, 0, none⟩), .pointer (some ⟨bk, 0, none⟩)] /\ At ((w1.setCell ⟨(w.heap.size + 1), 0, none⟩ (.int .i64 ix)).setCell ⟨(w.heap.size + 1), 1, none⟩ (.int .i64 iy)) w.heap.size [.int .i64 1, .int .i64 sh, .int .i64 k, .int .i64 m, .int .i64 x, .int .i64 y, .float .f32 pl, .float .f32 sp, .string t] /\ True := ⟨hHeld.1.only POL (fun e => by omega), hHeld.2.1.only POL (fun e => by omega), trivial⟩
  refine hK _ _ hS2 ?_
  clear hK K
  clear hHeld
  have hHeld := hS2
  refine hTk 16 ?_
  simp only [lS0, lS1]
  refine wpAnyH_done (by kernel_rfl) ?_ _
  have XA1 : Hid (At ((w1.setCell ⟨(w.heap.size + 1), 0, none⟩ (.int .i64 ix)).setCell ⟨(w.heap.size + 1), 1, none⟩ (.int .i64 iy)) (w.heap.size + 1) [.int .i64 ix, .int .i64 iy]) := Hid.mk' PXL
  have VO := Hid.mk' (POL.mono (A' := fun j => w.heap.size < j /\ j < ((w.alloc (.cells #[.int .i64 1, .int .i64 sh, .int .i64 k, .int .i64 m, .int .i64 x, .int .i64 y, .float .f32 pl, .float .f32 sp, .string t] 35)).drew.alloc (.cells #[.int .i64 0, .int .i64 0] 32)).heap.size) (fun j h1 h2 => by simp; omega))
  have ON1 : Hid (Only w ((w1.setCell ⟨(w.heap.size + 1), 0, none⟩ (.int .i64 ix)).setCell ⟨(w.heap.size + 1), 1, none⟩ (.int .i64 iy)) (fun j => B <= j)) := Hid.mk' (((((Only.grown (grownBy_drew G0.out)).mono (A' := fun j => B <= j) (by simp)).trans ((Only.grown (World.grownBy_alloc (w.alloc (.cells #[.int .i64 1, .int .i64 sh, .int .i64 k, .int .i64 m, .int .i64 x, .int .i64 y, .float .f32 pl, .float .f32 sp, .string t] 35)).drew (.cells #[.int .i64 0, .int .i64 0] 32) none)).mono (by simp))).trans (O1.out.mono (fun j _ e => .inl (nfb.out j e).2.2))).trans (VO.out.mono (fun j _ e => .inr (by omega))))
  have NX1 : Hid (∀ W, ((w1.setCell ⟨(w.heap.size + 1), 0, none⟩ (.int .i64 ix)).setCell ⟨(w.heap.size + 1), 1, none⟩ (.int .i64 iy)).grownBy W none -> Calls Tryz.prog 47 #[.pointer (some ⟨bq, 0, none⟩), .int .i64 sh, .float .f32 pl, .float .f32 sp] W fun e' w2 => e' = .returned (.tuple #[.agg #[.int .i64 ix, .int .i64 iy], .int .i64 z]) /\ Only W w2 (fun j => j = q0 ∨ j = q1) /\ ∀ V', Only w2 V' (fun j => ((w1.setCell ⟨(w.heap.size + 1), 0, none⟩ (.int .i64 ix)).setCell ⟨(w.heap.size + 1), 1, none⟩ (.int .i64 iy)).heap.size <= j) -> LI V' B bw n) := Hid.mk' fun W gW => by
   refine (NX0.out W ((VO.out.mono (fun j h1 h2 => .inl ⟨by omega, h2.2⟩)).trans ((Only.grown gW).mono (by simp)))).mono ?_
   rintro e w2 ⟨e1, e2, e3⟩
   exact ⟨e1, e2, fun V' o' => e3 V' (o'.mono (fun j _ e => .inr (by simp at e; omega)))⟩
  clear PXL POL hS2 XB xf xc0 xc1
  have HA1 := Hid.mk' hHeld
  have xl1 : w.heap.size < (w.heap.size + 1) := by omega
  have ONZ := ON1.out.size
  have xv1 := XA1.out.lt
  clear hHeld hS NX0 VO O1
  generalize ((w1.setCell ⟨(w.heap.size + 1), 0, none⟩ (.int .i64 ix)).setCell ⟨(w.heap.size + 1), 1, none⟩ (.int .i64 iy)) = V1 at *
  generalize (w.heap.size + 1) = X1 at *
  go_wp2_with fail
  refine wp_region_held_drew (S := fun w' => At w' bw (LC bp bq bk) /\ At w' w.heap.size (AC 1 sh k m x y pl sp t) /\ At w' X1 [.int .i64 ix, .int .i64 iy]) (by kernel_rfl) (⟨HA1.out.1.drew, HA1.out.2.1.drew, XA1.out.drew⟩) (fun hHeld => ?_)
  refine hTk 0 ?_
  simp only [lS0, lS1]
  refine hTk 1 ?_
  simp only [lS0, lS1]
  refine hTk 2 ?_
  simp only [lS0, lS1]
  refine hTy 3 rfl (by intro w hSw; have S0 := hSw.1.c 1 _ rfl; go_simp; try with_reducible rfl) ?_
  simp only [lS0, lS1]
  refine hTk 4 ?_
  simp only [lS0, lS1]
  refine hTy 5 rfl (by intro w hSw; have S1 := hSw.2.1.c 1 _ rfl; go_simp; try with_reducible rfl) ?_
  simp only [lS0, lS1]
  refine hTk 6 ?_
  simp only [lS0, lS1]
  refine hTy 7 rfl (by intro w hSw; have S6 := hSw.2.1.c 6 _ rfl; go_simp; try with_reducible rfl) ?_
  simp only [lS0, lS1]
  refine hTk 8 ?_
  simp only [lS0, lS1]
  refine hTy 9 rfl (by intro w hSw; have S7 := hSw.2.1.c 7 _ rfl; go_simp; try with_reducible rfl) ?_
  simp only [lS0, lS1]
  refine hEither 10 14 (f := 47) (args := #[.pointer (some ⟨bq, 0, none⟩), .int .i64 sh, .float .f32 pl, .float .f32 sp]) (by kernel_rfl) (by rfl) (by rfl) (by go_simp) (by rfl) (by rfl) ?_ ?_
  ·skip
   refine Calls.mono (NX1.out _ (grownBy_drew (grownBy_refl _ _))) ?_
   rintro e w2 ⟨rfl, o2, cl2⟩
   have hS : At w2 bw (LC bp bq bk) /\ At w2 w.heap.size (AC 1 sh k m x y pl sp t) /\ At w2 X1 [.int .i64 ix, .int .i64 iy] := ⟨hHeld.1.only o2 (fun e => (nqb.out _ e).1 rfl), hHeld.2.1.only o2 (fun e => Nat.lt_irrefl _ (nqb.out _ e).2.1), hHeld.2.2.only o2 (fun e => by have := (nqb.out _ e).2.1; omega)⟩
   have O2 := Hid.mk' o2
   have CL2 := Hid.mk' cl2
   have z2 := o2.size
   simp at z2
   clear hHeld
   have hHeld := hS
   refine ⟨_, rfl, hHeld, ?_⟩
   simp only [lS0, lS1]
   refine hTk 11 ?_
   simp only [lS0, lS1]
   refine hTk 12 ?_
   simp only [lS0, lS1]
   refine hTk 13 ?_
   simp only [lS0, lS1]
   refine hRun 14 (by kernel_rfl) (by rfl) (by rfl) ?_
   intro K hK
   go_simp
   refine hK _ _ ⟨hHeld.1.alloc _, hHeld.2.1.alloc _, hHeld.2.2.alloc _⟩ ?_
   clear hK K
   refine hRun 15 (by kernel_rfl) (by rfl) (by rfl) ?_
   intro K hK
   go_simp
   refine hK _ _ ⟨hHeld.1.alloc _, hHeld.2.1.alloc _, hHeld.2.2.alloc _⟩ ?_
   clear hK K
   replace hHeld : At (w2.alloc (.cells #[.int .i64 ix, .int .i64 iy] 32)) bw [.pointer (some ⟨bp, 0, none⟩), .pointer (some ⟨bq, 0, none⟩), .pointer (some ⟨bk, 0, none⟩)] /\ At (w2.alloc (.cells #[.int .i64 ix, .int .i64 iy] 32)) w.heap.size [.int .i64 1, .int .i64 sh, .int .i64 k, .int .i64 m, .int .i64 x, .int .i64 y, .float .f32 pl, .float .f32 sp, .string t] /\ At (w2.alloc (.cells #[.int .i64 ix, .int .i64 iy] 32)) X1 [.int .i64 ix, .int .i64 iy] := ⟨hHeld.1.alloc _, hHeld.2.1.alloc _, hHeld.2.2.alloc _⟩
   refine hTk 16 ?_
   simp only [lS0, lS1]
   refine wpAnyH_done (by kernel_rfl) ?_ _
   have XA2 : Hid (At (w2.alloc (.cells #[.int .i64 ix, .int .i64 iy] 32)) w2.heap.size [.int .i64 ix, .int .i64 iy]) := Hid.mk' (At.new w2 [.int .i64 ix, .int .i64 iy] 32)
   have VO := Hid.mk' ((Only.grown (World.grownBy_alloc w2 (.cells #[.int .i64 ix, .int .i64 iy] 32) none)).mono (A' := fun j => V1.heap.size <= j) (by simp))
   have L2 := Hid.mk' (CL2.out _ VO.out)
   have ON2 : Hid (Only w (w2.alloc (.cells #[.int .i64 ix, .int .i64 iy] 32)) (fun j => B <= j)) := Hid.mk' ((ON1.out.drew.trans (O2.out.mono (fun j _ e => .inl (nqb.out j e).2.2))).trans (VO.out.mono (fun j _ e => .inr (by omega))))
   have HA2 := Hid.mk' hHeld
   clear hHeld hS VO O2 CL2
   generalize (w2.alloc (.cells #[.int .i64 ix, .int .i64 iy] 32)) = V2 at *
   generalize w2.heap.size = X2 at *
   have c0 := HA2.out.2.2.c 0 _ rfl
   have c1 := HA2.out.2.2.c 1 _ rfl
   have d0 := XA2.out.c 0 _ rfl
   have d1 := XA2.out.c 1 _ rfl
   have hzz : (z == z) = true := by simp
   go_wp2
   go_ret
   exact ⟨rfl, L2.out, ON2.out⟩
  ·skip
   intro K hK
   go_simp
   refine hK _ _ ⟨hHeld.1.alloc _, hHeld.2.1.alloc _, hHeld.2.2.alloc _⟩ ?_
   clear hK K
   replace hHeld : At (V1.drew.alloc (.cells #[.int .i64 0, .int .i64 0] 32)) bw [.pointer (some ⟨bp, 0, none⟩), .pointer (some ⟨bq, 0, none⟩), .pointer (some ⟨bk, 0, none⟩)] /\ At (V1.drew.alloc (.cells #[.int .i64 0, .int .i64 0] 32)) w.heap.size [.int .i64 1, .int .i64 sh, .int .i64 k, .int .i64 m, .int .i64 x, .int .i64 y, .float .f32 pl, .float .f32 sp, .string t] /\ At (V1.drew.alloc (.cells #[.int .i64 0, .int .i64 0] 32)) X1 [.int .i64 ix, .int .i64 iy] := ⟨hHeld.1.alloc _, hHeld.2.1.alloc _, hHeld.2.2.alloc _⟩
   refine hCall 10 (f := 47) (args := #[.pointer (some ⟨bq, 0, none⟩), .int .i64 sh, .float .f32 pl, .float .f32 sp]) (by kernel_rfl) (by rfl) (by rfl) (by go_simp) ?_
   refine Calls.mono (NX1.out _ (grownBy_alloc' (grownBy_drew (grownBy_refl _ _)) _)) ?_
   rintro e w2 ⟨rfl, o2, cl2⟩
   have hS : At w2 bw (LC bp bq bk) /\ At w2 w.heap.size (AC 1 sh k m x y pl sp t) /\ At w2 X1 [.int .i64 ix, .int .i64 iy] := ⟨hHeld.1.only o2 (fun e => (nqb.out _ e).1 rfl), hHeld.2.1.only o2 (fun e => Nat.lt_irrefl _ (nqb.out _ e).2.1), hHeld.2.2.only o2 (fun e => by have := (nqb.out _ e).2.1; omega)⟩
   have O2 := Hid.mk' o2
   have CL2 := Hid.mk' cl2
   have z2 := o2.size
   simp at z2
   have XB : At w2 V1.heap.size [.int .i64 0, .int .i64 0] := by
    have := (At.new V1.drew [.int .i64 0, .int .i64 0] 32).only o2 (fun e => by have := (nqb.out _ e).2.1; simp at this; omega)
    simpa using this
   clear hHeld
   have hHeld := hS
   refine ⟨_, rfl, hHeld, ?_⟩
   simp only [lS0, lS1]
   refine hTk 11 ?_
   simp only [lS0, lS1]
   refine hTk 12 ?_
   simp only [lS0, lS1]
   refine hTk 13 ?_
   simp only [lS0, lS1]
   refine hRun 15 (by kernel_rfl) (by rfl) (by rfl) ?_
   intro K hK
   have xf := XB.f
   have xc0 := XB.c 0 _ rfl
   have xc1 := XB.c 1 _ rfl
   have PXL := XB.all [.int .i64 ix, .int .i64 iy] rfl
   have POL := putL_only V1.heap.size [.int .i64 ix, .int .i64 iy] w2 0
   simp only [putL, Nat.reduceAdd] at PXL POL
   go_simp
   have hS2 : At ((w2.setCell ⟨V1.heap.size, 0, none⟩ (.int .i64 ix)).setCell ⟨V1.heap.size, 1, none⟩ (.int .i64 iy)) bw [.pointer (some ⟨bp, 0, none⟩), .pointer (some ⟨bq, 0, none⟩), .pointer (some ⟨bk, 0, none⟩)] /\ At ((w2.setCell ⟨V1.heap.size, 0, none⟩ (.int .i64 ix)).setCell ⟨V1.heap.size, 1, none⟩ (.int .i64 iy)) w.heap.size [.int .i64 1, .int .i64 sh, .int .i64 k, .int .i64 m, .int .i64 x, .int .i64 y, .float .f32 pl, .float .f32 sp, .string t] /\ At ((w2.setCell ⟨V1.heap.size, 0, none⟩ (.int .i64 ix)).setCell ⟨V1.heap.size, 1, none⟩ (.int .i64 iy)) X1 [.int .i64 ix, .int .i64 iy] := ⟨hHeld.1.only POL (fun e => by omega), hHeld.2.1.only POL (fun e => by omega), hHeld.2.2.only POL (fun e => by omega)⟩
   refine hK _ _ hS2 ?_
   clear hK K
   clear hHeld
   have hHeld := hS2
   refine hTk 16 ?_
   simp only [lS0, lS1]
   refine wpAnyH_done (by kernel_rfl) ?_ _
   have XA2 : Hid (At ((w2.setCell ⟨V1.heap.size, 0, none⟩ (.int .i64 ix)).setCell ⟨V1.heap.size, 1, none⟩ (.int .i64 iy)) V1.heap.size [.int .i64 ix, .int .i64 iy]) := Hid.mk' PXL
   have VO := Hid.mk' (POL.mono (A' := fun j => V1.heap.size <= j) (fun j h1 h2 => by omega))
   have L2 := Hid.mk' (CL2.out _ VO.out)
   have ON2 : Hid (Only w ((w2.setCell ⟨V1.heap.size, 0, none⟩ (.int .i64 ix)).setCell ⟨V1.heap.size, 1, none⟩ (.int .i64 iy)) (fun j => B <= j)) := Hid.mk' (((ON1.out.drew.trans ((Only.grown (World.grownBy_alloc V1.drew (.cells #[.int .i64 0, .int .i64 0] 32) none)).mono (by simp))).trans (O2.out.mono (fun j _ e => .inl (nqb.out j e).2.2))).trans (VO.out.mono (fun j _ e => .inr (by omega))))
   have HA2 := Hid.mk' hHeld
   clear PXL POL hS2 XB xf xc0 xc1
   clear hHeld hS VO O2 CL2
   generalize ((w2.setCell ⟨V1.heap.size, 0, none⟩ (.int .i64 ix)).setCell ⟨V1.heap.size, 1, none⟩ (.int .i64 iy)) = V2 at *
   generalize V1.heap.size = X2 at *
   have c0 := HA2.out.2.2.c 0 _ rfl
   have c1 := HA2.out.2.2.c 1 _ rfl
   have d0 := XA2.out.c 0 _ rfl
   have d1 := XA2.out.c 1 _ rfl
   have hzz : (z == z) = true := by simp
   go_wp2
   go_ret
   exact ⟨rfl, L2.out, ON2.out⟩
def qIt (s0 s1 : Sh) (i : Int) : List It := if upE s0.up s1.up i = 0 then (pick01 s0 s1 i).ds.it else []
def qEn (s0 s1 : Sh) (i : Int) : List En := if upE s0.up s1.up i = 0 then (pick01 s0 s1 i).ds.ob else []
theorem neqNilI (W : World) : (binOp BinOp.neq 37 (.slice none 0 0) (.slice none 0 0)).run Tryz.prog W = .ok (.bool false) W := by kernel_rfl
theorem neqNilE (W : World) : (binOp BinOp.neq 49 (.slice none 0 0) (.slice none 0 0)).run Tryz.prog W = .ok (.bool false) W := by kernel_rfl
theorem neqNilT (W : World) : (binOp BinOp.neq 104 (.slice none 0 0) (.slice none 0 0)).run Tryz.prog W = .ok (.bool false) W := by kernel_rfl
section
variable {w : World} {B bw bp b0 b1 bq q0 q1 bk : Nat} {cI cO cJ : Int} {s0 s1 : Sh} {r0 r1 : Rs} {F0 F1 R : Nat -> Prop} {n : Nat}
theorem q_ok (pg : PG cI cO cJ s0 s1 r0 r1) (i : Int) : ((qIt s0 s1 i).length <= 1000 /\ ∀ x ∈ qIt s0 s1 i, Fine x) /\ ((qEn s0 s1 i).length <= 1000 /\ ∀ x ∈ qEn s0 s1 i, Fine x.it) := by
 unfold qIt qEn
 by_cases hu : upE s0.up s1.up i = 0
 ·rw [if_pos hu, if_pos hu]
  obtain ⟨hi, up⟩ := up_at hu
  obtain ⟨g, hn, e1, e2, e3⟩ := pg.at hi
  obtain ⟨_, _, _, _, _, has, _⟩ := g.has up
  have h1 := has.tl
  have h2 := has.ol
  have h3 := g.i1
  have h4 := g.o1
  exact ⟨⟨by omega, fun x hx => fine_of (has.it x hx).1⟩, ⟨by omega, fun x hx => fine_of (has.en x hx).1⟩⟩
 ·rw [if_neg hu, if_neg hu]
  simp
theorem qWorld_x (h : LM w B bw bp b0 b1 bq q0 q1 bk cI cO cJ s0 s1 r0 r1 F0 F1 R n) (pg : PG cI cO cJ s0 s1 r0 r1) (i : Int) : Calls Tryz.prog 14 #[.pointer (some ⟨bp, 0, none⟩), .int .i64 i] w fun e w1 => ∃ v, e = .returned (.tuple #[v, .int .i64 (upE s0.up s1.up i)]) /\ OwnI w.heap.size w1 v (qIt s0 s1 i) /\ (upE s0.up s1.up i ≠ 0 -> v = .slice none 0 0) /\ w.grownBy w1 none := by
 refine pWorld_w bp b0 b1 _ _ s0.up s1.up i w h.pp.at_ (up_ps b0 s0 F0 w h.pp.p0) (up_ps b1 s1 F1 w h.pp.p1) _ (fun hu => ⟨_, rfl, by unfold qIt; rw [if_neg hu]; exact OwnI.nil _ _, fun _ => rfl, grownBy_refl _ _⟩) (fun hu => ?_)
 obtain ⟨hi, up⟩ := up_at hu
 obtain ⟨ps, _, _⟩ := h.pp.at hi
 obtain ⟨g, hn, e1, e2, e3⟩ := pg.at hi
 obtain ⟨_, _, _, _, _, has, _⟩ := g.has up
 refine (world_ps _ _ _ w ps up (has.sh g.i1 g.o1).2.1).mono ?_
 rintro e w1 ⟨v, rfl, ho, g1⟩
 exact ⟨v, rfl, v, by rw [hu], by unfold qIt; rw [if_pos hu]; exact ho, fun hz => absurd hu hz, g1⟩
theorem qWorld_y (h : LM w B bw bp b0 b1 bq q0 q1 bk cI cO cJ s0 s1 r0 r1 F0 F1 R n) (pg : PG cI cO cJ s0 s1 r0 r1) (i : Int) : Calls Tryz.prog 109 #[.pointer (some ⟨bq, 0, none⟩), .int .i64 i] w fun e w1 => ∃ v, e = .returned (.tuple #[v, .int .i64 (upE s0.up s1.up i)]) /\ OwnI w.heap.size w1 v (qIt s0 s1 i) /\ w.grownBy w1 none := by
 refine (rWorld_any bq q0 q1 cI cO cJ s0 s1 r0 r1 i w h.ry pg).mono ?_
 rintro e w1 ⟨k1, k2⟩
 rw [pg.up] at k1 k2
 unfold qIt
 by_cases hu : upE s0.up s1.up i = 0
 ·obtain ⟨v, he, ho, g1⟩ := k2 hu
  exact ⟨v, by rw [he, hu], by rw [if_pos hu]; exact ho, g1⟩
 ·obtain ⟨he, rfl⟩ := k1 hu
  exact ⟨_, he, by rw [if_neg hu]; exact OwnI.nil _ _, grownBy_refl _ _⟩
theorem qOutbox_x (h : LM w B bw bp b0 b1 bq q0 q1 bk cI cO cJ s0 s1 r0 r1 F0 F1 R n) (pg : PG cI cO cJ s0 s1 r0 r1) (i : Int) : Calls Tryz.prog 15 #[.pointer (some ⟨bp, 0, none⟩), .int .i64 i] w fun e w1 => ∃ v, e = .returned (.tuple #[v, .int .i64 (upE s0.up s1.up i)]) /\ OwnE w.heap.size w1 v (qEn s0 s1 i) /\ (upE s0.up s1.up i ≠ 0 -> v = .slice none 0 0) /\ w.grownBy w1 none := by
 refine pOutbox_w bp b0 b1 _ _ s0.up s1.up i w h.pp.at_ (up_ps b0 s0 F0 w h.pp.p0) (up_ps b1 s1 F1 w h.pp.p1) _ (fun hu => ⟨_, rfl, by unfold qEn; rw [if_neg hu]; exact OwnE.nil _ _, fun _ => rfl, grownBy_refl _ _⟩) (fun hu => ?_)
 obtain ⟨hi, up⟩ := up_at hu
 obtain ⟨ps, _, _⟩ := h.pp.at hi
 obtain ⟨g, hn, e1, e2, e3⟩ := pg.at hi
 obtain ⟨_, _, _, _, _, has, _⟩ := g.has up
 refine (outbox_ps _ _ _ w ps up (has.sh g.i1 g.o1).1.l).mono ?_
 rintro e w1 ⟨v, rfl, ho, g1⟩
 exact ⟨v, rfl, v, by rw [hu], by unfold qEn; rw [if_pos hu]; exact ho, fun hz => absurd hu hz, g1⟩
theorem qOutbox_y (h : LM w B bw bp b0 b1 bq q0 q1 bk cI cO cJ s0 s1 r0 r1 F0 F1 R n) (pg : PG cI cO cJ s0 s1 r0 r1) (i : Int) : Calls Tryz.prog 111 #[.pointer (some ⟨bq, 0, none⟩), .int .i64 i] w fun e w1 => ∃ v, e = .returned (.tuple #[v, .int .i64 (upE s0.up s1.up i)]) /\ OwnE w.heap.size w1 v (qEn s0 s1 i) /\ w.grownBy w1 none := by
 refine (rOutbox_any bq q0 q1 cI cO cJ s0 s1 r0 r1 i w h.ry pg).mono ?_
 rintro e w1 ⟨k1, k2⟩
 rw [pg.up] at k1 k2
 unfold qEn
 by_cases hu : upE s0.up s1.up i = 0
 ·obtain ⟨v, he, ho, g1⟩ := k2 hu
  exact ⟨v, by rw [he, hu], by rw [if_pos hu]; exact ho, g1⟩
 ·obtain ⟨he, rfl⟩ := k1 hu
  exact ⟨_, he, by rw [if_neg hu]; exact OwnE.nil _ _, grownBy_refl _ _⟩
theorem qFile_x (h : LM w B bw bp b0 b1 bq q0 q1 bk cI cO cJ s0 s1 r0 r1 F0 F1 R n) (i k : Int) : Calls Tryz.prog 118 #[.pointer (some ⟨bp, 0, none⟩), .int .i64 i, .int .i64 k] w fun e w1 => e = .returned (.tuple #[.string (if is01 i /\ is01 k then S ((pick01 s0 s1 i).dk.file k.toNat) else S []), .int .i64 (if is01 i then (if is01 k then 0 else 4) else 2)]) /\ w1 = w := by
 refine pFile_w bp b0 b1 _ _ i k w h.pp.at_ _ (fun hi => ⟨by rw [if_neg (fun e => hi e.1), if_neg hi]; rfl, rfl⟩) (fun hi => ?_)
 obtain ⟨ps, _, _⟩ := h.pp.at hi
 refine (file_ps _ _ _ k w ps).mono ?_
 rintro e w1 ⟨rfl, rfl⟩
 refine ⟨_, _, rfl, ?_, rfl⟩
 by_cases hk : is01 k
 ·have hk' : k = 0 ∨ k = 1 := hk
  simp only [if_pos hk', if_pos (And.intro hi hk), if_pos hi]
 ·have hk' : ¬ (k = 0 ∨ k = 1) := hk
  have hik : ¬ (is01 i /\ is01 k) := fun e => hk e.2
  simp only [if_neg hk', if_neg hik, if_pos hi]
theorem qFile_y (h : LM w B bw bp b0 b1 bq q0 q1 bk cI cO cJ s0 s1 r0 r1 F0 F1 R n) (pg : PG cI cO cJ s0 s1 r0 r1) (i k : Int) : Calls Tryz.prog 119 #[.pointer (some ⟨bq, 0, none⟩), .int .i64 i, .int .i64 k] w fun e w1 => e = .returned (.tuple #[.string (if is01 i /\ is01 k then S ((pick01 s0 s1 i).dk.file k.toNat) else S []), .int .i64 (if is01 i then (if is01 k then 0 else 4) else 2)]) /\ w1 = w := by
 refine (rFile_any bq q0 q1 cI cO cJ r0 r1 i k w h.ry).mono ?_
 rintro e w1 ⟨rfl, rfl⟩
 refine ⟨?_, rfl⟩
 by_cases hi : is01 i /\ is01 k
 ·rw [if_pos hi, if_pos hi, (pg.at hi.1).1.dk.file]
 ·rw [if_neg hi, if_neg hi]
end
theorem sameTexts_nil (w : World) : Calls Tryz.prog 116 #[.slice none 0 0, .slice none 0 0] w fun e w' => e = .returned (.bool true) /\ w.grownBy w' none := by
 go_enter Tryz.func116, Tryz.ntmps116
 go_wp2
 refine wp_loop_rounds 1 ?_
 rw [rounds_succ]
 go_wp2
 go_ret
 exact ⟨rfl, grownBy_refl _ _⟩
theorem ask_world (B bw n : Nat) (sh k m x y : Int) (pl sp : Nat) (t : ByteArray) (w : World) (h : LI w B bw n) (hn : n <= 9000000) :
  Calls Tryz.prog 62 #[.pointer (some ⟨bw, 0, none⟩), .agg #[.int .i64 14, .int .i64 sh, .int .i64 k, .int .i64 m, .int .i64 x, .int .i64 y, .float .f32 pl, .float .f32 sp, .string t]] w fun e w' => e = .returned (.bool true) /\ LI w' B bw (n + 4) /\ Only w w' (fun j => B <= j) := by
 obtain ⟨bp, b0, b1, bq, q0, q1, bk, cI, cO, cJ, s0, s1, r0, r1, F0, F1, R, lm, pg⟩ := h
 have g0 := World.grownBy_alloc w (.cells #[.int .i64 14, .int .i64 sh, .int .i64 k, .int .i64 m, .int .i64 x, .int .i64 y, .float .f32 pl, .float .f32 sp, .string t] 35) none
 have LMH := Hid.mk' lm
 have PGH := Hid.mk' pg
 have G0 := Hid.mk' g0
 have AX := Hid.mk' (At.new w [.int .i64 14, .int .i64 sh, .int .i64 k, .int .i64 m, .int .i64 x, .int .i64 y, .float .f32 pl, .float .f32 sp, .string t] 35)
 have AW := Hid.mk' (lm.lw.grown g0)
 have hwB : B <= w.heap.size := Nat.le_trans lm.h0 (Nat.le_of_lt lm.lw.lt)
 have bwl := lm.lw.lt
 clear lm pg g0
 have QO := Hid.mk' (q_ok PGH.out sh)
 have QX := Hid.mk' fun W (gW : w.grownBy W none) => qWorld_x (LMH.out.grown gW) PGH.out sh
 have QY := Hid.mk' fun W (gW : w.grownBy W none) => qWorld_y (LMH.out.grown gW) PGH.out sh
 have nnl := neqNilI
 obtain ⟨z, hz⟩ : ∃ z, upE s0.up s1.up sh = z := ⟨_, rfl⟩
 rw [hz] at QX QY
 obtain ⟨is, his⟩ : ∃ is, qIt s0 s1 sh = is := ⟨_, rfl⟩
 rw [his] at QX QY QO
 have hzz : (z != z) = false := by simp
 clear hz his
 by_cases hz0 : z = 0
 ·skip
  have hzn : (z != 0) = false := by simpa using hz0
  go_enter Tryz.func62, Tryz.ntmps62
  go_wp2_with fail
  refine wp_region_held_drew (S := fun w' => At w' bw (LC bp bq bk) /\ At w' w.heap.size (AC 14 sh k m x y pl sp t)) (by kernel_rfl) (⟨AW.out.drew, AX.out.drew⟩) (fun hHeld => ?_)
  refine hTk 0 ?_
  simp only [lS0, lS1]
  refine hTk 1 ?_
  simp only [lS0, lS1]
  refine hTk 2 ?_
  simp only [lS0, lS1]
  refine hTy 3 rfl (by intro w hSw; have S0 := hSw.1.c 0 _ rfl; go_simp; try with_reducible rfl) ?_
  simp only [lS0, lS1]
  refine hTk 4 ?_
  simp only [lS0, lS1]
  refine hTy 5 rfl (by intro w hSw; have S1 := hSw.2.c 1 _ rfl; go_simp; try with_reducible rfl) ?_
  simp only [lS0, lS1]
  refine hCall 6 (f := 14) (args := #[.pointer (some ⟨bp, 0, none⟩), .int .i64 sh]) (by kernel_rfl) (by rfl) (by rfl) (by go_simp) ?_
  refine Calls.mono (QX.out _ (grownBy_drew G0.out)) ?_
  rintro e w1 ⟨v1, rfl, ov1, nil1, g1⟩
  have G1 := Hid.mk' ((grownBy_drew G0.out).trans g1)
  have hS : At w1 bw (LC bp bq bk) /\ At w1 w.heap.size (AC 14 sh k m x y pl sp t) := ⟨hHeld.1.grown g1, hHeld.2.grown g1⟩
  have zv := G0.out.size
  obtain ⟨a1, c1, rfl⟩ := slice_len ov1
  have OV1 := Hid.mk' ov1
  have NIL1 := Hid.mk' nil1
  clear g1 ov1 nil1
  clear hHeld
  have hHeld := hS
  refine ⟨_, rfl, hHeld, ?_⟩
  simp only [lS0, lS1]
  refine hTk 7 ?_
  simp only [lS0, lS1]
  refine hTk 8 ?_
  simp only [lS0, lS1]
  refine hTk 9 ?_
  simp only [lS0, lS1]
  refine hTk 10 ?_
  simp only [lS0, lS1]
  refine hTk 11 ?_
  simp only [lS0, lS1]
  refine wpAnyH_done (by kernel_rfl) ?_ _
  have HH := Hid.mk' hHeld
  clear hHeld hS
  have H1 := HH
  clear HH
  go_wp2_with fail
  refine wp_region_held_drew (S := fun w' => At w' bw (LC bp bq bk) /\ At w' w.heap.size (AC 14 sh k m x y pl sp t)) (by kernel_rfl) (⟨H1.out.1.drew, H1.out.2.drew⟩) (fun hHeld => ?_)
  refine hTk 0 ?_
  simp only [lS0, lS1]
  refine hTk 1 ?_
  simp only [lS0, lS1]
  refine hTk 2 ?_
  simp only [lS0, lS1]
  refine hTy 3 rfl (by intro w hSw; have S0 := hSw.1.c 1 _ rfl; go_simp; try with_reducible rfl) ?_
  simp only [lS0, lS1]
  refine hTk 4 ?_
  simp only [lS0, lS1]
  refine hTy 5 rfl (by intro w hSw; have S1 := hSw.2.c 1 _ rfl; go_simp; try with_reducible rfl) ?_
  simp only [lS0, lS1]
  refine hCall 6 (f := 109) (args := #[.pointer (some ⟨bq, 0, none⟩), .int .i64 sh]) (by kernel_rfl) (by rfl) (by rfl) (by go_simp) ?_
  refine Calls.mono (QY.out _ (grownBy_drew G1.out)) ?_
  rintro e w2 ⟨v2, rfl, ov2, g2⟩
  have G12 : Hid (w1.grownBy w2 none) := (grownBy_drew (grownBy_refl _ _)).trans g2
  have G2 := Hid.mk' (G1.out.trans G12.out)
  have hS : At w2 bw (LC bp bq bk) /\ At w2 w.heap.size (AC 14 sh k m x y pl sp t) := ⟨hHeld.1.grown g2, hHeld.2.grown g2⟩
  obtain ⟨a2, c2, rfl⟩ := slice_len ov2
  have OV2 := Hid.mk' ov2
  clear g2 ov2
  clear hHeld
  have hHeld := hS
  refine ⟨_, rfl, hHeld, ?_⟩
  simp only [lS0, lS1]
  refine hTk 7 ?_
  simp only [lS0, lS1]
  refine hTk 8 ?_
  simp only [lS0, lS1]
  refine hTk 9 ?_
  simp only [lS0, lS1]
  refine hTk 10 ?_
  simp only [lS0, lS1]
  refine hTk 11 ?_
  simp only [lS0, lS1]
  refine wpAnyH_done (by kernel_rfl) ?_ _
  have HH := Hid.mk' hHeld
  clear hHeld hS
  go_wp2_with fail
  refine Calls.mono (sameItems_any _ _ is _ (Lies.of_own (own_grown OV1.out G12.out)) (Lies.of_own OV2.out) (by have := QO.out.1.1; omega) QO.out.1.2) ?_
  rintro e w3 ⟨rfl, g3⟩
  have G3 := Hid.mk' (G2.out.trans g3)
  have OV3 := Hid.mk' (own_grown (own_grown OV1.out G12.out) g3)
  have h3 := HH.out.1.grown g3
  have x2 := h3.c 2 _ rfl
  have L3 := LMH.out.grown G3.out
  obtain ⟨nI, nE, nT, m1, m2, m3, hb⟩ := L3.bo
  have lt0 := fun j hj => LMH.out.lt (j := j) hj
  have zz : w.heap.size < (w.alloc (.cells #[.int .i64 14, .int .i64 sh, .int .i64 k, .int .i64 m, .int .i64 x, .int .i64 y, .float .f32 pl, .float .f32 sp, .string t] 35)).drew.heap.size := by simp
  have hl : ∀ j, Value.ownBlock (.slice a1 is.length c1) = some j -> ¬ LF bw bp bq q0 q1 F0 F1 R j /\ B <= j := fun j hj => by
   have h1 := (OV3.out.lt j hj).1
   exact ⟨fun e => by have := lt0 j e; omega, by omega⟩
  have OWN := Hid.mk' (hb.items (by omega) (.slice a1 is.length c1) is OV3.out (by have := QO.out.1.1; omega) (fun e => (hl _ e).1 (.inr (.inr (.inr (by obtain ⟨_, _, _, _, _, _, _, _, _, b, _⟩ := hb; exact b.rb))))) (fun j hj e => (hl j hj).1 (.inr (.inr (.inr e)))))
  have L3H := Hid.mk' L3
  have HLH := Hid.mk' hl
  have M123 : Hid (nI <= n /\ nE <= n /\ nT <= n) := ⟨m1, m2, m3⟩
  clear L3 hb h3 g3 lt0 hl m1 m2 m3
  go_wp2_with fail
  refine Calls.mono OWN.out ?_
  rintro e w4 ⟨rfl, bk4, o4⟩
  go_wp2
  go_ret
  refine ⟨rfl, (L3H.out.booked HLH.out ⟨_, _, _, by have := M123.out; omega, by have := M123.out; omega, by have := M123.out; omega, bk4⟩ o4).li PGH.out, ?_⟩
  exact ((Only.grown G3.out).mono (by simp)).trans (o4.mono (fun j _ e => .inl (by rcases e with e | e; exact LMH.out.h3 j e; exact (HLH.out j e).2)))
 ·skip
  have hzn : (z != 0) = true := by simpa using hz0
  go_enter Tryz.func62, Tryz.ntmps62
  go_wp2_with fail
  refine wp_region_held_drew (S := fun w' => At w' bw (LC bp bq bk) /\ At w' w.heap.size (AC 14 sh k m x y pl sp t)) (by kernel_rfl) (⟨AW.out.drew, AX.out.drew⟩) (fun hHeld => ?_)
  refine hTk 0 ?_
  simp only [lS0, lS1]
  refine hTk 1 ?_
  simp only [lS0, lS1]
  refine hTk 2 ?_
  simp only [lS0, lS1]
  refine hTy 3 rfl (by intro w hSw; have S0 := hSw.1.c 0 _ rfl; go_simp; try with_reducible rfl) ?_
  simp only [lS0, lS1]
  refine hTk 4 ?_
  simp only [lS0, lS1]
  refine hTy 5 rfl (by intro w hSw; have S1 := hSw.2.c 1 _ rfl; go_simp; try with_reducible rfl) ?_
  simp only [lS0, lS1]
  refine hCall 6 (f := 14) (args := #[.pointer (some ⟨bp, 0, none⟩), .int .i64 sh]) (by kernel_rfl) (by rfl) (by rfl) (by go_simp) ?_
  refine Calls.mono (QX.out _ (grownBy_drew G0.out)) ?_
  rintro e w1 ⟨v1, rfl, ov1, nil1, g1⟩
  have G1 := Hid.mk' ((grownBy_drew G0.out).trans g1)
  have hS : At w1 bw (LC bp bq bk) /\ At w1 w.heap.size (AC 14 sh k m x y pl sp t) := ⟨hHeld.1.grown g1, hHeld.2.grown g1⟩
  have zv := G0.out.size
  obtain ⟨a1, c1, rfl⟩ := slice_len ov1
  have OV1 := Hid.mk' ov1
  have NIL1 := Hid.mk' nil1
  clear g1 ov1 nil1
  clear hHeld
  have hHeld := hS
  refine ⟨_, rfl, hHeld, ?_⟩
  simp only [lS0, lS1]
  refine hTk 7 ?_
  simp only [lS0, lS1]
  refine hTk 8 ?_
  simp only [lS0, lS1]
  refine hTk 9 ?_
  simp only [lS0, lS1]
  refine hTk 10 ?_
  simp only [lS0, lS1]
  refine hTk 11 ?_
  simp only [lS0, lS1]
  refine wpAnyH_done (by kernel_rfl) ?_ _
  have HH := Hid.mk' hHeld
  clear hHeld hS
  have H1 := HH
  clear HH
  go_wp2_with fail
  refine wp_region_held_drew (S := fun w' => At w' bw (LC bp bq bk) /\ At w' w.heap.size (AC 14 sh k m x y pl sp t)) (by kernel_rfl) (⟨H1.out.1.drew, H1.out.2.drew⟩) (fun hHeld => ?_)
  refine hTk 0 ?_
  simp only [lS0, lS1]
  refine hTk 1 ?_
  simp only [lS0, lS1]
  refine hTk 2 ?_
  simp only [lS0, lS1]
  refine hTy 3 rfl (by intro w hSw; have S0 := hSw.1.c 1 _ rfl; go_simp; try with_reducible rfl) ?_
  simp only [lS0, lS1]
  refine hTk 4 ?_
  simp only [lS0, lS1]
  refine hTy 5 rfl (by intro w hSw; have S1 := hSw.2.c 1 _ rfl; go_simp; try with_reducible rfl) ?_
  simp only [lS0, lS1]
  refine hCall 6 (f := 109) (args := #[.pointer (some ⟨bq, 0, none⟩), .int .i64 sh]) (by kernel_rfl) (by rfl) (by rfl) (by go_simp) ?_
  refine Calls.mono (QY.out _ (grownBy_drew G1.out)) ?_
  rintro e w2 ⟨v2, rfl, ov2, g2⟩
  have G12 : Hid (w1.grownBy w2 none) := (grownBy_drew (grownBy_refl _ _)).trans g2
  have G2 := Hid.mk' (G1.out.trans G12.out)
  have hS : At w2 bw (LC bp bq bk) /\ At w2 w.heap.size (AC 14 sh k m x y pl sp t) := ⟨hHeld.1.grown g2, hHeld.2.grown g2⟩
  obtain ⟨a2, c2, rfl⟩ := slice_len ov2
  have OV2 := Hid.mk' ov2
  clear g2 ov2
  clear hHeld
  have hHeld := hS
  refine ⟨_, rfl, hHeld, ?_⟩
  simp only [lS0, lS1]
  refine hTk 7 ?_
  simp only [lS0, lS1]
  refine hTk 8 ?_
  simp only [lS0, lS1]
  refine hTk 9 ?_
  simp only [lS0, lS1]
  refine hTk 10 ?_
  simp only [lS0, lS1]
  refine hTk 11 ?_
  simp only [lS0, lS1]
  refine wpAnyH_done (by kernel_rfl) ?_ _
  have HH := Hid.mk' hHeld
  clear hHeld hS
  go_wp2_with fail
  refine Calls.mono (sameItems_any _ _ is _ (Lies.of_own (own_grown OV1.out G12.out)) (Lies.of_own OV2.out) (by have := QO.out.1.1; omega) QO.out.1.2) ?_
  rintro e w3 ⟨rfl, g3⟩
  have G3 := Hid.mk' (G2.out.trans g3)
  have OV3 := Hid.mk' (own_grown (own_grown OV1.out G12.out) g3)
  have h3 := HH.out.1.grown g3
  have x2 := h3.c 2 _ rfl
  have L3 := LMH.out.grown G3.out
  obtain ⟨nI, nE, nT, m1, m2, m3, hb⟩ := L3.bo
  have lt0 := fun j hj => LMH.out.lt (j := j) hj
  have zz : w.heap.size < (w.alloc (.cells #[.int .i64 14, .int .i64 sh, .int .i64 k, .int .i64 m, .int .i64 x, .int .i64 y, .float .f32 pl, .float .f32 sp, .string t] 35)).drew.heap.size := by simp
  have hl : ∀ j, Value.ownBlock (.slice a1 is.length c1) = some j -> ¬ LF bw bp bq q0 q1 F0 F1 R j /\ B <= j := fun j hj => by
   have h1 := (OV3.out.lt j hj).1
   exact ⟨fun e => by have := lt0 j e; omega, by omega⟩
  have OWN := Hid.mk' (hb.items (by omega) (.slice a1 is.length c1) is OV3.out (by have := QO.out.1.1; omega) (fun e => (hl _ e).1 (.inr (.inr (.inr (by obtain ⟨_, _, _, _, _, _, _, _, _, b, _⟩ := hb; exact b.rb))))) (fun j hj e => (hl j hj).1 (.inr (.inr (.inr e)))))
  have L3H := Hid.mk' L3
  have HLH := Hid.mk' hl
  have M123 : Hid (nI <= n /\ nE <= n /\ nT <= n) := ⟨m1, m2, m3⟩
  clear L3 hb h3 g3 lt0 hl m1 m2 m3
  have e1 := NIL1.out hz0
  injection e1 with e1 e2 e3
  subst e1 e3
  generalize hL : is.length = L at *
  obtain rfl : L = 0 := by omega
  go_wp2_with fail
  refine Calls.mono OWN.out ?_
  rintro e w4 ⟨rfl, bk4, o4⟩
  go_wp2
  go_ret
  refine ⟨rfl, (L3H.out.booked HLH.out ⟨_, _, _, by have := M123.out; omega, by have := M123.out; omega, by have := M123.out; omega, bk4⟩ o4).li PGH.out, ?_⟩
  exact ((Only.grown G3.out).mono (by simp)).trans (o4.mono (fun j _ e => .inl (by rcases e with e | e; exact LMH.out.h3 j e; exact (HLH.out j e).2)))
theorem ask_outbox (B bw n : Nat) (sh k m x y : Int) (pl sp : Nat) (t : ByteArray) (w : World) (h : LI w B bw n) (hn : n <= 9000000) :
  Calls Tryz.prog 62 #[.pointer (some ⟨bw, 0, none⟩), .agg #[.int .i64 15, .int .i64 sh, .int .i64 k, .int .i64 m, .int .i64 x, .int .i64 y, .float .f32 pl, .float .f32 sp, .string t]] w fun e w' => e = .returned (.bool true) /\ LI w' B bw (n + 4) /\ Only w w' (fun j => B <= j) := by
 obtain ⟨bp, b0, b1, bq, q0, q1, bk, cI, cO, cJ, s0, s1, r0, r1, F0, F1, R, lm, pg⟩ := h
 have g0 := World.grownBy_alloc w (.cells #[.int .i64 15, .int .i64 sh, .int .i64 k, .int .i64 m, .int .i64 x, .int .i64 y, .float .f32 pl, .float .f32 sp, .string t] 35) none
 have LMH := Hid.mk' lm
 have PGH := Hid.mk' pg
 have G0 := Hid.mk' g0
 have AX := Hid.mk' (At.new w [.int .i64 15, .int .i64 sh, .int .i64 k, .int .i64 m, .int .i64 x, .int .i64 y, .float .f32 pl, .float .f32 sp, .string t] 35)
 have AW := Hid.mk' (lm.lw.grown g0)
 have hwB : B <= w.heap.size := Nat.le_trans lm.h0 (Nat.le_of_lt lm.lw.lt)
 have bwl := lm.lw.lt
 clear lm pg g0
 have QO := Hid.mk' (q_ok PGH.out sh)
 have QX := Hid.mk' fun W (gW : w.grownBy W none) => qOutbox_x (LMH.out.grown gW) PGH.out sh
 have QY := Hid.mk' fun W (gW : w.grownBy W none) => qOutbox_y (LMH.out.grown gW) PGH.out sh
 have nnl := neqNilE
 obtain ⟨z, hz⟩ : ∃ z, upE s0.up s1.up sh = z := ⟨_, rfl⟩
 rw [hz] at QX QY
 obtain ⟨is, his⟩ : ∃ is, qEn s0 s1 sh = is := ⟨_, rfl⟩
 rw [his] at QX QY QO
 have hzz : (z != z) = false := by simp
 clear hz his
 by_cases hz0 : z = 0
 ·skip
  have hzn : (z != 0) = false := by simpa using hz0
  go_enter Tryz.func62, Tryz.ntmps62
  go_wp2_with fail
  refine wp_region_held_drew (S := fun w' => At w' bw (LC bp bq bk) /\ At w' w.heap.size (AC 15 sh k m x y pl sp t)) (by kernel_rfl) (⟨AW.out.drew, AX.out.drew⟩) (fun hHeld => ?_)
  refine hTk 0 ?_
  simp only [lS0, lS1]
  refine hTk 1 ?_
  simp only [lS0, lS1]
  refine hTk 2 ?_
  simp only [lS0, lS1]
  refine hTy 3 rfl (by intro w hSw; have S0 := hSw.1.c 0 _ rfl; go_simp; try with_reducible rfl) ?_
  simp only [lS0, lS1]
  refine hTk 4 ?_
  simp only [lS0, lS1]
  refine hTy 5 rfl (by intro w hSw; have S1 := hSw.2.c 1 _ rfl; go_simp; try with_reducible rfl) ?_
  simp only [lS0, lS1]
  refine hCall 6 (f := 15) (args := #[.pointer (some ⟨bp, 0, none⟩), .int .i64 sh]) (by kernel_rfl) (by rfl) (by rfl) (by go_simp) ?_
  refine Calls.mono (QX.out _ (grownBy_drew G0.out)) ?_
  rintro e w1 ⟨v1, rfl, ov1, nil1, g1⟩
  have G1 := Hid.mk' ((grownBy_drew G0.out).trans g1)
  have hS : At w1 bw (LC bp bq bk) /\ At w1 w.heap.size (AC 15 sh k m x y pl sp t) := ⟨hHeld.1.grown g1, hHeld.2.grown g1⟩
  have zv := G0.out.size
  obtain ⟨a1, c1, rfl⟩ := slice_len ov1
  have OV1 := Hid.mk' ov1
  have NIL1 := Hid.mk' nil1
  clear g1 ov1 nil1
  clear hHeld
  have hHeld := hS
  refine ⟨_, rfl, hHeld, ?_⟩
  simp only [lS0, lS1]
  refine hTk 7 ?_
  simp only [lS0, lS1]
  refine hTk 8 ?_
  simp only [lS0, lS1]
  refine hTk 9 ?_
  simp only [lS0, lS1]
  refine hTk 10 ?_
  simp only [lS0, lS1]
  refine hTk 11 ?_
  simp only [lS0, lS1]
  refine wpAnyH_done (by kernel_rfl) ?_ _
  have HH := Hid.mk' hHeld
  clear hHeld hS
  have H1 := HH
  clear HH
  go_wp2_with fail
  refine wp_region_held_drew (S := fun w' => At w' bw (LC bp bq bk) /\ At w' w.heap.size (AC 15 sh k m x y pl sp t)) (by kernel_rfl) (⟨H1.out.1.drew, H1.out.2.drew⟩) (fun hHeld => ?_)
  refine hTk 0 ?_
  simp only [lS0, lS1]
  refine hTk 1 ?_
  simp only [lS0, lS1]
  refine hTk 2 ?_
  simp only [lS0, lS1]
  refine hTy 3 rfl (by intro w hSw; have S0 := hSw.1.c 1 _ rfl; go_simp; try with_reducible rfl) ?_
  simp only [lS0, lS1]
  refine hTk 4 ?_
  simp only [lS0, lS1]
  refine hTy 5 rfl (by intro w hSw; have S1 := hSw.2.c 1 _ rfl; go_simp; try with_reducible rfl) ?_
  simp only [lS0, lS1]
  refine hCall 6 (f := 111) (args := #[.pointer (some ⟨bq, 0, none⟩), .int .i64 sh]) (by kernel_rfl) (by rfl) (by rfl) (by go_simp) ?_
  refine Calls.mono (QY.out _ (grownBy_drew G1.out)) ?_
  rintro e w2 ⟨v2, rfl, ov2, g2⟩
  have G12 : Hid (w1.grownBy w2 none) := (grownBy_drew (grownBy_refl _ _)).trans g2
  have G2 := Hid.mk' (G1.out.trans G12.out)
  have hS : At w2 bw (LC bp bq bk) /\ At w2 w.heap.size (AC 15 sh k m x y pl sp t) := ⟨hHeld.1.grown g2, hHeld.2.grown g2⟩
  obtain ⟨a2, c2, rfl⟩ := slice_len ov2
  have OV2 := Hid.mk' ov2
  clear g2 ov2
  clear hHeld
  have hHeld := hS
  refine ⟨_, rfl, hHeld, ?_⟩
  simp only [lS0, lS1]
  refine hTk 7 ?_
  simp only [lS0, lS1]
  refine hTk 8 ?_
  simp only [lS0, lS1]
  refine hTk 9 ?_
  simp only [lS0, lS1]
  refine hTk 10 ?_
  simp only [lS0, lS1]
  refine hTk 11 ?_
  simp only [lS0, lS1]
  refine wpAnyH_done (by kernel_rfl) ?_ _
  have HH := Hid.mk' hHeld
  clear hHeld hS
  go_wp2_with fail
  refine Calls.mono (sameEntries_any _ _ is _ (Lies.of_own (own_grown OV1.out G12.out)) (Lies.of_own OV2.out) (by have := QO.out.2.1; omega) QO.out.2.2) ?_
  rintro e w3 ⟨rfl, g3⟩
  have G3 := Hid.mk' (G2.out.trans g3)
  have OV3 := Hid.mk' (own_grown (own_grown OV1.out G12.out) g3)
  have h3 := HH.out.1.grown g3
  have x2 := h3.c 2 _ rfl
  have L3 := LMH.out.grown G3.out
  obtain ⟨nI, nE, nT, m1, m2, m3, hb⟩ := L3.bo
  have lt0 := fun j hj => LMH.out.lt (j := j) hj
  have zz : w.heap.size < (w.alloc (.cells #[.int .i64 15, .int .i64 sh, .int .i64 k, .int .i64 m, .int .i64 x, .int .i64 y, .float .f32 pl, .float .f32 sp, .string t] 35)).drew.heap.size := by simp
  have hl : ∀ j, Value.ownBlock (.slice a1 is.length c1) = some j -> ¬ LF bw bp bq q0 q1 F0 F1 R j /\ B <= j := fun j hj => by
   have h1 := (OV3.out.lt j hj).1
   exact ⟨fun e => by have := lt0 j e; omega, by omega⟩
  have OWN := Hid.mk' (hb.entries (by omega) (.slice a1 is.length c1) is OV3.out (by have := QO.out.2.1; omega) (fun e => (hl _ e).1 (.inr (.inr (.inr (by obtain ⟨_, _, _, _, _, _, _, _, _, b, _⟩ := hb; exact b.rb))))) (fun j hj e => (hl j hj).1 (.inr (.inr (.inr e)))))
  have L3H := Hid.mk' L3
  have HLH := Hid.mk' hl
  have M123 : Hid (nI <= n /\ nE <= n /\ nT <= n) := ⟨m1, m2, m3⟩
  clear L3 hb h3 g3 lt0 hl m1 m2 m3
  go_wp2_with fail
  refine Calls.mono OWN.out ?_
  rintro e w4 ⟨rfl, bk4, o4⟩
  go_wp2
  go_ret
  refine ⟨rfl, (L3H.out.booked HLH.out ⟨_, _, _, by have := M123.out; omega, by have := M123.out; omega, by have := M123.out; omega, bk4⟩ o4).li PGH.out, ?_⟩
  exact ((Only.grown G3.out).mono (by simp)).trans (o4.mono (fun j _ e => .inl (by rcases e with e | e; exact LMH.out.h3 j e; exact (HLH.out j e).2)))
 ·skip
  have hzn : (z != 0) = true := by simpa using hz0
  go_enter Tryz.func62, Tryz.ntmps62
  go_wp2_with fail
  refine wp_region_held_drew (S := fun w' => At w' bw (LC bp bq bk) /\ At w' w.heap.size (AC 15 sh k m x y pl sp t)) (by kernel_rfl) (⟨AW.out.drew, AX.out.drew⟩) (fun hHeld => ?_)
  refine hTk 0 ?_
  simp only [lS0, lS1]
  refine hTk 1 ?_
  simp only [lS0, lS1]
  refine hTk 2 ?_
  simp only [lS0, lS1]
  refine hTy 3 rfl (by intro w hSw; have S0 := hSw.1.c 0 _ rfl; go_simp; try with_reducible rfl) ?_
  simp only [lS0, lS1]
  refine hTk 4 ?_
  simp only [lS0, lS1]
  refine hTy 5 rfl (by intro w hSw; have S1 := hSw.2.c 1 _ rfl; go_simp; try with_reducible rfl) ?_
  simp only [lS0, lS1]
  refine hCall 6 (f := 15) (args := #[.pointer (some ⟨bp, 0, none⟩), .int .i64 sh]) (by kernel_rfl) (by rfl) (by rfl) (by go_simp) ?_
  refine Calls.mono (QX.out _ (grownBy_drew G0.out)) ?_
  rintro e w1 ⟨v1, rfl, ov1, nil1, g1⟩
  have G1 := Hid.mk' ((grownBy_drew G0.out).trans g1)
  have hS : At w1 bw (LC bp bq bk) /\ At w1 w.heap.size (AC 15 sh k m x y pl sp t) := ⟨hHeld.1.grown g1, hHeld.2.grown g1⟩
  have zv := G0.out.size
  obtain ⟨a1, c1, rfl⟩ := slice_len ov1
  have OV1 := Hid.mk' ov1
  have NIL1 := Hid.mk' nil1
  clear g1 ov1 nil1
  clear hHeld
  have hHeld := hS
  refine ⟨_, rfl, hHeld, ?_⟩
  simp only [lS0, lS1]
  refine hTk 7 ?_
  simp only [lS0, lS1]
  refine hTk 8 ?_
  simp only [lS0, lS1]
  refine hTk 9 ?_
  simp only [lS0, lS1]
  refine hTk 10 ?_
  simp only [lS0, lS1]
  refine hTk 11 ?_
  simp only [lS0, lS1]
  refine wpAnyH_done (by kernel_rfl) ?_ _
  have HH := Hid.mk' hHeld
  clear hHeld hS
  have H1 := HH
  clear HH
  go_wp2_with fail
  refine wp_region_held_drew (S := fun w' => At w' bw (LC bp bq bk) /\ At w' w.heap.size (AC 15 sh k m x y pl sp t)) (by kernel_rfl) (⟨H1.out.1.drew, H1.out.2.drew⟩) (fun hHeld => ?_)
  refine hTk 0 ?_
  simp only [lS0, lS1]
  refine hTk 1 ?_
  simp only [lS0, lS1]
  refine hTk 2 ?_
  simp only [lS0, lS1]
  refine hTy 3 rfl (by intro w hSw; have S0 := hSw.1.c 1 _ rfl; go_simp; try with_reducible rfl) ?_
  simp only [lS0, lS1]
  refine hTk 4 ?_
  simp only [lS0, lS1]
  refine hTy 5 rfl (by intro w hSw; have S1 := hSw.2.c 1 _ rfl; go_simp; try with_reducible rfl) ?_
  simp only [lS0, lS1]
  refine hCall 6 (f := 111) (args := #[.pointer (some ⟨bq, 0, none⟩), .int .i64 sh]) (by kernel_rfl) (by rfl) (by rfl) (by go_simp) ?_
  refine Calls.mono (QY.out _ (grownBy_drew G1.out)) ?_
  rintro e w2 ⟨v2, rfl, ov2, g2⟩
  have G12 : Hid (w1.grownBy w2 none) := (grownBy_drew (grownBy_refl _ _)).trans g2
  have G2 := Hid.mk' (G1.out.trans G12.out)
  have hS : At w2 bw (LC bp bq bk) /\ At w2 w.heap.size (AC 15 sh k m x y pl sp t) := ⟨hHeld.1.grown g2, hHeld.2.grown g2⟩
  obtain ⟨a2, c2, rfl⟩ := slice_len ov2
  have OV2 := Hid.mk' ov2
  clear g2 ov2
  clear hHeld
  have hHeld := hS
  refine ⟨_, rfl, hHeld, ?_⟩
  simp only [lS0, lS1]
  refine hTk 7 ?_
  simp only [lS0, lS1]
  refine hTk 8 ?_
  simp only [lS0, lS1]
  refine hTk 9 ?_
  simp only [lS0, lS1]
  refine hTk 10 ?_
  simp only [lS0, lS1]
  refine hTk 11 ?_
  simp only [lS0, lS1]
  refine wpAnyH_done (by kernel_rfl) ?_ _
  have HH := Hid.mk' hHeld
  clear hHeld hS
  go_wp2_with fail
  refine Calls.mono (sameEntries_any _ _ is _ (Lies.of_own (own_grown OV1.out G12.out)) (Lies.of_own OV2.out) (by have := QO.out.2.1; omega) QO.out.2.2) ?_
  rintro e w3 ⟨rfl, g3⟩
  have G3 := Hid.mk' (G2.out.trans g3)
  have OV3 := Hid.mk' (own_grown (own_grown OV1.out G12.out) g3)
  have h3 := HH.out.1.grown g3
  have x2 := h3.c 2 _ rfl
  have L3 := LMH.out.grown G3.out
  obtain ⟨nI, nE, nT, m1, m2, m3, hb⟩ := L3.bo
  have lt0 := fun j hj => LMH.out.lt (j := j) hj
  have zz : w.heap.size < (w.alloc (.cells #[.int .i64 15, .int .i64 sh, .int .i64 k, .int .i64 m, .int .i64 x, .int .i64 y, .float .f32 pl, .float .f32 sp, .string t] 35)).drew.heap.size := by simp
  have hl : ∀ j, Value.ownBlock (.slice a1 is.length c1) = some j -> ¬ LF bw bp bq q0 q1 F0 F1 R j /\ B <= j := fun j hj => by
   have h1 := (OV3.out.lt j hj).1
   exact ⟨fun e => by have := lt0 j e; omega, by omega⟩
  have OWN := Hid.mk' (hb.entries (by omega) (.slice a1 is.length c1) is OV3.out (by have := QO.out.2.1; omega) (fun e => (hl _ e).1 (.inr (.inr (.inr (by obtain ⟨_, _, _, _, _, _, _, _, _, b, _⟩ := hb; exact b.rb))))) (fun j hj e => (hl j hj).1 (.inr (.inr (.inr e)))))
  have L3H := Hid.mk' L3
  have HLH := Hid.mk' hl
  have M123 : Hid (nI <= n /\ nE <= n /\ nT <= n) := ⟨m1, m2, m3⟩
  clear L3 hb h3 g3 lt0 hl m1 m2 m3
  have e1 := NIL1.out hz0
  injection e1 with e1 e2 e3
  subst e1 e3
  generalize hL : is.length = L at *
  obtain rfl : L = 0 := by omega
  go_wp2_with fail
  refine Calls.mono OWN.out ?_
  rintro e w4 ⟨rfl, bk4, o4⟩
  go_wp2
  go_ret
  refine ⟨rfl, (L3H.out.booked HLH.out ⟨_, _, _, by have := M123.out; omega, by have := M123.out; omega, by have := M123.out; omega, bk4⟩ o4).li PGH.out, ?_⟩
  exact ((Only.grown G3.out).mono (by simp)).trans (o4.mono (fun j _ e => .inl (by rcases e with e | e; exact LMH.out.h3 j e; exact (HLH.out j e).2)))
theorem ask_flight (B bw n : Nat) (sh k m x y : Int) (pl sp : Nat) (t : ByteArray) (w : World) (h : LI w B bw n) (hn : n <= 9000000) :
  Calls Tryz.prog 62 #[.pointer (some ⟨bw, 0, none⟩), .agg #[.int .i64 17, .int .i64 sh, .int .i64 k, .int .i64 m, .int .i64 x, .int .i64 y, .float .f32 pl, .float .f32 sp, .string t]] w fun e w' => e = .returned (.bool true) /\ LI w' B bw (n + 4) /\ Only w w' (fun j => B <= j) := by
 obtain ⟨bp, b0, b1, bq, q0, q1, bk, cI, cO, cJ, s0, s1, r0, r1, F0, F1, R, lm, pg⟩ := h
 have g0 := World.grownBy_alloc w (.cells #[.int .i64 17, .int .i64 sh, .int .i64 k, .int .i64 m, .int .i64 x, .int .i64 y, .float .f32 pl, .float .f32 sp, .string t] 35) none
 have LMH := Hid.mk' lm
 have PGH := Hid.mk' pg
 have G0 := Hid.mk' g0
 have AX := Hid.mk' (At.new w [.int .i64 17, .int .i64 sh, .int .i64 k, .int .i64 m, .int .i64 x, .int .i64 y, .float .f32 pl, .float .f32 sp, .string t] 35)
 have AW := Hid.mk' (lm.lw.grown g0)
 have hwB : B <= w.heap.size := Nat.le_trans lm.h0 (Nat.le_of_lt lm.lw.lt)
 have bwl := lm.lw.lt
 clear lm pg g0
 have QX := Hid.mk' fun W (gW : w.grownBy W none) => pFlight_nil bp b0 b1 sh W (LMH.out.grown gW).pp.at_
 have QY := Hid.mk' fun W (gW : w.grownBy W none) => rFlying_nil bq q0 q1 cI cO cJ r0 r1 sh W (LMH.out.grown gW).ry
 have nnl := neqNilT
 by_cases hz0 : is01 sh
 ·skip
  rw [if_pos hz0] at QX QY
  clear hz0
  go_enter Tryz.func62, Tryz.ntmps62
  go_wp2_with fail
  refine wp_region_held_drew (S := fun w' => At w' bw (LC bp bq bk) /\ At w' w.heap.size (AC 17 sh k m x y pl sp t)) (by kernel_rfl) (⟨AW.out.drew, AX.out.drew⟩) (fun hHeld => ?_)
  refine hTk 0 ?_
  simp only [lS0, lS1]
  refine hTk 1 ?_
  simp only [lS0, lS1]
  refine hTk 2 ?_
  simp only [lS0, lS1]
  refine hTy 3 rfl (by intro w hSw; have S0 := hSw.1.c 0 _ rfl; go_simp; try with_reducible rfl) ?_
  simp only [lS0, lS1]
  refine hTk 4 ?_
  simp only [lS0, lS1]
  refine hTy 5 rfl (by intro w hSw; have S1 := hSw.2.c 1 _ rfl; go_simp; try with_reducible rfl) ?_
  simp only [lS0, lS1]
  refine hCall 6 (f := 114) (args := #[.pointer (some ⟨bp, 0, none⟩), .int .i64 sh]) (by kernel_rfl) (by rfl) (by rfl) (by go_simp) ?_
  refine Calls.mono (QX.out _ (grownBy_drew G0.out)) ?_
  rintro e w1 ⟨rfl, rfl⟩
  have hS := hHeld
  clear hHeld
  have hHeld := hS
  refine ⟨_, rfl, hHeld, ?_⟩
  simp only [lS0, lS1]
  refine hTk 7 ?_
  simp only [lS0, lS1]
  refine hTk 8 ?_
  simp only [lS0, lS1]
  refine hTk 9 ?_
  simp only [lS0, lS1]
  refine hTk 10 ?_
  simp only [lS0, lS1]
  refine hTk 11 ?_
  simp only [lS0, lS1]
  refine wpAnyH_done (by kernel_rfl) ?_ _
  have HH := Hid.mk' hHeld
  clear hHeld hS
  have H1 := HH
  clear HH
  go_wp2_with fail
  refine wp_region_held_drew (S := fun w' => At w' bw (LC bp bq bk) /\ At w' w.heap.size (AC 17 sh k m x y pl sp t)) (by kernel_rfl) (⟨H1.out.1.drew, H1.out.2.drew⟩) (fun hHeld => ?_)
  refine hTk 0 ?_
  simp only [lS0, lS1]
  refine hTk 1 ?_
  simp only [lS0, lS1]
  refine hTk 2 ?_
  simp only [lS0, lS1]
  refine hTy 3 rfl (by intro w hSw; have S0 := hSw.1.c 1 _ rfl; go_simp; try with_reducible rfl) ?_
  simp only [lS0, lS1]
  refine hTk 4 ?_
  simp only [lS0, lS1]
  refine hTy 5 rfl (by intro w hSw; have S1 := hSw.2.c 1 _ rfl; go_simp; try with_reducible rfl) ?_
  simp only [lS0, lS1]
  refine hCall 6 (f := 115) (args := #[.pointer (some ⟨bq, 0, none⟩), .int .i64 sh]) (by kernel_rfl) (by rfl) (by rfl) (by go_simp) ?_
  refine Calls.mono (QY.out _ (grownBy_drew (grownBy_drew G0.out))) ?_
  rintro e w2 ⟨rfl, rfl⟩
  have hS := hHeld
  clear hHeld
  have hHeld := hS
  refine ⟨_, rfl, hHeld, ?_⟩
  simp only [lS0, lS1]
  refine hTk 7 ?_
  simp only [lS0, lS1]
  refine hTk 8 ?_
  simp only [lS0, lS1]
  refine hTk 9 ?_
  simp only [lS0, lS1]
  refine hTk 10 ?_
  simp only [lS0, lS1]
  refine hTk 11 ?_
  simp only [lS0, lS1]
  refine wpAnyH_done (by kernel_rfl) ?_ _
  have HH := Hid.mk' hHeld
  clear hHeld hS
  go_wp2_with fail
  refine Calls.mono (sameTexts_nil _) ?_
  rintro e w3 ⟨rfl, g3⟩
  have G3 := Hid.mk' ((grownBy_drew (grownBy_drew G0.out)).trans g3)
  have h3 := HH.out.1.grown g3
  have x2 := h3.c 2 _ rfl
  have L3 := LMH.out.grown G3.out
  obtain ⟨nI, nE, nT, m1, m2, m3, hb⟩ := L3.bo
  have OWN := Hid.mk' (hb.texts (by omega))
  have L3H := Hid.mk' L3
  have M123 : Hid (nI <= n /\ nE <= n /\ nT <= n) := ⟨m1, m2, m3⟩
  have HLH : Hid (∀ j, Value.ownBlock (.slice none 0 0) = some j -> ¬ LF bw bp bq q0 q1 F0 F1 R j /\ B <= j) := Hid.mk' fun j hj => by cases hj
  clear L3 hb h3 g3 m1 m2 m3
  go_wp2_with fail
  refine Calls.mono OWN.out ?_
  rintro e w4 ⟨rfl, bk4, o4⟩
  go_wp2
  go_ret
  refine ⟨rfl, (L3H.out.booked HLH.out ⟨_, _, _, by have := M123.out; omega, by have := M123.out; omega, by have := M123.out; omega, bk4⟩ o4).li PGH.out, ?_⟩
  exact ((Only.grown G3.out).mono (by simp)).trans (o4.mono (fun j _ e => .inl (by rcases e with e | e; exact LMH.out.h3 j e; cases e)))
 ·skip
  rw [if_neg hz0] at QX QY
  clear hz0
  go_enter Tryz.func62, Tryz.ntmps62
  go_wp2_with fail
  refine wp_region_held_drew (S := fun w' => At w' bw (LC bp bq bk) /\ At w' w.heap.size (AC 17 sh k m x y pl sp t)) (by kernel_rfl) (⟨AW.out.drew, AX.out.drew⟩) (fun hHeld => ?_)
  refine hTk 0 ?_
  simp only [lS0, lS1]
  refine hTk 1 ?_
  simp only [lS0, lS1]
  refine hTk 2 ?_
  simp only [lS0, lS1]
  refine hTy 3 rfl (by intro w hSw; have S0 := hSw.1.c 0 _ rfl; go_simp; try with_reducible rfl) ?_
  simp only [lS0, lS1]
  refine hTk 4 ?_
  simp only [lS0, lS1]
  refine hTy 5 rfl (by intro w hSw; have S1 := hSw.2.c 1 _ rfl; go_simp; try with_reducible rfl) ?_
  simp only [lS0, lS1]
  refine hCall 6 (f := 114) (args := #[.pointer (some ⟨bp, 0, none⟩), .int .i64 sh]) (by kernel_rfl) (by rfl) (by rfl) (by go_simp) ?_
  refine Calls.mono (QX.out _ (grownBy_drew G0.out)) ?_
  rintro e w1 ⟨rfl, rfl⟩
  have hS := hHeld
  clear hHeld
  have hHeld := hS
  refine ⟨_, rfl, hHeld, ?_⟩
  simp only [lS0, lS1]
  refine hTk 7 ?_
  simp only [lS0, lS1]
  refine hTk 8 ?_
  simp only [lS0, lS1]
  refine hTk 9 ?_
  simp only [lS0, lS1]
  refine hTk 10 ?_
  simp only [lS0, lS1]
  refine hTk 11 ?_
  simp only [lS0, lS1]
  refine wpAnyH_done (by kernel_rfl) ?_ _
  have HH := Hid.mk' hHeld
  clear hHeld hS
  have H1 := HH
  clear HH
  go_wp2_with fail
  refine wp_region_held_drew (S := fun w' => At w' bw (LC bp bq bk) /\ At w' w.heap.size (AC 17 sh k m x y pl sp t)) (by kernel_rfl) (⟨H1.out.1.drew, H1.out.2.drew⟩) (fun hHeld => ?_)
  refine hTk 0 ?_
  simp only [lS0, lS1]
  refine hTk 1 ?_
  simp only [lS0, lS1]
  refine hTk 2 ?_
  simp only [lS0, lS1]
  refine hTy 3 rfl (by intro w hSw; have S0 := hSw.1.c 1 _ rfl; go_simp; try with_reducible rfl) ?_
  simp only [lS0, lS1]
  refine hTk 4 ?_
  simp only [lS0, lS1]
  refine hTy 5 rfl (by intro w hSw; have S1 := hSw.2.c 1 _ rfl; go_simp; try with_reducible rfl) ?_
  simp only [lS0, lS1]
  refine hCall 6 (f := 115) (args := #[.pointer (some ⟨bq, 0, none⟩), .int .i64 sh]) (by kernel_rfl) (by rfl) (by rfl) (by go_simp) ?_
  refine Calls.mono (QY.out _ (grownBy_drew (grownBy_drew G0.out))) ?_
  rintro e w2 ⟨rfl, rfl⟩
  have hS := hHeld
  clear hHeld
  have hHeld := hS
  refine ⟨_, rfl, hHeld, ?_⟩
  simp only [lS0, lS1]
  refine hTk 7 ?_
  simp only [lS0, lS1]
  refine hTk 8 ?_
  simp only [lS0, lS1]
  refine hTk 9 ?_
  simp only [lS0, lS1]
  refine hTk 10 ?_
  simp only [lS0, lS1]
  refine hTk 11 ?_
  simp only [lS0, lS1]
  refine wpAnyH_done (by kernel_rfl) ?_ _
  have HH := Hid.mk' hHeld
  clear hHeld hS
  go_wp2_with fail
  refine Calls.mono (sameTexts_nil _) ?_
  rintro e w3 ⟨rfl, g3⟩
  have G3 := Hid.mk' ((grownBy_drew (grownBy_drew G0.out)).trans g3)
  have h3 := HH.out.1.grown g3
  have x2 := h3.c 2 _ rfl
  have L3 := LMH.out.grown G3.out
  obtain ⟨nI, nE, nT, m1, m2, m3, hb⟩ := L3.bo
  have OWN := Hid.mk' (hb.texts (by omega))
  have L3H := Hid.mk' L3
  have M123 : Hid (nI <= n /\ nE <= n /\ nT <= n) := ⟨m1, m2, m3⟩
  have HLH : Hid (∀ j, Value.ownBlock (.slice none 0 0) = some j -> ¬ LF bw bp bq q0 q1 F0 F1 R j /\ B <= j) := Hid.mk' fun j hj => by cases hj
  clear L3 hb h3 g3 m1 m2 m3
  go_wp2_with fail
  refine Calls.mono OWN.out ?_
  rintro e w4 ⟨rfl, bk4, o4⟩
  go_wp2
  go_ret
  refine ⟨rfl, (L3H.out.booked HLH.out ⟨_, _, _, by have := M123.out; omega, by have := M123.out; omega, by have := M123.out; omega, bk4⟩ o4).li PGH.out, ?_⟩
  exact ((Only.grown G3.out).mono (by simp)).trans (o4.mono (fun j _ e => .inl (by rcases e with e | e; exact LMH.out.h3 j e; cases e)))
theorem ask_file (B bw n : Nat) (sh k m x y : Int) (pl sp : Nat) (t : ByteArray) (w : World) (h : LI w B bw n) (hn : n <= 9000000) :
  Calls Tryz.prog 62 #[.pointer (some ⟨bw, 0, none⟩), .agg #[.int .i64 18, .int .i64 sh, .int .i64 k, .int .i64 m, .int .i64 x, .int .i64 y, .float .f32 pl, .float .f32 sp, .string t]] w fun e w' => e = .returned (.bool true) /\ LI w' B bw (n + 4) /\ Only w w' (fun j => B <= j) := by
 obtain ⟨bp, b0, b1, bq, q0, q1, bk, cI, cO, cJ, s0, s1, r0, r1, F0, F1, R, lm, pg⟩ := h
 have g0 := World.grownBy_alloc w (.cells #[.int .i64 18, .int .i64 sh, .int .i64 k, .int .i64 m, .int .i64 x, .int .i64 y, .float .f32 pl, .float .f32 sp, .string t] 35) none
 have LMH := Hid.mk' lm
 have PGH := Hid.mk' pg
 have G0 := Hid.mk' g0
 have AX := Hid.mk' (At.new w [.int .i64 18, .int .i64 sh, .int .i64 k, .int .i64 m, .int .i64 x, .int .i64 y, .float .f32 pl, .float .f32 sp, .string t] 35)
 have AW := Hid.mk' (lm.lw.grown g0)
 have hwB : B <= w.heap.size := Nat.le_trans lm.h0 (Nat.le_of_lt lm.lw.lt)
 have bwl := lm.lw.lt
 clear lm pg g0
 have QX := Hid.mk' fun W (gW : w.grownBy W none) => qFile_x (LMH.out.grown gW) sh k
 have QY := Hid.mk' fun W (gW : w.grownBy W none) => qFile_y (LMH.out.grown gW) PGH.out sh k
 generalize (if is01 sh /\ is01 k then S ((pick01 s0 s1 sh).dk.file k.toNat) else S []) = T at *
 generalize (if is01 sh then (if is01 k then (0 : Int) else 4) else 2) = z at *
 have hzz : (z == z) = true := by simp
 have hn' := hn
 clear hn
 go_enter Tryz.func62, Tryz.ntmps62
 go_wp2_with fail
 refine wp_region_held_drew (S := fun w' => At w' bw (LC bp bq bk) /\ At w' w.heap.size (AC 18 sh k m x y pl sp t)) (by kernel_rfl) (⟨AW.out.drew, AX.out.drew⟩) (fun hHeld => ?_)
 refine hTk 0 ?_
 simp only [lS0, lS1]
 refine hTk 1 ?_
 simp only [lS0, lS1]
 refine hTk 2 ?_
 simp only [lS0, lS1]
 refine hTy 3 rfl (by intro w hSw; have S0 := hSw.1.c 0 _ rfl; go_simp; try with_reducible rfl) ?_
 simp only [lS0, lS1]
 refine hTk 4 ?_
 simp only [lS0, lS1]
 refine hTy 5 rfl (by intro w hSw; have S1 := hSw.2.c 1 _ rfl; go_simp; try with_reducible rfl) ?_
 simp only [lS0, lS1]
 refine hTk 6 ?_
 simp only [lS0, lS1]
 refine hTy 7 rfl (by intro w hSw; have S2 := hSw.2.c 2 _ rfl; go_simp; try with_reducible rfl) ?_
 simp only [lS0, lS1]
 refine hCall 8 (f := 118) (args := #[.pointer (some ⟨bp, 0, none⟩), .int .i64 sh, .int .i64 k]) (by kernel_rfl) (by rfl) (by rfl) (by go_simp) ?_
 refine Calls.mono (QX.out _ (grownBy_drew G0.out)) ?_
 rintro e w1 ⟨rfl, rfl⟩
 have hS := hHeld
 clear hHeld
 have hHeld := hS
 refine ⟨_, rfl, hHeld, ?_⟩
 simp only [lS0, lS1]
 refine hTk 9 ?_
 simp only [lS0, lS1]
 refine hTk 10 ?_
 simp only [lS0, lS1]
 refine hTk 11 ?_
 simp only [lS0, lS1]
 refine hTk 12 ?_
 simp only [lS0, lS1]
 refine hTk 13 ?_
 simp only [lS0, lS1]
 refine wpAnyH_done (by kernel_rfl) ?_ _
 have HH := Hid.mk' hHeld
 clear hHeld hS
 have H1 := HH
 clear HH
 go_wp2_with fail
 refine wp_region_held_drew (S := fun w' => At w' bw (LC bp bq bk) /\ At w' w.heap.size (AC 18 sh k m x y pl sp t)) (by kernel_rfl) (⟨H1.out.1.drew, H1.out.2.drew⟩) (fun hHeld => ?_)
 refine hTk 0 ?_
 simp only [lS0, lS1]
 refine hTk 1 ?_
 simp only [lS0, lS1]
 refine hTk 2 ?_
 simp only [lS0, lS1]
 refine hTy 3 rfl (by intro w hSw; have S0 := hSw.1.c 1 _ rfl; go_simp; try with_reducible rfl) ?_
 simp only [lS0, lS1]
 refine hTk 4 ?_
 simp only [lS0, lS1]
 refine hTy 5 rfl (by intro w hSw; have S1 := hSw.2.c 1 _ rfl; go_simp; try with_reducible rfl) ?_
 simp only [lS0, lS1]
 refine hTk 6 ?_
 simp only [lS0, lS1]
 refine hTy 7 rfl (by intro w hSw; have S2 := hSw.2.c 2 _ rfl; go_simp; try with_reducible rfl) ?_
 simp only [lS0, lS1]
 refine hCall 8 (f := 119) (args := #[.pointer (some ⟨bq, 0, none⟩), .int .i64 sh, .int .i64 k]) (by kernel_rfl) (by rfl) (by rfl) (by go_simp) ?_
 refine Calls.mono (QY.out _ (grownBy_drew (grownBy_drew G0.out))) ?_
 rintro e w2 ⟨rfl, rfl⟩
 have hS := hHeld
 clear hHeld
 have hHeld := hS
 refine ⟨_, rfl, hHeld, ?_⟩
 simp only [lS0, lS1]
 refine hTk 9 ?_
 simp only [lS0, lS1]
 refine hTk 10 ?_
 simp only [lS0, lS1]
 refine hTk 11 ?_
 simp only [lS0, lS1]
 refine hTk 12 ?_
 simp only [lS0, lS1]
 refine hTk 13 ?_
 simp only [lS0, lS1]
 refine wpAnyH_done (by kernel_rfl) ?_ _
 have HH := Hid.mk' hHeld
 clear hHeld hS
 go_wp2
 go_ret
 exact ⟨rfl, ((LMH.out.grown (grownBy_drew (grownBy_drew G0.out))).mono (by omega)).li PGH.out, (Only.grown (grownBy_drew (grownBy_drew G0.out))).mono (by simp)⟩
theorem ask_none (B bw n : Nat) (K sh k m x y : Int) (pl sp : Nat) (t : ByteArray) (w : World) (h : LI w B bw n) (hK : ∀ c : Int, 14 <= c -> c <= 18 -> K ≠ c) :
  Calls Tryz.prog 62 #[.pointer (some ⟨bw, 0, none⟩), .agg #[.int .i64 K, .int .i64 sh, .int .i64 k, .int .i64 m, .int .i64 x, .int .i64 y, .float .f32 pl, .float .f32 sp, .string t]] w fun e w' => e = .returned (.bool true) /\ LI w' B bw (n + 4) /\ Only w w' (fun j => B <= j) := by
 obtain ⟨bp, b0, b1, bq, q0, q1, bk, cI, cO, cJ, s0, s1, r0, r1, F0, F1, R, lm, pg⟩ := h
 have g0 := World.grownBy_alloc w (.cells #[.int .i64 K, .int .i64 sh, .int .i64 k, .int .i64 m, .int .i64 x, .int .i64 y, .float .f32 pl, .float .f32 sp, .string t] 35) none
 have LMH := Hid.mk' lm
 have PGH := Hid.mk' pg
 have G0 := Hid.mk' g0
 have AX := Hid.mk' (At.new w [.int .i64 K, .int .i64 sh, .int .i64 k, .int .i64 m, .int .i64 x, .int .i64 y, .float .f32 pl, .float .f32 sp, .string t] 35)
 have AW := Hid.mk' (lm.lw.grown g0)
 have hwB : B <= w.heap.size := Nat.le_trans lm.h0 (Nat.le_of_lt lm.lw.lt)
 have bwl := lm.lw.lt
 clear lm pg g0
 have e14 : (K == 14) = false := by have := hK 14 (by omega) (by omega); simpa using this
 have e15 : (K == 15) = false := by have := hK 15 (by omega) (by omega); simpa using this
 have e16 : (K == 16) = false := by have := hK 16 (by omega) (by omega); simpa using this
 have e17 : (K == 17) = false := by have := hK 17 (by omega) (by omega); simpa using this
 have e18 : (K == 18) = false := by have := hK 18 (by omega) (by omega); simpa using this
 clear hK
 go_enter Tryz.func62, Tryz.ntmps62
 go_wp2
 go_ret
 exact ⟨rfl, ((LMH.out.grown G0.out).mono (by omega)).li PGH.out, (Only.grown G0.out).mono (by simp)⟩
end Go.Proofs.YtammnaafdhhjaaaGreat
