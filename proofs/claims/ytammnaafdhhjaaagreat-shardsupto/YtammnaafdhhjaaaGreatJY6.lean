import Derived.Test.YtammnaafdhhjaaaGreatRows
import Derived.Test.YtammnaafdhhjaaaGreatJG7
import Derived.Test.YtammnaafdhhjaaaGreatJY2
set_option maxHeartbeats 16000000
set_option maxRecDepth 100000
namespace Go.Proofs.YtammnaafdhhjaaaGreat
open Go.RowKit
def qMk (s0 s1 : Sh) (i : Int) : Mk := if upE s0.up s1.up i = 0 then (pick01 s0 s1 i).ms else ⟨0, 0, 0, 0, 0⟩
def mkV (m : Mk) : Value := .agg #[.int .i64 m.g, .int .i64 m.m, .int .i64 m.s, .int .i64 m.a, .int .i64 m.n]
theorem qMarks_x {w : World} {B bw bp b0 b1 bq q0 q1 bk : Nat} {cI cO cJ : Int} {s0 s1 : Sh} {r0 r1 : Rs} {F0 F1 R : Nat -> Prop} {n : Nat} (h : LM w B bw bp b0 b1 bq q0 q1 bk cI cO cJ s0 s1 r0 r1 F0 F1 R n) (i : Int) : Calls Tryz.prog 16 #[.pointer (some ⟨bp, 0, none⟩), .int .i64 i] w fun e w1 => e = .returned (.tuple #[mkV (qMk s0 s1 i), .int .i64 (upE s0.up s1.up i)]) /\ w.grownBy w1 none := by
 have g0 := World.grownBy_alloc w (.cells #[.int .i64 0, .int .i64 0, .int .i64 0, .int .i64 0, .int .i64 0] 44) none
 have hg := h.grown g0
 refine pMarks_w bp b0 b1 _ _ s0.up s1.up i w hg.pp.at_ (up_ps b0 s0 F0 _ hg.pp.p0) (up_ps b1 s1 F1 _ hg.pp.p1) _ (fun hu w1 o1 => ⟨by unfold qMk; rw [if_neg hu]; rfl, grown_of_only g0 o1 (fun k e => by omega)⟩) (fun hu => ?_)
 obtain ⟨hi, up⟩ := up_at hu
 obtain ⟨ps, _, _⟩ := hg.pp.at hi
 refine (marks_ps _ _ _ _ ps).mono ?_
 rintro e w1 ⟨rfl, g1⟩
 exact ⟨_, _, _, _, _, rfl, (At.new w [.int .i64 0, .int .i64 0, .int .i64 0, .int .i64 0, .int .i64 0] 44).grown g1, fun w2 o2 => ⟨by unfold qMk; rw [if_pos hu, hu]; rfl, grown_of_only (g0.trans g1) o2 (fun k e => by omega)⟩⟩
theorem qMarks_y {w : World} {B bw bp b0 b1 bq q0 q1 bk : Nat} {cI cO cJ : Int} {s0 s1 : Sh} {r0 r1 : Rs} {F0 F1 R : Nat -> Prop} {n : Nat} (h : LM w B bw bp b0 b1 bq q0 q1 bk cI cO cJ s0 s1 r0 r1 F0 F1 R n) (pg : PG cI cO cJ s0 s1 r0 r1) (i : Int) : Calls Tryz.prog 113 #[.pointer (some ⟨bq, 0, none⟩), .int .i64 i] w fun e w1 => e = .returned (.tuple #[mkV (qMk s0 s1 i), .int .i64 (upE s0.up s1.up i)]) /\ w.grownBy w1 none := by
 refine (rMarks_any bq q0 q1 cI cO cJ s0 s1 r0 r1 i w h.ry pg).mono ?_
 rintro e w1 ⟨g1, k1, k2⟩
 rw [pg.up] at k1 k2
 refine ⟨?_, g1⟩
 unfold qMk
 by_cases hu : upE s0.up s1.up i = 0
 ·rw [k2 hu, if_pos hu, hu]; rfl
 ·rw [k1 hu, if_neg hu]; rfl
theorem ask_marks (B bw n : Nat) (sh k m x y : Int) (pl sp : Nat) (t : ByteArray) (w : World) (h : LI w B bw n) :
  Calls Tryz.prog 62 #[.pointer (some ⟨bw, 0, none⟩), .agg #[.int .i64 16, .int .i64 sh, .int .i64 k, .int .i64 m, .int .i64 x, .int .i64 y, .float .f32 pl, .float .f32 sp, .string t]] w fun e w' => e = .returned (.bool true) /\ LI w' B bw (n + 4) /\ Only w w' (fun j => B <= j) := by
 obtain ⟨bp, b0, b1, bq, q0, q1, bk, cI, cO, cJ, s0, s1, r0, r1, F0, F1, R, lm, pg⟩ := h
 have g0 := World.grownBy_alloc w (.cells #[.int .i64 16, .int .i64 sh, .int .i64 k, .int .i64 m, .int .i64 x, .int .i64 y, .float .f32 pl, .float .f32 sp, .string t] 35) none
 have LMH := Hid.mk' lm
 have PGH := Hid.mk' pg
 have G0 := Hid.mk' g0
 have AX := Hid.mk' (At.new w [.int .i64 16, .int .i64 sh, .int .i64 k, .int .i64 m, .int .i64 x, .int .i64 y, .float .f32 pl, .float .f32 sp, .string t] 35)
 have AW := Hid.mk' (lm.lw.grown g0)
 have bwl := lm.lw.lt
 clear lm pg g0
 have QX := Hid.mk' fun W (gW : w.grownBy W none) => qMarks_x (LMH.out.grown gW) sh
 have QY := Hid.mk' fun W (gW : w.grownBy W none) => qMarks_y (LMH.out.grown gW) PGH.out sh
 obtain ⟨z, hz⟩ : ∃ z, upE s0.up s1.up sh = z := ⟨_, rfl⟩
 obtain ⟨mm, hmm⟩ : ∃ mm, qMk s0 s1 sh = mm := ⟨_, rfl⟩
 rw [hz, hmm] at QX QY
 obtain ⟨v0, v1, v2, v3, v4⟩ := mm
 unfold mkV at QX QY
 simp only at QX QY
 have hzz : (z == z) = true := by simp
 clear hz hmm
 go_enter Tryz.func62, Tryz.ntmps62
 go_wp2_with fail
 refine wp_region_held_drew (S := fun w' => At w' bw (LC bp bq bk) /\ At w' w.heap.size (AC 16 sh k m x y pl sp t) /\ True) (by kernel_rfl) (⟨AW.out.drew, AX.out.drew, trivial⟩) (fun hHeld => ?_)
 refine hTk 0 ?_
 simp only [lS0, lS1]
 refine hTk 1 ?_
 simp only [lS0, lS1]
 refine hTk 2 ?_
 simp only [lS0, lS1]
 refine hTy 3 rfl (by intro w hSw; have S0 := hSw.1.c 0 _ rfl; go_simp; try with_reducible rfl) ?_
 simp only [lS0, lS1]
 refine hTk 4 ?_
 simp only [lS0, lS1]
 refine hTy 5 rfl (by intro w hSw; have S1 := hSw.2.1.c 1 _ rfl; go_simp; try with_reducible rfl) ?_
 simp only [lS0, lS1]
 refine hEither 6 10 (f := 16) (args := #[.pointer (some ⟨bp, 0, none⟩), .int .i64 sh]) (by kernel_rfl) (by rfl) (by rfl) (by go_simp) (by rfl) (by rfl) ?_ ?_
 ·skip
  refine Calls.mono (QX.out _ (grownBy_drew G0.out)) ?_
  rintro e w1 ⟨rfl, g1⟩
  have hS : At w1 bw (LC bp bq bk) /\ At w1 w.heap.size (AC 16 sh k m x y pl sp t) /\ True := ⟨hHeld.1.grown g1, hHeld.2.1.grown g1, trivial⟩
  have GG : Hid (w.grownBy w1 none) := (grownBy_drew G0.out).trans g1
  clear hHeld
  have hHeld := hS
  refine ⟨_, rfl, hHeld, ?_⟩
  simp only [lS0, lS1]
  refine hTk 7 ?_
  simp only [lS0, lS1]
  refine hTk 8 ?_
  simp only [lS0, lS1]
  refine hTk 9 ?_
  simp only [lS0, lS1]
  refine hRun 10 (by kernel_rfl) (by rfl) (by rfl) ?_
  intro K hK
  go_simp
  refine hK _ _ ⟨hHeld.1.alloc _, hHeld.2.1.alloc _, trivial⟩ ?_
  clear hK K
  refine hRun 11 (by kernel_rfl) (by rfl) (by rfl) ?_
  intro K hK
  go_simp
  refine hK _ _ ⟨hHeld.1.alloc _, hHeld.2.1.alloc _, trivial⟩ ?_
  clear hK K
  replace hHeld : At (w1.alloc (.cells #[.int .i64 v0, .int .i64 v1, .int .i64 v2, .int .i64 v3, .int .i64 v4] 44)) bw [.pointer (some ⟨bp, 0, none⟩), .pointer (some ⟨bq, 0, none⟩), .pointer (some ⟨bk, 0, none⟩)] /\ At (w1.alloc (.cells #[.int .i64 v0, .int .i64 v1, .int .i64 v2, .int .i64 v3, .int .i64 v4] 44)) w.heap.size [.int .i64 16, .int .i64 sh, .int .i64 k, .int .i64 m, .int .i64 x, .int .i64 y, .float .f32 pl, .float .f32 sp, .string t] /\ True := ⟨hHeld.1.alloc _, hHeld.2.1.alloc _, trivial⟩
  refine hTk 12 ?_
  simp only [lS0, lS1]
  refine wpAnyH_done (by kernel_rfl) ?_ _
  have XA1 : Hid (At (w1.alloc (.cells #[.int .i64 v0, .int .i64 v1, .int .i64 v2, .int .i64 v3, .int .i64 v4] 44)) w1.heap.size [.int .i64 v0, .int .i64 v1, .int .i64 v2, .int .i64 v3, .int .i64 v4]) := Hid.mk' (At.new w1 [.int .i64 v0, .int .i64 v1, .int .i64 v2, .int .i64 v3, .int .i64 v4] 44)
  have GV1 : Hid (w.grownBy (w1.alloc (.cells #[.int .i64 v0, .int .i64 v1, .int .i64 v2, .int .i64 v3, .int .i64 v4] 44)) none) := grownBy_alloc' GG.out _
  have HA1 := Hid.mk' hHeld
  have xl1 : w.heap.size < w1.heap.size := by have h1 := (grownBy_drew G0.out).size; have h2 := g1.size; simp at h1 h2; omega
  have xv1 := XA1.out.lt
  clear hHeld hS GG g1
  generalize (w1.alloc (.cells #[.int .i64 v0, .int .i64 v1, .int .i64 v2, .int .i64 v3, .int .i64 v4] 44)) = V1 at *
  generalize w1.heap.size = X1 at *
  go_wp2_with fail
  refine wp_region_held_drew (S := fun w' => At w' bw (LC bp bq bk) /\ At w' w.heap.size (AC 16 sh k m x y pl sp t) /\ At w' X1 [.int .i64 v0, .int .i64 v1, .int .i64 v2, .int .i64 v3, .int .i64 v4]) (by kernel_rfl) (⟨HA1.out.1.drew, HA1.out.2.1.drew, XA1.out.drew⟩) (fun hHeld => ?_)
  refine hTk 0 ?_
  simp only [lS0, lS1]
  refine hTk 1 ?_
  simp only [lS0, lS1]
  refine hTk 2 ?_
  simp only [lS0, lS1]
  refine hTy 3 rfl (by intro w hSw; have S0 := hSw.1.c 1 _ rfl; go_simp; try with_reducible rfl) ?_
  simp only [lS0, lS1]
  refine hTk 4 ?_
  simp only [lS0, lS1]
  refine hTy 5 rfl (by intro w hSw; have S1 := hSw.2.1.c 1 _ rfl; go_simp; try with_reducible rfl) ?_
  simp only [lS0, lS1]
  refine hEither 6 10 (f := 113) (args := #[.pointer (some ⟨bq, 0, none⟩), .int .i64 sh]) (by kernel_rfl) (by rfl) (by rfl) (by go_simp) (by rfl) (by rfl) ?_ ?_
  ·skip
   refine Calls.mono (QY.out _ (grownBy_drew GV1.out)) ?_
   rintro e w2 ⟨rfl, g2⟩
   have hS : At w2 bw (LC bp bq bk) /\ At w2 w.heap.size (AC 16 sh k m x y pl sp t) /\ At w2 X1 [.int .i64 v0, .int .i64 v1, .int .i64 v2, .int .i64 v3, .int .i64 v4] := ⟨hHeld.1.grown g2, hHeld.2.1.grown g2, hHeld.2.2.grown g2⟩
   have GG : Hid (w.grownBy w2 none) := (grownBy_drew GV1.out).trans g2
   clear hHeld
   have hHeld := hS
   refine ⟨_, rfl, hHeld, ?_⟩
   simp only [lS0, lS1]
   refine hTk 7 ?_
   simp only [lS0, lS1]
   refine hTk 8 ?_
   simp only [lS0, lS1]
   refine hTk 9 ?_
   simp only [lS0, lS1]
   refine hRun 10 (by kernel_rfl) (by rfl) (by rfl) ?_
   intro K hK
   go_simp
   refine hK _ _ ⟨hHeld.1.alloc _, hHeld.2.1.alloc _, hHeld.2.2.alloc _⟩ ?_
   clear hK K
   refine hRun 11 (by kernel_rfl) (by rfl) (by rfl) ?_
   intro K hK
   go_simp
   refine hK _ _ ⟨hHeld.1.alloc _, hHeld.2.1.alloc _, hHeld.2.2.alloc _⟩ ?_
   clear hK K
   replace hHeld : At (w2.alloc (.cells #[.int .i64 v0, .int .i64 v1, .int .i64 v2, .int .i64 v3, .int .i64 v4] 44)) bw [.pointer (some ⟨bp, 0, none⟩), .pointer (some ⟨bq, 0, none⟩), .pointer (some ⟨bk, 0, none⟩)] /\ At (w2.alloc (.cells #[.int .i64 v0, .int .i64 v1, .int .i64 v2, .int .i64 v3, .int .i64 v4] 44)) w.heap.size [.int .i64 16, .int .i64 sh, .int .i64 k, .int .i64 m, .int .i64 x, .int .i64 y, .float .f32 pl, .float .f32 sp, .string t] /\ At (w2.alloc (.cells #[.int .i64 v0, .int .i64 v1, .int .i64 v2, .int .i64 v3, .int .i64 v4] 44)) X1 [.int .i64 v0, .int .i64 v1, .int .i64 v2, .int .i64 v3, .int .i64 v4] := ⟨hHeld.1.alloc _, hHeld.2.1.alloc _, hHeld.2.2.alloc _⟩
   refine hTk 12 ?_
   simp only [lS0, lS1]
   refine wpAnyH_done (by kernel_rfl) ?_ _
   have XA2 : Hid (At (w2.alloc (.cells #[.int .i64 v0, .int .i64 v1, .int .i64 v2, .int .i64 v3, .int .i64 v4] 44)) w2.heap.size [.int .i64 v0, .int .i64 v1, .int .i64 v2, .int .i64 v3, .int .i64 v4]) := Hid.mk' (At.new w2 [.int .i64 v0, .int .i64 v1, .int .i64 v2, .int .i64 v3, .int .i64 v4] 44)
   have GV2 : Hid (w.grownBy (w2.alloc (.cells #[.int .i64 v0, .int .i64 v1, .int .i64 v2, .int .i64 v3, .int .i64 v4] 44)) none) := grownBy_alloc' GG.out _
   have HA2 := Hid.mk' hHeld
   have xl2 : w.heap.size < w2.heap.size := by have h1 := (grownBy_drew GV1.out).size; have h2 := g2.size; simp at h1 h2; omega
   have xv2 := XA2.out.lt
   clear hHeld hS GG g2
   generalize (w2.alloc (.cells #[.int .i64 v0, .int .i64 v1, .int .i64 v2, .int .i64 v3, .int .i64 v4] 44)) = V2 at *
   generalize w2.heap.size = X2 at *
   have c0 := HA2.out.2.2.c 0 _ rfl
   have c1 := HA2.out.2.2.c 1 _ rfl
   have c2 := HA2.out.2.2.c 2 _ rfl
   have c3 := HA2.out.2.2.c 3 _ rfl
   have c4 := HA2.out.2.2.c 4 _ rfl
   have d0 := XA2.out.c 0 _ rfl
   have d1 := XA2.out.c 1 _ rfl
   have d2 := XA2.out.c 2 _ rfl
   have d3 := XA2.out.c 3 _ rfl
   have d4 := XA2.out.c 4 _ rfl
   go_wp2
   go_ret
   exact ⟨rfl, ((LMH.out.grown GV2.out).mono (by omega)).li PGH.out, (Only.grown GV2.out).mono (by simp)⟩
  ·skip
   intro K hK
   go_simp
   refine hK _ _ ⟨hHeld.1.alloc _, hHeld.2.1.alloc _, hHeld.2.2.alloc _⟩ ?_
   clear hK K
   replace hHeld : At (V1.drew.alloc (.cells #[.int .i64 0, .int .i64 0, .int .i64 0, .int .i64 0, .int .i64 0] 44)) bw [.pointer (some ⟨bp, 0, none⟩), .pointer (some ⟨bq, 0, none⟩), .pointer (some ⟨bk, 0, none⟩)] /\ At (V1.drew.alloc (.cells #[.int .i64 0, .int .i64 0, .int .i64 0, .int .i64 0, .int .i64 0] 44)) w.heap.size [.int .i64 16, .int .i64 sh, .int .i64 k, .int .i64 m, .int .i64 x, .int .i64 y, .float .f32 pl, .float .f32 sp, .string t] /\ At (V1.drew.alloc (.cells #[.int .i64 0, .int .i64 0, .int .i64 0, .int .i64 0, .int .i64 0] 44)) X1 [.int .i64 v0, .int .i64 v1, .int .i64 v2, .int .i64 v3, .int .i64 v4] := ⟨hHeld.1.alloc _, hHeld.2.1.alloc _, hHeld.2.2.alloc _⟩
   refine hCall 6 (f := 113) (args := #[.pointer (some ⟨bq, 0, none⟩), .int .i64 sh]) (by kernel_rfl) (by rfl) (by rfl) (by go_simp) ?_
   refine Calls.mono (QY.out _ (grownBy_alloc' (grownBy_drew GV1.out) _)) ?_
   rintro e w2 ⟨rfl, g2⟩
   have hS : At w2 bw (LC bp bq bk) /\ At w2 w.heap.size (AC 16 sh k m x y pl sp t) /\ At w2 X1 [.int .i64 v0, .int .i64 v1, .int .i64 v2, .int .i64 v3, .int .i64 v4] := ⟨hHeld.1.grown g2, hHeld.2.1.grown g2, hHeld.2.2.grown g2⟩
   have GG : Hid (w.grownBy w2 none) := (grownBy_alloc' (grownBy_drew GV1.out) _).trans g2
   have XB : At w2 V1.heap.size [.int .i64 0, .int .i64 0, .int .i64 0, .int .i64 0, .int .i64 0] := by
    have := (At.new V1.drew [.int .i64 0, .int .i64 0, .int .i64 0, .int .i64 0, .int .i64 0] 44).grown g2
    simpa using this
   have zz := (grownBy_drew GV1.out).size
   clear hHeld
   have hHeld := hS
   refine ⟨_, rfl, hHeld, ?_⟩
   simp only [lS0, lS1]
   refine hTk 7 ?_
   simp only [lS0, lS1]
   refine hTk 8 ?_
   simp only [lS0, lS1]
   refine hTk 9 ?_
   simp only [lS0, lS1]
   refine hRun 11 (by kernel_rfl) (by rfl) (by rfl) ?_
   intro K hK
   have xf := XB.f
   have xc0 := XB.c 0 _ rfl
   have xc1 := XB.c 1 _ rfl
   have xc2 := XB.c 2 _ rfl
   have xc3 := XB.c 3 _ rfl
   have xc4 := XB.c 4 _ rfl
   have PXL := XB.all [.int .i64 v0, .int .i64 v1, .int .i64 v2, .int .i64 v3, .int .i64 v4] rfl
   have POL := putL_only V1.heap.size [.int .i64 v0, .int .i64 v1, .int .i64 v2, .int .i64 v3, .int .i64 v4] w2 0
   simp only [putL, Nat.reduceAdd] at PXL POL
   go_simp
   have hS2 : At ((((((w2.setCell ⟨V1.heap.size, 0, none⟩ (.int .i64 v0)).setCell ⟨V1.heap.size, 1, none⟩ (.int .i64 v1)).setCell ⟨V1.heap.size, 2, none⟩ (.int .i64 v2)).setCell ⟨V1.heap.size, 3, none⟩ (.int .i64 v3)).setCell ⟨V1.heap.size, 4, none⟩ (.int .i64 v4))) bw [.pointer (some ⟨bp, 0, none⟩), .pointer (some ⟨bq, 0, none⟩), .pointer (some ⟨bk, 0, none⟩)] /\ At ((((((w2.setCell ⟨V1.heap.size, 0, none⟩ (.int .i64 v0)).setCell ⟨V1.heap.size, 1, none⟩ (.int .i64 v1)).setCell ⟨V1.heap.size, 2, none⟩ (.int .i64 v2)).setCell ⟨V1.heap.size, 3, none⟩ (.int .i64 v3)).setCell ⟨V1.heap.size, 4, none⟩ (.int .i64 v4))) w.heap.size [.int .i64 16, .int .i64 sh, .int .i64 k, .int .i64 m, .int .i64 x, .int .i64 y, .float .f32 pl, .float .f32 sp, .string t] /\ At ((((((w2.setCell ⟨V1.heap.size, 0, none⟩ (.int .i64 v0)).setCell ⟨V1.heap.size, 1, none⟩ (.int .i64 v1)).setCell ⟨V1.heap.size, 2, none⟩ (.int .i64 v2)).setCell ⟨V1.heap.size, 3, none⟩ (.int .i64 v3)).setCell ⟨V1.heap.size, 4, none⟩ (.int .i64 v4))) X1 [.int .i64 v0, .int .i64 v1, .int .i64 v2, .int .i64 v3, .int .i64 v4] := ⟨hHeld.1.only POL (fun e => by simp at zz; omega), hHeld.2.1.only POL (fun e => by simp at zz; omega), hHeld.2.2.only POL (fun e => by simp at zz; omega)⟩
   refine hK _ _ hS2 ?_
   clear hK K
   clear hHeld
   have hHeld := hS2
   refine hTk 12 ?_
   simp only [lS0, lS1]
   refine wpAnyH_done (by kernel_rfl) ?_ _
   have XA2 : Hid (At ((((((w2.setCell ⟨V1.heap.size, 0, none⟩ (.int .i64 v0)).setCell ⟨V1.heap.size, 1, none⟩ (.int .i64 v1)).setCell ⟨V1.heap.size, 2, none⟩ (.int .i64 v2)).setCell ⟨V1.heap.size, 3, none⟩ (.int .i64 v3)).setCell ⟨V1.heap.size, 4, none⟩ (.int .i64 v4))) V1.heap.size [.int .i64 v0, .int .i64 v1, .int .i64 v2, .int .i64 v3, .int .i64 v4]) := Hid.mk' PXL
   have GV2 : Hid (w.grownBy ((((((w2.setCell ⟨V1.heap.size, 0, none⟩ (.int .i64 v0)).setCell ⟨V1.heap.size, 1, none⟩ (.int .i64 v1)).setCell ⟨V1.heap.size, 2, none⟩ (.int .i64 v2)).setCell ⟨V1.heap.size, 3, none⟩ (.int .i64 v3)).setCell ⟨V1.heap.size, 4, none⟩ (.int .i64 v4))) none) := Hid.mk' (grown_of_only GG.out POL (fun k e => by simp at zz; omega))
   have HA2 := Hid.mk' hHeld
   have xl2 : w.heap.size < V1.heap.size := by simp at zz; omega
   have xv2 := XA2.out.lt
   clear hHeld hS GG g2 hS2 PXL POL XB xf xc0 xc1 xc2 xc3 xc4 zz
   generalize ((((((w2.setCell ⟨V1.heap.size, 0, none⟩ (.int .i64 v0)).setCell ⟨V1.heap.size, 1, none⟩ (.int .i64 v1)).setCell ⟨V1.heap.size, 2, none⟩ (.int .i64 v2)).setCell ⟨V1.heap.size, 3, none⟩ (.int .i64 v3)).setCell ⟨V1.heap.size, 4, none⟩ (.int .i64 v4))) = V2 at *
   generalize V1.heap.size = X2 at *
   have c0 := HA2.out.2.2.c 0 _ rfl
   have c1 := HA2.out.2.2.c 1 _ rfl
   have c2 := HA2.out.2.2.c 2 _ rfl
   have c3 := HA2.out.2.2.c 3 _ rfl
   have c4 := HA2.out.2.2.c 4 _ rfl
   have d0 := XA2.out.c 0 _ rfl
   have d1 := XA2.out.c 1 _ rfl
   have d2 := XA2.out.c 2 _ rfl
   have d3 := XA2.out.c 3 _ rfl
   have d4 := XA2.out.c 4 _ rfl
   go_wp2
   go_ret
   exact ⟨rfl, ((LMH.out.grown GV2.out).mono (by omega)).li PGH.out, (Only.grown GV2.out).mono (by simp)⟩
 ·skip
  intro K hK
  go_simp
  refine hK _ _ ⟨hHeld.1.alloc _, hHeld.2.1.alloc _, trivial⟩ ?_
  clear hK K
  replace hHeld : At ((w.alloc (.cells #[.int .i64 16, .int .i64 sh, .int .i64 k, .int .i64 m, .int .i64 x, .int .i64 y, .float .f32 pl, .float .f32 sp, .string t] 35)).drew.alloc (.cells #[.int .i64 0, .int .i64 0, .int .i64 0, .int .i64 0, .int .i64 0] 44)) bw [.pointer (some ⟨bp, 0, none⟩), .pointer (some ⟨bq, 0, none⟩), .pointer (some ⟨bk, 0, none⟩)] /\ At ((w.alloc (.cells #[.int .i64 16, .int .i64 sh, .int .i64 k, .int .i64 m, .int .i64 x, .int .i64 y, .float .f32 pl, .float .f32 sp, .string t] 35)).drew.alloc (.cells #[.int .i64 0, .int .i64 0, .int .i64 0, .int .i64 0, .int .i64 0] 44)) w.heap.size [.int .i64 16, .int .i64 sh, .int .i64 k, .int .i64 m, .int .i64 x, .int .i64 y, .float .f32 pl, .float .f32 sp, .string t] /\ True := ⟨hHeld.1.alloc _, hHeld.2.1.alloc _, trivial⟩
  refine hCall 6 (f := 16) (args := #[.pointer (some ⟨bp, 0, none⟩), .int .i64 sh]) (by kernel_rfl) (by rfl) (by rfl) (by go_simp) ?_
  refine Calls.mono (QX.out _ (grownBy_alloc' (grownBy_drew G0.out) _)) ?_
  rintro e w1 ⟨rfl, g1⟩
  have hS : At w1 bw (LC bp bq bk) /\ At w1 w.heap.size (AC 16 sh k m x y pl sp t) /\ True := ⟨hHeld.1.grown g1, hHeld.2.1.grown g1, trivial⟩
  have GG : Hid (w.grownBy w1 none) := (grownBy_alloc' (grownBy_drew G0.out) _).trans g1
  have XB : At w1 (w.heap.size + 1) [.int .i64 0, .int .i64 0, .int .i64 0, .int .i64 0, .int .i64 0] := by
   have := (At.new (w.alloc (.cells #[.int .i64 16, .int .i64 sh, .int .i64 k, .int .i64 m, .int .i64 x, .int .i64 y, .float .f32 pl, .float .f32 sp, .string t] 35)).drew [.int .i64 0, .int .i64 0, .int .i64 0, .int .i64 0, .int .i64 0] 44).grown g1
   simpa using this
  have zz := (grownBy_drew G0.out).size
  clear hHeld
  have hHeld := hS
  refine ⟨_, rfl, hHeld, ?_⟩
  simp only [lS0, lS1]
  refine hTk 7 ?_
  simp only [lS0, lS1]
  refine hTk 8 ?_
  simp only [lS0, lS1]
  refine hTk 9 ?_
  simp only [lS0, lS1]
  refine hRun 11 (by kernel_rfl) (by rfl) (by rfl) ?_
  intro K hK
  have xf := XB.f
  have xc0 := XB.c 0 _ rfl
  have xc1 := XB.c 1 _ rfl
  have xc2 := XB.c 2 _ rfl
  have xc3 := XB.c 3 _ rfl
  have xc4 := XB.c 4 _ rfl
  have PXL := XB.all [.int .i64 v0, .int .i64 v1, .int .i64 v2, .int .i64 v3, .int .i64 v4] rfl
  have POL := putL_only (w.heap.size + 1) [.int .i64 v0, .int .i64 v1, .int .i64 v2, .int .i64 v3, .int .i64 v4] w1 0
  simp only [putL, Nat.reduceAdd] at PXL POL
  go_simp
  have hS2 : At ((((((w1.setCell ⟨(w.heap.size + 1), 0, none⟩ (.int .i64 v0)).setCell ⟨(w.heap.size + 1), 1, none⟩ (.int .i64 v1)).setCell ⟨(w.heap.size + 1), 2, none⟩ (.int .i64 v2)).setCell ⟨(w.heap.size + 1), 3, none⟩ (.int .i64 v3)).setCell ⟨(w.heap.size + 1), 4, none⟩ (.int .i64 v4))) bw [.pointer (some ⟨bp, 0, none⟩), .pointer (some ⟨bq, 0, none⟩), .pointer (some ⟨bk, 0, none⟩)] /\ At ((((((w1.setCell ⟨(w.heap.size + 1), 0, none⟩ (.int .i64 v0)).setCell ⟨(w.heap.size + 1), 1, none⟩ (.int .i64 v1)).setCell ⟨(w.heap.size + 1), 2, none⟩ (.int .i64 v2)).setCell ⟨(w.heap.size + 1), 3, none⟩ (.int .i64 v3)).setCell ⟨(w.heap.size + 1), 4, none⟩ (.int .i64 v4))) w.heap.size [.int .i64 16, .int .i64 sh, .int .i64 k, .int .i64 m, .int .i64 x, .int .i64 y, .float .f32 pl, .float .f32 sp, .string t] /\ True := ⟨hHeld.1.only POL (fun e => by simp at zz; omega), hHeld.2.1.only POL (fun e => by simp at zz; omega), trivial⟩
  refine hK _ _ hS2 ?_
  clear hK K
  clear hHeld
  have hHeld := hS2
  refine hTk 12 ?_
  simp only [lS0, lS1]
  refine wpAnyH_done (by kernel_rfl) ?_ _
  have XA1 : Hid (At ((((((w1.setCell ⟨(w.heap.size + 1), 0, none⟩ (.int .i64 v0)).setCell ⟨(w.heap.size + 1), 1, none⟩ (.int .i64 v1)).setCell ⟨(w.heap.size + 1), 2, none⟩ (.int .i64 v2)).setCell ⟨(w.heap.size + 1), 3, none⟩ (.int .i64 v3)).setCell ⟨(w.heap.size + 1), 4, none⟩ (.int .i64 v4))) (w.heap.size + 1) [.int .i64 v0, .int .i64 v1, .int .i64 v2, .int .i64 v3, .int .i64 v4]) := Hid.mk' PXL
  have GV1 : Hid (w.grownBy ((((((w1.setCell ⟨(w.heap.size + 1), 0, none⟩ (.int .i64 v0)).setCell ⟨(w.heap.size + 1), 1, none⟩ (.int .i64 v1)).setCell ⟨(w.heap.size + 1), 2, none⟩ (.int .i64 v2)).setCell ⟨(w.heap.size + 1), 3, none⟩ (.int .i64 v3)).setCell ⟨(w.heap.size + 1), 4, none⟩ (.int .i64 v4))) none) := Hid.mk' (grown_of_only GG.out POL (fun k e => by simp at zz; omega))
  have HA1 := Hid.mk' hHeld
  have xl1 : w.heap.size < (w.heap.size + 1) := by simp at zz; omega
  have xv1 := XA1.out.lt
  clear hHeld hS GG g1 hS2 PXL POL XB xf xc0 xc1 xc2 xc3 xc4 zz
  generalize ((((((w1.setCell ⟨(w.heap.size + 1), 0, none⟩ (.int .i64 v0)).setCell ⟨(w.heap.size + 1), 1, none⟩ (.int .i64 v1)).setCell ⟨(w.heap.size + 1), 2, none⟩ (.int .i64 v2)).setCell ⟨(w.heap.size + 1), 3, none⟩ (.int .i64 v3)).setCell ⟨(w.heap.size + 1), 4, none⟩ (.int .i64 v4))) = V1 at *
  generalize (w.heap.size + 1) = X1 at *
  go_wp2_with fail
  refine wp_region_held_drew (S := fun w' => At w' bw (LC bp bq bk) /\ At w' w.heap.size (AC 16 sh k m x y pl sp t) /\ At w' X1 [.int .i64 v0, .int .i64 v1, .int .i64 v2, .int .i64 v3, .int .i64 v4]) (by kernel_rfl) (⟨HA1.out.1.drew, HA1.out.2.1.drew, XA1.out.drew⟩) (fun hHeld => ?_)
  refine hTk 0 ?_
  simp only [lS0, lS1]
  refine hTk 1 ?_
  simp only [lS0, lS1]
  refine hTk 2 ?_
  simp only [lS0, lS1]
  refine hTy 3 rfl (by intro w hSw; have S0 := hSw.1.c 1 _ rfl; go_simp; try with_reducible rfl) ?_
  simp only [lS0, lS1]
  refine hTk 4 ?_
  simp only [lS0, lS1]
  refine hTy 5 rfl (by intro w hSw; have S1 := hSw.2.1.c 1 _ rfl; go_simp; try with_reducible rfl) ?_
  simp only [lS0, lS1]
  refine hEither 6 10 (f := 113) (args := #[.pointer (some ⟨bq, 0, none⟩), .int .i64 sh]) (by kernel_rfl) (by rfl) (by rfl) (by go_simp) (by rfl) (by rfl) ?_ ?_
  ·skip
   refine Calls.mono (QY.out _ (grownBy_drew GV1.out)) ?_
   rintro e w2 ⟨rfl, g2⟩
   have hS : At w2 bw (LC bp bq bk) /\ At w2 w.heap.size (AC 16 sh k m x y pl sp t) /\ At w2 X1 [.int .i64 v0, .int .i64 v1, .int .i64 v2, .int .i64 v3, .int .i64 v4] := ⟨hHeld.1.grown g2, hHeld.2.1.grown g2, hHeld.2.2.grown g2⟩
   have GG : Hid (w.grownBy w2 none) := (grownBy_drew GV1.out).trans g2
   clear hHeld
   have hHeld := hS
   refine ⟨_, rfl, hHeld, ?_⟩
   simp only [lS0, lS1]
   refine hTk 7 ?_
   simp only [lS0, lS1]
   refine hTk 8 ?_
   simp only [lS0, lS1]
   refine hTk 9 ?_
   simp only [lS0, lS1]
   refine hRun 10 (by kernel_rfl) (by rfl) (by rfl) ?_
   intro K hK
   go_simp
   refine hK _ _ ⟨hHeld.1.alloc _, hHeld.2.1.alloc _, hHeld.2.2.alloc _⟩ ?_
   clear hK K
   refine hRun 11 (by kernel_rfl) (by rfl) (by rfl) ?_
   intro K hK
   go_simp
   refine hK _ _ ⟨hHeld.1.alloc _, hHeld.2.1.alloc _, hHeld.2.2.alloc _⟩ ?_
   clear hK K
   replace hHeld : At (w2.alloc (.cells #[.int .i64 v0, .int .i64 v1, .int .i64 v2, .int .i64 v3, .int .i64 v4] 44)) bw [.pointer (some ⟨bp, 0, none⟩), .pointer (some ⟨bq, 0, none⟩), .pointer (some ⟨bk, 0, none⟩)] /\ At (w2.alloc (.cells #[.int .i64 v0, .int .i64 v1, .int .i64 v2, .int .i64 v3, .int .i64 v4] 44)) w.heap.size [.int .i64 16, .int .i64 sh, .int .i64 k, .int .i64 m, .int .i64 x, .int .i64 y, .float .f32 pl, .float .f32 sp, .string t] /\ At (w2.alloc (.cells #[.int .i64 v0, .int .i64 v1, .int .i64 v2, .int .i64 v3, .int .i64 v4] 44)) X1 [.int .i64 v0, .int .i64 v1, .int .i64 v2, .int .i64 v3, .int .i64 v4] := ⟨hHeld.1.alloc _, hHeld.2.1.alloc _, hHeld.2.2.alloc _⟩
   refine hTk 12 ?_
   simp only [lS0, lS1]
   refine wpAnyH_done (by kernel_rfl) ?_ _
   have XA2 : Hid (At (w2.alloc (.cells #[.int .i64 v0, .int .i64 v1, .int .i64 v2, .int .i64 v3, .int .i64 v4] 44)) w2.heap.size [.int .i64 v0, .int .i64 v1, .int .i64 v2, .int .i64 v3, .int .i64 v4]) := Hid.mk' (At.new w2 [.int .i64 v0, .int .i64 v1, .int .i64 v2, .int .i64 v3, .int .i64 v4] 44)
   have GV2 : Hid (w.grownBy (w2.alloc (.cells #[.int .i64 v0, .int .i64 v1, .int .i64 v2, .int .i64 v3, .int .i64 v4] 44)) none) := grownBy_alloc' GG.out _
   have HA2 := Hid.mk' hHeld
   have xl2 : w.heap.size < w2.heap.size := by have h1 := (grownBy_drew GV1.out).size; have h2 := g2.size; simp at h1 h2; omega
   have xv2 := XA2.out.lt
   clear hHeld hS GG g2
   generalize (w2.alloc (.cells #[.int .i64 v0, .int .i64 v1, .int .i64 v2, .int .i64 v3, .int .i64 v4] 44)) = V2 at *
   generalize w2.heap.size = X2 at *
   have c0 := HA2.out.2.2.c 0 _ rfl
   have c1 := HA2.out.2.2.c 1 _ rfl
   have c2 := HA2.out.2.2.c 2 _ rfl
   have c3 := HA2.out.2.2.c 3 _ rfl
   have c4 := HA2.out.2.2.c 4 _ rfl
   have d0 := XA2.out.c 0 _ rfl
   have d1 := XA2.out.c 1 _ rfl
   have d2 := XA2.out.c 2 _ rfl
   have d3 := XA2.out.c 3 _ rfl
   have d4 := XA2.out.c 4 _ rfl
   go_wp2
   go_ret
   exact ⟨rfl, ((LMH.out.grown GV2.out).mono (by omega)).li PGH.out, (Only.grown GV2.out).mono (by simp)⟩
  ·skip
   intro K hK
   go_simp
   refine hK _ _ ⟨hHeld.1.alloc _, hHeld.2.1.alloc _, hHeld.2.2.alloc _⟩ ?_
   clear hK K
   replace hHeld : At (V1.drew.alloc (.cells #[.int .i64 0, .int .i64 0, .int .i64 0, .int .i64 0, .int .i64 0] 44)) bw [.pointer (some ⟨bp, 0, none⟩), .pointer (some ⟨bq, 0, none⟩), .pointer (some ⟨bk, 0, none⟩)] /\ At (V1.drew.alloc (.cells #[.int .i64 0, .int .i64 0, .int .i64 0, .int .i64 0, .int .i64 0] 44)) w.heap.size [.int .i64 16, .int .i64 sh, .int .i64 k, .int .i64 m, .int .i64 x, .int .i64 y, .float .f32 pl, .float .f32 sp, .string t] /\ At (V1.drew.alloc (.cells #[.int .i64 0, .int .i64 0, .int .i64 0, .int .i64 0, .int .i64 0] 44)) X1 [.int .i64 v0, .int .i64 v1, .int .i64 v2, .int .i64 v3, .int .i64 v4] := ⟨hHeld.1.alloc _, hHeld.2.1.alloc _, hHeld.2.2.alloc _⟩
   refine hCall 6 (f := 113) (args := #[.pointer (some ⟨bq, 0, none⟩), .int .i64 sh]) (by kernel_rfl) (by rfl) (by rfl) (by go_simp) ?_
   refine Calls.mono (QY.out _ (grownBy_alloc' (grownBy_drew GV1.out) _)) ?_
   rintro e w2 ⟨rfl, g2⟩
   have hS : At w2 bw (LC bp bq bk) /\ At w2 w.heap.size (AC 16 sh k m x y pl sp t) /\ At w2 X1 [.int .i64 v0, .int .i64 v1, .int .i64 v2, .int .i64 v3, .int .i64 v4] := ⟨hHeld.1.grown g2, hHeld.2.1.grown g2, hHeld.2.2.grown g2⟩
   have GG : Hid (w.grownBy w2 none) := (grownBy_alloc' (grownBy_drew GV1.out) _).trans g2
   have XB : At w2 V1.heap.size [.int .i64 0, .int .i64 0, .int .i64 0, .int .i64 0, .int .i64 0] := by
    have := (At.new V1.drew [.int .i64 0, .int .i64 0, .int .i64 0, .int .i64 0, .int .i64 0] 44).grown g2
    simpa using this
   have zz := (grownBy_drew GV1.out).size
   clear hHeld
   have hHeld := hS
   refine ⟨_, rfl, hHeld, ?_⟩
   simp only [lS0, lS1]
   refine hTk 7 ?_
   simp only [lS0, lS1]
   refine hTk 8 ?_
   simp only [lS0, lS1]
   refine hTk 9 ?_
   simp only [lS0, lS1]
   refine hRun 11 (by kernel_rfl) (by rfl) (by rfl) ?_
   intro K hK
   have xf := XB.f
   have xc0 := XB.c 0 _ rfl
   have xc1 := XB.c 1 _ rfl
   have xc2 := XB.c 2 _ rfl
   have xc3 := XB.c 3 _ rfl
   have xc4 := XB.c 4 _ rfl
   have PXL := XB.all [.int .i64 v0, .int .i64 v1, .int .i64 v2, .int .i64 v3, .int .i64 v4] rfl
   have POL := putL_only V1.heap.size [.int .i64 v0, .int .i64 v1, .int .i64 v2, .int .i64 v3, .int .i64 v4] w2 0
   simp only [putL, Nat.reduceAdd] at PXL POL
   go_simp
   have hS2 : At ((((((w2.setCell ⟨V1.heap.size, 0, none⟩ (.int .i64 v0)).setCell ⟨V1.heap.size, 1, none⟩ (.int .i64 v1)).setCell ⟨V1.heap.size, 2, none⟩ (.int .i64 v2)).setCell ⟨V1.heap.size, 3, none⟩ (.int .i64 v3)).setCell ⟨V1.heap.size, 4, none⟩ (.int .i64 v4))) bw [.pointer (some ⟨bp, 0, none⟩), .pointer (some ⟨bq, 0, none⟩), .pointer (some ⟨bk, 0, none⟩)] /\ At ((((((w2.setCell ⟨V1.heap.size, 0, none⟩ (.int .i64 v0)).setCell ⟨V1.heap.size, 1, none⟩ (.int .i64 v1)).setCell ⟨V1.heap.size, 2, none⟩ (.int .i64 v2)).setCell ⟨V1.heap.size, 3, none⟩ (.int .i64 v3)).setCell ⟨V1.heap.size, 4, none⟩ (.int .i64 v4))) w.heap.size [.int .i64 16, .int .i64 sh, .int .i64 k, .int .i64 m, .int .i64 x, .int .i64 y, .float .f32 pl, .float .f32 sp, .string t] /\ At ((((((w2.setCell ⟨V1.heap.size, 0, none⟩ (.int .i64 v0)).setCell ⟨V1.heap.size, 1, none⟩ (.int .i64 v1)).setCell ⟨V1.heap.size, 2, none⟩ (.int .i64 v2)).setCell ⟨V1.heap.size, 3, none⟩ (.int .i64 v3)).setCell ⟨V1.heap.size, 4, none⟩ (.int .i64 v4))) X1 [.int .i64 v0, .int .i64 v1, .int .i64 v2, .int .i64 v3, .int .i64 v4] := ⟨hHeld.1.only POL (fun e => by simp at zz; omega), hHeld.2.1.only POL (fun e => by simp at zz; omega), hHeld.2.2.only POL (fun e => by simp at zz; omega)⟩
   refine hK _ _ hS2 ?_
   clear hK K
   clear hHeld
   have hHeld := hS2
   refine hTk 12 ?_
   simp only [lS0, lS1]
   refine wpAnyH_done (by kernel_rfl) ?_ _
   have XA2 : Hid (At ((((((w2.setCell ⟨V1.heap.size, 0, none⟩ (.int .i64 v0)).setCell ⟨V1.heap.size, 1, none⟩ (.int .i64 v1)).setCell ⟨V1.heap.size, 2, none⟩ (.int .i64 v2)).setCell ⟨V1.heap.size, 3, none⟩ (.int .i64 v3)).setCell ⟨V1.heap.size, 4, none⟩ (.int .i64 v4))) V1.heap.size [.int .i64 v0, .int .i64 v1, .int .i64 v2, .int .i64 v3, .int .i64 v4]) := Hid.mk' PXL
   have GV2 : Hid (w.grownBy ((((((w2.setCell ⟨V1.heap.size, 0, none⟩ (.int .i64 v0)).setCell ⟨V1.heap.size, 1, none⟩ (.int .i64 v1)).setCell ⟨V1.heap.size, 2, none⟩ (.int .i64 v2)).setCell ⟨V1.heap.size, 3, none⟩ (.int .i64 v3)).setCell ⟨V1.heap.size, 4, none⟩ (.int .i64 v4))) none) := Hid.mk' (grown_of_only GG.out POL (fun k e => by simp at zz; omega))
   have HA2 := Hid.mk' hHeld
   have xl2 : w.heap.size < V1.heap.size := by simp at zz; omega
   have xv2 := XA2.out.lt
   clear hHeld hS GG g2 hS2 PXL POL XB xf xc0 xc1 xc2 xc3 xc4 zz
   generalize ((((((w2.setCell ⟨V1.heap.size, 0, none⟩ (.int .i64 v0)).setCell ⟨V1.heap.size, 1, none⟩ (.int .i64 v1)).setCell ⟨V1.heap.size, 2, none⟩ (.int .i64 v2)).setCell ⟨V1.heap.size, 3, none⟩ (.int .i64 v3)).setCell ⟨V1.heap.size, 4, none⟩ (.int .i64 v4))) = V2 at *
   generalize V1.heap.size = X2 at *
   have c0 := HA2.out.2.2.c 0 _ rfl
   have c1 := HA2.out.2.2.c 1 _ rfl
   have c2 := HA2.out.2.2.c 2 _ rfl
   have c3 := HA2.out.2.2.c 3 _ rfl
   have c4 := HA2.out.2.2.c 4 _ rfl
   have d0 := XA2.out.c 0 _ rfl
   have d1 := XA2.out.c 1 _ rfl
   have d2 := XA2.out.c 2 _ rfl
   have d3 := XA2.out.c 3 _ rfl
   have d4 := XA2.out.c 4 _ rfl
   go_wp2
   go_ret
   exact ⟨rfl, ((LMH.out.grown GV2.out).mono (by omega)).li PGH.out, (Only.grown GV2.out).mono (by simp)⟩
structure Ac where
 K : Int
 sh : Int
 k : Int
 m : Int
 x : Int
 y : Int
 pl : Nat
 sp : Nat
 t : ByteArray
def Ac.cells (a : Ac) : List Value := [.int .i64 a.K, .int .i64 a.sh, .int .i64 a.k, .int .i64 a.m, .int .i64 a.x, .int .i64 a.y, .float .f32 a.pl, .float .f32 a.sp, .string a.t]
structure Ac.Ok (a : Ac) : Prop where
 k : i64B a.k
 m : i64B a.m
 x : i64B a.x
 y : i64B a.y
 pl : a.pl < 4294967296
 sp : a.sp < 4294967296
theorem asks_any (B bw n : Nat) (a : Ac) (w : World) (h : LI w B bw n) (hn : n <= 9000000) :
  Calls Tryz.prog 62 #[.pointer (some ⟨bw, 0, none⟩), .agg #[.int .i64 a.K, .int .i64 a.sh, .int .i64 a.k, .int .i64 a.m, .int .i64 a.x, .int .i64 a.y, .float .f32 a.pl, .float .f32 a.sp, .string a.t]] w fun e w' => e = .returned (.bool true) /\ LI w' B bw (n + 4) /\ Only w w' (fun j => B <= j) := by
 obtain ⟨K, sh, k, m, x, y, pl, sp, t⟩ := a
 by_cases h14 : K = 14
 ·subst h14; exact ask_world B bw n sh k m x y pl sp t w h hn
 by_cases h15 : K = 15
 ·subst h15; exact ask_outbox B bw n sh k m x y pl sp t w h hn
 by_cases h16 : K = 16
 ·subst h16; exact ask_marks B bw n sh k m x y pl sp t w h
 by_cases h17 : K = 17
 ·subst h17; exact ask_flight B bw n sh k m x y pl sp t w h hn
 by_cases h18 : K = 18
 ·subst h18; exact ask_file B bw n sh k m x y pl sp t w h hn
 exact ask_none B bw n K sh k m x y pl sp t w h (fun c h1 h2 => by show K ≠ c; omega)
theorem act_other (B bw n : Nat) (a : Ac) (w : World) (h : LI w B bw n) (hn : n <= 9000000) (hK : ∀ c : Int, 1 <= c -> c <= 13 -> a.K ≠ c) :
  Calls Tryz.prog 22 #[.pointer (some ⟨bw, 0, none⟩), .agg #[.int .i64 a.K, .int .i64 a.sh, .int .i64 a.k, .int .i64 a.m, .int .i64 a.x, .int .i64 a.y, .float .f32 a.pl, .float .f32 a.sp, .string a.t]] w fun e w' => e = .returned (.bool true) /\ LI w' B bw (n + 4) /\ Only w w' (fun j => B <= j) := by
 have g0 := World.grownBy_alloc w (.cells #[.int .i64 a.K, .int .i64 a.sh, .int .i64 a.k, .int .i64 a.m, .int .i64 a.x, .int .i64 a.y, .float .f32 a.pl, .float .f32 a.sp, .string a.t] 35) none
 have AS := Hid.mk' (asks_any B bw n a _ (h.grown g0) hn)
 have G0 := Hid.mk' g0
 have e1 : (a.K == 1) = false := by have := hK 1 (by omega) (by omega); simpa using this
 have e2 : (a.K == 2) = false := by have := hK 2 (by omega) (by omega); simpa using this
 have e3 : (a.K == 3) = false := by have := hK 3 (by omega) (by omega); simpa using this
 have e4 : (a.K == 4) = false := by have := hK 4 (by omega) (by omega); simpa using this
 have e5 : (a.K == 5) = false := by have := hK 5 (by omega) (by omega); simpa using this
 have e6 : (a.K == 6) = false := by have := hK 6 (by omega) (by omega); simpa using this
 have e7 : (a.K == 7) = false := by have := hK 7 (by omega) (by omega); simpa using this
 have e8 : (a.K == 8) = false := by have := hK 8 (by omega) (by omega); simpa using this
 have e9 : (a.K == 9) = false := by have := hK 9 (by omega) (by omega); simpa using this
 have e10 : (a.K == 10) = false := by have := hK 10 (by omega) (by omega); simpa using this
 have e11 : (a.K == 11) = false := by have := hK 11 (by omega) (by omega); simpa using this
 have e12 : (a.K == 12) = false := by have := hK 12 (by omega) (by omega); simpa using this
 have e13 : (a.K == 13) = false := by have := hK 13 (by omega) (by omega); simpa using this
 clear h hK g0
 go_enter Tryz.func22, Tryz.ntmps22
 go_wp2_with fail
 refine Calls.mono AS.out ?_
 rintro e w1 ⟨rfl, l1, o1⟩
 go_wp2
 go_ret
 exact ⟨rfl, l1, ((Only.grown G0.out).mono (by simp)).trans (o1.mono (fun _ _ e => .inl e))⟩
theorem act_any (B bw n : Nat) (a : Ac) (w : World) (h : LI w B bw n) (hn : n <= 9000000) (hK : a.K <= 7 ∨ 14 <= a.K) (ok : a.Ok) :
  Calls Tryz.prog 22 #[.pointer (some ⟨bw, 0, none⟩), .agg #[.int .i64 a.K, .int .i64 a.sh, .int .i64 a.k, .int .i64 a.m, .int .i64 a.x, .int .i64 a.y, .float .f32 a.pl, .float .f32 a.sp, .string a.t]] w fun e w' => e = .returned (.bool true) /\ LI w' B bw (n + 4) /\ Only w w' (fun j => B <= j) := by
 have mo : ∀ (e : Ending) (w' : World), (e = .returned (.bool true) /\ LI w' B bw n /\ Only w w' (fun j => B <= j)) -> e = .returned (.bool true) /\ LI w' B bw (n + 4) /\ Only w w' (fun j => B <= j) := fun e w' h => ⟨h.1, h.2.1.mono (by omega), h.2.2⟩
 obtain ⟨k1, k2, k3, k4, k5, k6⟩ := ok
 by_cases ho : ∀ c : Int, 1 <= c -> c <= 13 -> a.K ≠ c
 ·exact act_other B bw n a w h hn ho
 ·obtain ⟨K, sh, k, m, x, y, pl, sp, t⟩ := a
  simp only at hK k1 k2 k3 k4 k5 k6 ho ⊢
  have hK' : 1 <= K /\ K <= 7 := by
   refine Decidable.byContradiction fun hh => ho (fun c c1 c2 e => ?_)
   omega
  rcases (by omega : K = 1 ∨ K = 2 ∨ K = 3 ∨ K = 4 ∨ K = 5 ∨ K = 6 ∨ K = 7) with rfl | rfl | rfl | rfl | rfl | rfl | rfl
  ·exact (act_mint B bw n sh k m x y pl sp t w h k5 k6).mono mo
  ·exact (act_destroy B bw n sh k m x y pl sp t w h k3 k4).mono mo
  ·exact (act_tick B bw n sh k m x y pl sp t w h).mono mo
  ·exact (act_snap B bw n sh k m x y pl sp t w h).mono mo
  ·exact (act_break B bw n sh k m x y pl sp t w h k1 k2).mono mo
  ·exact (act_crash B bw n sh k m x y pl sp t w h k2).mono mo
  ·exact (act_restart B bw n sh k m x y pl sp t w h).mono mo
def acOf (K sh k : Int) : Ac := ⟨K, sh, k, 0, 0, 0, 0, 0, ⟨#[]⟩⟩
theorem all_any (B bw n : Nat) (w : World) (h : LI w B bw n) (hn : n <= 8000000) :
  Calls Tryz.prog 64 #[.pointer (some ⟨bw, 0, none⟩)] w fun e w' => e = .returned (.bool true) /\ LI w' B bw (n + 320) /\ Only w w' (fun j => B <= j) := by
 have L0 := Hid.mk' h
 clear h
 go_enter Tryz.func64, Tryz.ntmps64
 go_wp2_with fail
 go_loopw [3, 4] (fun b s wr => ∃ i : Nat, i <= 4 /\ b = .bool true /\ s = .int .i64 ((i : Int) - 1) /\ LI wr B bw (n + 80 * i) /\ Only w wr (fun j => B <= j)) (fun _ s _ => 4 - (intOf s + 1).toNat)
 case atStart => exact ⟨0, by omega, rfl, rfl, L0.out, Only.refl _ _⟩
 case round =>
  clear L0
  obtain ⟨i, hi, rfl, rfl, li, on⟩ := hrel
  have L1 := Hid.mk' li
  have O1 := Hid.mk' on
  clear li on
  by_cases hlt : i < 4
  ·have x1 : (i : Int) - 1 <= 2 := by omega
   go_wp2_with fail
   go_loopw [3, 5] (fun b s wr => ∃ q : Nat, q <= 5 /\ b = .bool true /\ s = .int .i64 (14 + (q : Int)) /\ LI wr B bw (n + 80 * i + 16 * q) /\ Only w wr (fun j => B <= j)) (fun _ s _ => 5 - (intOf s - 14).toNat)
   case atStart => exact ⟨0, by omega, rfl, rfl, L1.out, O1.out⟩
   case round =>
    clear L1 O1
    obtain ⟨q, hq, rfl, rfl, li, on⟩ := hrel
    have L1 := Hid.mk' li
    have O1 := Hid.mk' on
    clear li on
    by_cases hql : q < 5
    ·have x2 : 14 + (q : Int) <= 18 := by omega
     go_wp2_with fail
     go_loopw [3, 6] (fun b s wr => ∃ r : Nat, r <= 4 /\ b = .bool true /\ s = .int .i64 ((r : Int) - 1) /\ LI wr B bw (n + 80 * i + 16 * q + 4 * r) /\ Only w wr (fun j => B <= j)) (fun _ s _ => 4 - (intOf s + 1).toNat)
     case atStart => exact ⟨0, by omega, rfl, rfl, L1.out, O1.out⟩
     case round =>
      clear L1 O1
      obtain ⟨r, hr, rfl, rfl, li, on⟩ := hrel
      have L1 := Hid.mk' li
      have O1 := Hid.mk' on
      clear li on
      by_cases hrl : r < 4
      ·have x3 : (r : Int) - 1 <= 2 := by omega
       go_wp2_with fail
       refine Calls.mono (asks_any B bw _ (acOf (14 + (q : Int)) ((i : Int) - 1) ((r : Int) - 1)) _ L1.out (by omega)) ?_
       rintro e w1 ⟨rfl, l1, o1⟩
       go_wp2
       exact ⟨⟨r + 1, by omega, rfl, by go_num, by rw [show n + 80 * i + 16 * q + 4 * (r + 1) = n + 80 * i + 16 * q + 4 * r + 4 by omega]; exact l1, O1.out.trans (o1.mono (fun _ _ e => .inl e))⟩, by simp [intOf]; omega⟩
      ·have x3 : ¬ (r : Int) - 1 <= 2 := by omega
       obtain rfl : r = 4 := by omega
       go_wp2
       exact ⟨⟨q + 1, by omega, rfl, by go_num, by rw [show n + 80 * i + 16 * (q + 1) = n + 80 * i + 16 * q + 4 * 4 by omega]; exact L1.out, O1.out⟩, by simp [intOf]; omega⟩
    ·have x2 : ¬ 14 + (q : Int) <= 18 := by omega
     obtain rfl : q = 5 := by omega
     go_wp2
     exact ⟨⟨i + 1, by omega, rfl, by go_num, by rw [show n + 80 * (i + 1) = n + 80 * i + 16 * 5 by omega]; exact L1.out, O1.out⟩, by simp [intOf]; omega⟩
  ·have x1 : ¬ (i : Int) - 1 <= 2 := by omega
   obtain rfl : i = 4 := by omega
   go_wp2
   go_ret
   exact ⟨rfl, L1.out, O1.out⟩
theorem LI.looks {w : World} {B bw n : Nat} (h : LI w B bw n) (hn : n <= 10000000) : ∃ bk, w.cell? ⟨bw, 2, none⟩ = some (.pointer (some ⟨bk, 0, none⟩)) /\ Calls Tryz.prog 23 #[.pointer (some ⟨bk, 0, none⟩)] w fun e w' => e = .returned (.bool true) /\ w.grownBy w' none := by
 obtain ⟨bp, b0, b1, bq, q0, q1, bk, cI, cO, cJ, s0, s1, r0, r1, F0, F1, R, lm, pg⟩ := h
 obtain ⟨nI, nE, nT, h1, h2, h3, hb⟩ := lm.bo
 exact ⟨bk, lm.lw.c 2 _ rfl, hb.looks (by omega) (by omega) (by omega)⟩
theorem acOf_ok (K sh k : Int) (hk : i64B k) : (acOf K sh k).Ok := ⟨hk, by show i64B 0; unfold i64B; decide, by show i64B 0; unfold i64B; decide, by show i64B 0; unfold i64B; decide, by show (0 : Nat) < _; decide, by show (0 : Nat) < _; decide⟩
theorem last_any (B bw n : Nat) (w : World) (h : LI w B bw n) (hn : n <= 7000000) :
  Calls Tryz.prog 24 #[.pointer (some ⟨bw, 0, none⟩)] w fun e w' => e = .returned (.bool true) /\ Only w w' (fun j => B <= j) := by
 have A0 := Hid.mk' (all_any B bw n w h (by omega))
 clear h
 go_enter Tryz.func24, Tryz.ntmps24
 go_wp2_with fail
 refine Calls.mono A0.out ?_
 rintro e w1 ⟨rfl, l1, o1⟩
 have L1 := Hid.mk' l1
 have O1 := Hid.mk' o1
 clear l1 o1 A0
 go_wp2_with fail
 go_loopw [3, 4] (fun b s wr => ∃ i : Nat, i <= 2 /\ b = .bool true /\ s = .int .i64 i /\ LI wr B bw (n + 320 + 8 * i) /\ Only w wr (fun j => B <= j)) (fun _ s _ => 2 - (intOf s).toNat)
 case atStart => exact ⟨0, by omega, rfl, rfl, L1.out, O1.out⟩
 case round =>
  clear L1 O1
  obtain ⟨i, hi, rfl, rfl, li, on⟩ := hrel
  have L1 := Hid.mk' li
  have O1 := Hid.mk' on
  clear li on
  by_cases hlt : i < 2
  ·go_wp2_with fail
   refine Calls.mono (act_any B bw _ (acOf 6 (i : Int) 0) _ L1.out (by omega) (.inl (by show (6 : Int) <= 7; omega)) (acOf_ok _ _ _ (by unfold i64B; decide))) ?_
   rintro e w2 ⟨rfl, l2, o2⟩
   have L2 := Hid.mk' l2
   have O2 := Hid.mk' (O1.out.trans (o2.mono (fun _ _ e => .inl e)))
   clear l2 o2
   go_wp2_with fail
   refine Calls.mono (act_any B bw _ (acOf 7 (i : Int) 0) _ L2.out (by omega) (.inl (by show (7 : Int) <= 7; omega)) (acOf_ok _ _ _ (by unfold i64B; decide))) ?_
   rintro e w3 ⟨rfl, l3, o3⟩
   go_wp2
   exact ⟨⟨i + 1, by omega, rfl, by go_num, by rw [show n + 320 + 8 * (i + 1) = n + 320 + 8 * i + 4 + 4 by omega]; exact l3, O2.out.trans (o3.mono (fun _ _ e => .inl e))⟩, by simp [intOf]; omega⟩
  ·obtain rfl : i = 2 := by omega
   go_wp2_with fail
   refine Calls.mono (all_any B bw _ _ L1.out (by omega)) ?_
   rintro e w2 ⟨rfl, l2, o2⟩
   obtain ⟨bk, c2, lk⟩ := l2.looks (by omega)
   have LK := Hid.mk' lk
   have O2 := Hid.mk' (O1.out.trans (o2.mono (fun _ _ e => .inl e)))
   clear l2 o2 lk
   go_wp2_with fail
   refine Calls.mono LK.out ?_
   rintro e w3 ⟨rfl, g3⟩
   go_wp2
   go_ret
   exact ⟨rfl, O2.out.trans ((Only.grown g3).mono (by simp))⟩
theorem Lst.none_ {w : World} {bk off : Nat} {e : TypeId} {MK : World -> Value -> Nat -> Int -> (Nat -> Prop) -> Prop} (c : w.cell? ⟨bk, off, none⟩ = some (.slice none 0 0)) : Lst w bk off e MK (.slice none 0 0) [] (fun _ => False) :=
 ⟨c, World.ownsRow_nil _ _ _ _, by simp [Value.ownBlock], by simp, by simp, by simp⟩
theorem BK.new {w : World} {bk : Nat} (a : At w bk [.slice none 0 0, .slice none 0 0, .slice none 0 0]) : BK w bk (fun j => j = bk) 0 0 0 :=
 ⟨_, _, _, [], [], [], fun _ => False, fun _ => False, fun _ => False, ⟨a.lt, a.f, Lst.none_ (a.c 0 _ rfl), Lst.none_ (a.c 1 _ rfl), Lst.none_ (a.c 2 _ rfl), by simp [blk, Value.ownBlock], by simp [blk, Value.ownBlock], by simp [blk, Value.ownBlock], rfl, by simp [blk, Value.ownBlock], by simp [blk, Value.ownBlock], by simp [blk, Value.ownBlock]⟩, rfl, rfl, rfl⟩
theorem pg_new {cI cO cJ : Int} (hv : cfgB cI cO cJ) : PG cI cO cJ (sh1 0 cI cO cJ) (sh1 1 cI cO cJ) rs1 rs1 := by
 obtain ⟨⟨a1, a2⟩, ⟨a3, a4⟩, ⟨a5, a6⟩⟩ := hv
 have c0 := restart_cfg (Sh.init 0 cI cO cJ)
 have c1 := restart_cfg (Sh.init 1 cI cO cJ)
 exact ⟨init_good 0 cI cO cJ (by decide) a1 a2 a3 a4 a6, init_good 1 cI cO cJ (by decide) a1 a2 a3 a4 a6, c0.1, c1.1, c0.2, c1.2⟩
theorem li_new {W0 W1 W2 w' : World} {B bp b0 b1 bq q0 q1 bk bw : Nat} {cI cO cJ : Int} {F0 F1 : Nat -> Prop} (hv : cfgB cI cO cJ) (pp : PP W1 bp b0 b1 (sh1 0 cI cO cJ) (sh1 1 cI cO cJ) F0 F1) (hb : B <= W0.heap.size) (x1 : W0.heap.size <= bp) (x2 : ∀ j, F0 j -> W0.heap.size <= j) (x3 : ∀ j, F1 j -> W0.heap.size <= j) (z1 : W0.heap.size <= W1.heap.size)
  (ry : RY W2 bq q0 q1 cI cO cJ rs1 rs1) (y1 : W1.heap.size <= bq) (y2 : W1.heap.size <= q0) (y3 : W1.heap.size <= q1) (g2 : W1.grownBy W2 none) (g3 : W2.grownBy w' none) (hk : W2.heap.size <= bk) (hw : W2.heap.size <= bw) (hn : bk ≠ bw)
  (ak : At w' bk [.slice none 0 0, .slice none 0 0, .slice none 0 0]) (aw : At w' bw (LC bp bq bk)) : LI w' B bw 0 := by
 have z2 := g2.size
 have p1 : ∀ j, (j = bp ∨ F0 j ∨ F1 j) -> j < W1.heap.size /\ W0.heap.size <= j := fun j hj => by
  rcases hj with rfl | hj | hj
  ·exact ⟨pp.at_.lt, x1⟩
  ·exact ⟨pp.l0 j hj, x2 j hj⟩
  ·exact ⟨pp.l1 j hj, x3 j hj⟩
 have q1' : ∀ j, (j = bq ∨ j = q0 ∨ j = q1) -> j < W2.heap.size /\ W1.heap.size <= j := fun j hj => by
  rcases hj with rfl | rfl | rfl
  ·exact ⟨ry.at_.lt, y1⟩
  ·exact ⟨ry.a0.lt, y2⟩
  ·exact ⟨ry.a1.lt, y3⟩
 refine ⟨bp, b0, b1, bq, q0, q1, bk, cI, cO, cJ, _, _, _, _, F0, F1, fun j => j = bk, ⟨aw, (pp.only (Only.grown (g2.trans g3)) (by simp)), ry.grown g3, ⟨0, 0, 0, Nat.le_refl _, Nat.le_refl _, Nat.le_refl _, BK.new ak⟩, ?_, fun j hj => ?_, fun j hj => ?_, fun e => hn e.symm, by omega, fun j hj => ?_, fun j hj => ?_, ?_⟩, pg_new hv⟩
 ·rintro j rfl; exact ak.lt
 ·have := p1 j hj
  exact ⟨by omega, by omega, fun e => by have := q1' j e; omega⟩
 ·have := q1' j hj
  exact ⟨by omega, by omega⟩
 ·have := p1 j hj; omega
 ·have := q1' j hj; omega
 ·rintro j rfl; omega
theorem made_no (cI cO cJ : Int) (w : World) (hv : ¬ cfgB cI cO cJ) :
  Calls Tryz.prog 21 #[.agg #[.int .i64 cI, .int .i64 cO, .int .i64 cJ]] w fun e w' => e = .returned (.tuple #[.pointer none, .bool true]) /\ w.grownBy w' none := by
 have G0 := Hid.mk' (World.grownBy_alloc w (.cells #[.int .i64 cI, .int .i64 cO, .int .i64 cJ] 23) none)
 have A0 := Hid.mk' (At.new w [.int .i64 cI, .int .i64 cO, .int .i64 cJ] 23)
 have P1 := Hid.mk' fun W => pNew_no cI cO cJ W hv
 have R1 := Hid.mk' fun W => rNew_no cI cO cJ W hv
 clear hv
 go_enter Tryz.func21, Tryz.ntmps21
 go_wp2_with fail
 refine Calls.mono (P1.out _) ?_
 rintro e w1 ⟨rfl, g1⟩
 have a1 := A0.out.grown g1
 have c0 := a1.c 0 _ rfl
 have c1 := a1.c 1 _ rfl
 have c2 := a1.c 2 _ rfl
 have G1 := Hid.mk' (G0.out.trans g1)
 clear g1 a1
 go_wp2_with fail
 refine Calls.mono (R1.out _) ?_
 rintro e w2 ⟨rfl, g2⟩
 have G2 := Hid.mk' (G1.out.trans g2)
 clear g2
 go_wp2
 go_ret2
 exact ⟨rfl, G2.out⟩
theorem made_yes (cI cO cJ : Int) (w : World) (hv : cfgB cI cO cJ) :
  Calls Tryz.prog 21 #[.agg #[.int .i64 cI, .int .i64 cO, .int .i64 cJ]] w fun e w' => ∃ bw, e = .returned (.tuple #[.pointer (some ⟨bw, 0, none⟩), .bool true]) /\ LI w' w.heap.size bw 0 /\ w.grownBy w' none := by
 have G0 := Hid.mk' (World.grownBy_alloc w (.cells #[.int .i64 cI, .int .i64 cO, .int .i64 cJ] 23) none)
 have A0 := Hid.mk' (At.new w [.int .i64 cI, .int .i64 cO, .int .i64 cJ] 23)
 have P1 := Hid.mk' fun W => pNew_yes cI cO cJ W hv
 have R1 := Hid.mk' fun W => rNew_yes cI cO cJ W hv
 have HV := Hid.mk' hv
 clear hv
 go_enter Tryz.func21, Tryz.ntmps21
 go_wp2_with fail
 refine Calls.mono (P1.out _) ?_
 rintro e w1 ⟨bp, b0, b1, F0, F1, rfl, pp, x1, x2, x3, g1⟩
 have a1 := A0.out.grown g1
 have c0 := a1.c 0 _ rfl
 have c1 := a1.c 1 _ rfl
 have c2 := a1.c 2 _ rfl
 have z1 := g1.size
 have G1 := Hid.mk' (G0.out.trans g1)
 have PP1 := Hid.mk' pp
 have X1 := Hid.mk' x1
 have X2 := Hid.mk' x2
 have X3 := Hid.mk' x3
 have Z1 := Hid.mk' z1
 clear g1 a1 pp x1 x2 x3 z1
 go_wp2_with fail
 refine Calls.mono (R1.out _) ?_
 rintro e w2 ⟨bq, q0, q1, rfl, ry, y1, y2, y3, g2⟩
 have G2 := Hid.mk' g2
 have RY2 := Hid.mk' ry
 have Y1 := Hid.mk' y1
 have Y2 := Hid.mk' y2
 have Y3 := Hid.mk' y3
 clear g2 ry y1 y2 y3
 go_wp2
 go_ret2
 refine ⟨_, rfl, li_new (W0 := w.alloc (.cells #[.int .i64 cI, .int .i64 cO, .int .i64 cJ] 23)) HV.out PP1.out (by simp) X1.out X2.out X3.out Z1.out RY2.out Y1.out Y2.out Y3.out G2.out (grownBy_two w2 _ _) (Nat.le_refl _) (by simp) (by simp) ((At.new w2 [.slice none 0 0, .slice none 0 0, .slice none 0 0] 94).alloc _) ?_, (G1.out.trans G2.out).trans (grownBy_two w2 _ _)⟩
 simpa using At.new (w2.alloc (.cells #[.slice none 0 0, .slice none 0 0, .slice none 0 0] 94)) [.pointer (some ⟨bp, 0, none⟩), .pointer (some ⟨bq, 0, none⟩), .pointer (some ⟨w2.heap.size, 0, none⟩)] 64
theorem flat_at9 (as' : List Ac) (k j : Nat) (hk : k < as'.length) (hj : j < 9) : (as'.flatMap Ac.cells)[9 * k + j]? = as'[k].cells[j]? := by
 induction as' generalizing k with
 | nil => simp at hk
 | cons a t ih =>
  rw [List.flatMap_cons]
  cases k with
  | zero => rw [List.getElem?_append_left (by simp [Ac.cells]; omega)]; simp
  | succ k =>
   rw [List.getElem?_append_right (by simp [Ac.cells]; omega)]
   rw [show 9 * (k + 1) + j - a.cells.length = 9 * k + j by simp [Ac.cells]; omega]
   simpa using ih k (by simpa using hk)
def LiesA (w : World) (v : Value) (l : List Ac) : Prop := Lies w v l.length (l.flatMap Ac.cells)
theorem plays_no (cI cO cJ : Int) (v : Value) (w : World) (hv : ¬ cfgB cI cO cJ) :
  Calls Tryz.prog 9 #[.agg #[.int .i64 cI, .int .i64 cO, .int .i64 cJ], v, .int .i64 7] w fun e w' => e = .returned (.bool true) /\ Only w w' (fun j => w.heap.size <= j) := by
 have G0 := Hid.mk' (World.grownBy_alloc w (.cells #[.int .i64 cI, .int .i64 cO, .int .i64 cJ] 23) none)
 have M1 := Hid.mk' fun W => made_no cI cO cJ W hv
 clear hv
 go_enter Tryz.func9, Tryz.ntmps9
 go_wp2_with fail
 refine Calls.mono (M1.out _) ?_
 rintro e w1 ⟨rfl, g1⟩
 have G1 := Hid.mk' (G0.out.trans g1)
 clear g1
 go_wp2
 go_ret
 exact ⟨rfl, (Only.grown G1.out).mono (by simp)⟩
theorem plays_yes (cI cO cJ : Int) (v : Value) (l : List Ac) (w : World) (hv : cfgB cI cO cJ) (hl : LiesA w v l) (hn : l.length <= 1048576) (ok : ∀ a ∈ l, a.Ok) :
  Calls Tryz.prog 9 #[.agg #[.int .i64 cI, .int .i64 cO, .int .i64 cJ], v, .int .i64 7] w fun e w' => e = .returned (.bool true) /\ Only w w' (fun j => w.heap.size <= j) := by
 have hsf := run_store_float
 obtain ⟨a, c, rfl, hx⟩ := hl
 obtain ⟨n, hln⟩ : ∃ n, l.length = n := ⟨_, rfl⟩
 rw [hln] at hx hn ⊢
 have HX := Hid.mk' hx
 have HL := Hid.mk' hln
 have OK := Hid.mk' ok
 have G0 := Hid.mk' (World.grownBy_alloc w (.cells #[.int .i64 cI, .int .i64 cO, .int .i64 cJ] 23) none)
 have M1 := Hid.mk' fun W => made_yes cI cO cJ W hv
 clear hv hx hln ok
 go_enter Tryz.func9, Tryz.ntmps9
 go_wp2_with fail
 refine Calls.mono (M1.out _) ?_
 rintro e w1 ⟨bw, rfl, li, g1⟩
 have L1 := Hid.mk' li
 have O1 : Hid (Only w w1 (fun j => w.heap.size <= j)) := (Only.grown (G0.out.trans g1)).mono (by simp)
 have zB : Hid ((w.alloc (.cells #[.int .i64 cI, .int .i64 cO, .int .i64 cJ] 23)).heap.size = w.heap.size + 1) := by simp [Hid]
 rw [zB.out] at L1
 clear g1 li M1 zB
 go_wp2_with fail
 go_loopw [9] (fun f wr => ∃ k : Nat, k <= n /\ f = .int .i64 k /\ LI wr (w.heap.size + 1) bw (4 * k) /\ Only w wr (fun j => w.heap.size <= j)) (fun f _ => n - (intOf f).toNat)
 case atStart => exact ⟨0, by omega, rfl, L1.out, O1.out⟩
 case round =>
  clear L1 O1
  obtain ⟨k, hk, rfl, li, on⟩ := hrel
  have L1 := Hid.mk' li
  have O1 := Hid.mk' on
  clear li on
  by_cases hlt : k < n
  ·have hkl : k < l.length := by rw [HL.out]; exact hlt
   obtain ⟨g, off, rfl, hc⟩ := HX.out (by omega)
   obtain ⟨y, hi⟩ : ∃ y, l[k] = y := ⟨_, rfl⟩
   have hgl : g < w.heap.size := World.block_lt_of_cell? w _ (hc (9 * k) _ (by rw [show 9 * k = 9 * k + 0 by omega, flat_at9 l k 0 hkl (by omega)]; rfl))
   have d : ∀ j (hj : j < 9) u, y.cells[j]? = some u -> wr.cell? ⟨g, off + k * 9 + j, none⟩ = some u := fun j hj u hu => by
    have := hc (9 * k + j) u (by rw [flat_at9 l k j hkl hj, hi]; exact hu)
    rw [show off + (9 * k + j) = off + k * 9 + j by omega] at this
    exact O1.out.cell this (by simp; omega)
   have d0 := d 0 (by omega) _ rfl
   have d1 := d 1 (by omega) _ rfl
   have d2 := d 2 (by omega) _ rfl
   have d3 := d 3 (by omega) _ rfl
   have d4 := d 4 (by omega) _ rfl
   have d5 := d 5 (by omega) _ rfl
   have d6 := d 6 (by omega) _ rfl
   have d7 := d 7 (by omega) _ rfl
   have d8 := d 8 (by omega) _ rfl
   rw [Nat.add_zero] at d0
   have AO := Hid.mk' (OK.out y (by rw [<- hi]; exact List.getElem_mem hkl))
   have AC : Hid (∀ W, LI W (w.heap.size + 1) bw (4 * k) -> (y.K <= 7 ∨ 14 <= y.K) -> Calls Tryz.prog 22 #[.pointer (some ⟨bw, 0, none⟩), .agg #[.int .i64 y.K, .int .i64 y.sh, .int .i64 y.k, .int .i64 y.m, .int .i64 y.x, .int .i64 y.y, .float .f32 y.pl, .float .f32 y.sp, .string y.t]] W fun e w' => e = .returned (.bool true) /\ LI w' (w.heap.size + 1) bw (4 * k + 4) /\ Only W w' (fun j => w.heap.size + 1 <= j)) := Hid.mk' fun W hW hK => act_any _ _ _ y W hW (by omega) hK AO.out
   clear d hc hi AO
   obtain ⟨K, sh, yk, m, x, yy, pl, sp, t⟩ := y
   simp only at d0 d1 d2 d3 d4 d5 d6 d7 d8 AC
   have y0 : (0 : Int) <= (k : Int) := by omega
   have y1 : (k : Int) < (n : Int) := by omega
   by_cases h7 : 7 < K
   ·by_cases h14 : K < 14
    ·go_wp2
     exact ⟨⟨k + 1, by omega, rfl, (L1.out.grown (World.grownBy_alloc wr _ none)).mono (by omega), O1.out.trans ((Only.grown (World.grownBy_alloc wr _ none)).mono (by simp))⟩, by simp [intOf]; omega⟩
    ·go_wp2_with fail
     refine Calls.mono (AC.out _ (L1.out.grown (World.grownBy_alloc wr _ none)) (by omega)) ?_
     rintro e w2 ⟨rfl, l2, o2⟩
     obtain ⟨bk, c2, lk⟩ := l2.looks (by omega)
     have LK := Hid.mk' lk
     have L2 := Hid.mk' l2
     have O2 : Hid (Only w w2 (fun j => w.heap.size <= j)) := (O1.out.trans ((Only.grown (World.grownBy_alloc wr _ none)).mono (by simp))).trans (o2.mono (fun j _ e => .inl (by omega)))
     clear l2 o2 lk d0 d1 d2 d3 d4 d5 d6 d7 d8
     go_wp2_with fail
     refine Calls.mono LK.out ?_
     rintro e w3 ⟨rfl, g3⟩
     go_wp2
     exact ⟨⟨k + 1, by omega, rfl, by rw [show 4 * (k + 1) = 4 * k + 4 by omega]; exact L2.out.grown g3, O2.out.trans ((Only.grown g3).mono (by simp))⟩, by simp [intOf]; omega⟩
   ·go_wp2_with fail
    refine Calls.mono (AC.out _ (L1.out.grown (World.grownBy_alloc wr _ none)) (by omega)) ?_
    rintro e w2 ⟨rfl, l2, o2⟩
    obtain ⟨bk, c2, lk⟩ := l2.looks (by omega)
    have LK := Hid.mk' lk
    have L2 := Hid.mk' l2
    have O2 : Hid (Only w w2 (fun j => w.heap.size <= j)) := (O1.out.trans ((Only.grown (World.grownBy_alloc wr _ none)).mono (by simp))).trans (o2.mono (fun j _ e => .inl (by omega)))
    clear l2 o2 lk d0 d1 d2 d3 d4 d5 d6 d7 d8
    go_wp2_with fail
    refine Calls.mono LK.out ?_
    rintro e w3 ⟨rfl, g3⟩
    go_wp2
    exact ⟨⟨k + 1, by omega, rfl, by rw [show 4 * (k + 1) = 4 * k + 4 by omega]; exact L2.out.grown g3, O2.out.trans ((Only.grown g3).mono (by simp))⟩, by simp [intOf]; omega⟩
  ·obtain rfl : k = n := by omega
   have y1 : ¬ (k : Int) < (k : Int) := by omega
   go_wp2_with fail
   refine Calls.mono (last_any (w.heap.size + 1) bw _ _ L1.out (by omega)) ?_
   rintro e w2 ⟨rfl, o2⟩
   go_wp2
   go_ret
   exact ⟨rfl, O1.out.trans (o2.mono (fun j _ e => .inl (by omega)))⟩
theorem plays_any (cI cO cJ : Int) (v : Value) (l : List Ac) (w : World) (hl : LiesA w v l) (hn : l.length <= 1048576) (ok : ∀ a ∈ l, a.Ok) :
  Calls Tryz.prog 9 #[.agg #[.int .i64 cI, .int .i64 cO, .int .i64 cJ], v, .int .i64 7] w fun e w' => e = .returned (.bool true) /\ Only w w' (fun j => w.heap.size <= j) := by
 by_cases hv : cfgB cI cO cJ
 ·exact plays_yes cI cO cJ v l w hv hl hn ok
 ·exact plays_no cI cO cJ v w hv
theorem LiesA.grown {w w' : World} {v : Value} {l : List Ac} (h : LiesA w v l) (g : w.grownBy w' none) : LiesA w' v l := by
 obtain ⟨a, c, e, hx⟩ := h
 refine ⟨a, c, e, fun h0 => ?_⟩
 obtain ⟨b, off, e1, hc⟩ := hx h0
 exact ⟨b, off, e1, fun j u hu => g.cell (hc j u hu) (by simp)⟩
theorem shards_any (cI cO cJ : Int) (v : Value) (l : List Ac) (w : World) (hl : LiesA w v l) (hn : l.length <= 1048576) (ok : ∀ a ∈ l, a.Ok) :
  Calls Tryz.prog 3 #[.agg #[.int .i64 cI, .int .i64 cO, .int .i64 cJ], v] w fun e w' => e = .returned (.bool true) /\ Only w w' (fun j => w.heap.size <= j) := by
 have g0 := World.grownBy_alloc w (.cells #[.int .i64 cI, .int .i64 cO, .int .i64 cJ] 23) none
 have PL := Hid.mk' (plays_any cI cO cJ v l _ (hl.grown g0) hn ok)
 have G0 := Hid.mk' g0
 clear hl g0 ok
 go_enter Tryz.func3, Tryz.ntmps3
 go_wp2_with fail
 refine Calls.mono PL.out ?_
 rintro e w1 ⟨rfl, o1⟩
 go_wp2
 go_ret
 exact ⟨rfl, ((Only.grown G0.out).mono (by simp)).trans (o1.mono (fun j _ e => .inl (by simp at e; omega)))⟩
end Go.Proofs.YtammnaafdhhjaaaGreat
