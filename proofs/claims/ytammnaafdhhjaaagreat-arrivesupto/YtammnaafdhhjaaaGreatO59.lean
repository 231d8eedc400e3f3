import Derived.BigQuiet
import Derived.Test.YtammnaafdhhjaaaGreatRows
import Derived.Test.YtammnaafdhhjaaaGreatJO40
set_option maxHeartbeats 16000000
set_option maxRecDepth 100000
namespace Go.Proofs.YtammnaafdhhjaaaGreat
open Go.RowKit
theorem KQ.fl32 {w wr : World} {bk bp : Nat} {k : Kp} {p : Pr} (h : KQ w bk bp wr k p) : p.f0.length <= 32 /\ p.f1.length <= 32 := by
 obtain ⟨_, _, hx, _⟩ := h
 obtain ⟨_, _, _, _, _, _, px, _⟩ := hx.pw
 exact ⟨px.fx.l0, px.fx.l1⟩
theorem rnds_cI {k : Kp} {p : Pr} {G : Int} (h : Bd k G p) : ∀ m : Nat, G + m < 65534 -> ((rnds m p).sh 0).cI = p.s0.cI /\ ((rnds m p).sh 1).cI = p.s1.cI
 | 0, _ => ⟨rfl, rfl⟩
 | m + 1, hm => by
  have r := rnds_cI h m (by omega)
  have b := rnds_bd h m (by omega)
  obtain ⟨a1, _, _, _, a5⟩ := half0 b (by omega)
  have z0 : is01 0 := .inl rfl
  have z1 : is01 1 := .inr rfl
  have g0 : ((rnds m p).sh 0).ms.g < 65535 := Int.lt_of_le_of_lt b.g0 (by omega)
  have g1 : ((hr 0 (rnds m p)).sh 1).ms.g < 65535 := Int.lt_of_le_of_lt a5 (by omega)
  have e0 := (hr_sh a1 z1 g1 z0).cI.trans (hr_sh b.ai z0 g0 z0).cI
  have e1 := (hr_sh a1 z1 g1 z1).cI.trans (hr_sh b.ai z0 g0 z1).cI
  exact ⟨e0.trans r.1, e1.trans r.2⟩
structure Cf (cI cJ : Int) (p : Pr) : Prop where
 i0 : p.s0.cI = cI
 i1 : p.s1.cI = cI
 j0 : p.s0.cJ = cJ
 j1 : p.s1.cJ = cJ
theorem Cf.keep {cI cJ : Int} {p q : Pr} (h : Cf cI cJ p) (k : PKeep p q) : Cf cI cJ q := ⟨k.c0.2.1.trans h.i0, k.c1.2.1.trans h.i1, k.c0.2.2.2.trans h.j0, k.c1.2.2.2.trans h.j1⟩
structure AO (k : Kp) (cI cJ : Int) (p : Pr) : Prop where
 oi : OI k p
 pe : PE p
 cf : Cf cI cJ p
section
variable {w wr : World} {bk bp : Nat} {k : Kp} {p : Pr} {cI cJ x : Int}
theorem KQ.act2 (h : KQ w bk bp wr k p) (ao : AO k cI cJ p) (a : Al) (oka : a.Ok) : Calls Tryz.prog 12 #[.pointer (some ⟨bk, 0, none⟩), acV a.K a.sh a.k a.m a.x a.y a.pl a.sp a.t] wr fun e w' => ∃ k' p', e = .returned (.bool true) /\ KQ w bk bp w' k' p' /\ AO k' cI cJ p' := by
 obtain ⟨vk, D, hx, gd, hF, ho⟩ := h
 have oi := ao.oi
 have A := oi.act (pick_is01 a.sh) a.K a.k a.m a.pl a.sp oka.m oka.pl oka.sp
 have K := kAct_keep (k := k) gd oi.ok a.K (pickN a.sh 2) a.k a.m a.pl a.sp oka.m oka.pl oka.sp
 have E := kAct_e (k := k) gd ao.pe a.K (pickN a.sh 2) a.k a.m a.pl a.sp oka.pl oka.sp
 have ln := oi.len
 refine (kact_any bk bp vk D k p a.K a.sh a.k a.m a.x a.y a.pl a.sp a.t wr hx gd oka.sh oka.k oka.pl oka.sp (by omega) oi.ok).mono ?_
 rintro e w' ⟨rfl, n⟩
 rw [A.1]
 exact ⟨_, _, rfl, KQ.kn A.2.gd hF ho n, A.2, E, ao.cf.keep K.1⟩
def mend (x : Int) (p : Pr) : Pr := ((p.restart x).2.brk x 0 0).2
theorem mend_is (hx : is01 x) (ao : AO k cI cJ p) : AO k cI cJ (mend x p) /\ Fr ((mend x p).sh x) /\ (mend x p).sh (1 - x) = p.sh (1 - x) := by
 have gd := ao.oi.gd
 have k1 := restart_keep gd x
 have o1 := ao.oi.quiet (restart_q gd ao.oi.w x) k1.gd
 have k2 := brk_keep k1.gd x 0 0 (by decide) (by unfold kpB; decide)
 have o2 := o1.quiet (brk_q o1.gd o1.w x 0 0) k2.gd
 have up : ((p.restart x).2.sh x).up = true /\ (p.restart x).2.sh (1 - x) = p.sh (1 - x) := by
  unfold Pr.restart
  split
  ·exact ⟨by dsimp only; rw [setSh_sh hx]; rfl, (set_o hx _).1⟩
  ·rename_i c
   refine ⟨?_, rfl⟩
   cases hu : (p.sh x).up
   ·exact absurd ⟨hx, hu⟩ c
   ·rfl
 have eb : mend x p = (p.restart x).2.setSh x (((p.restart x).2.sh x).on { ((p.restart x).2.sh x).dk with un := 0, kp := 0 }) := by
  unfold mend Pr.brk
  rw [if_pos ⟨hx, Int.le_refl _⟩]
 refine ⟨⟨o2, brk_e o1.gd (restart_e gd ao.pe x) x 0 0, (ao.cf.keep k1).keep k2⟩, ?_, ?_⟩
 ·rw [eb, setSh_sh hx]
  exact ⟨up.1, rfl⟩
 ·rw [eb, (set_o hx _).1, up.2]
theorem mended (ao : AO k cI cJ p) (hJ : 400 <= cJ) (l0 : (mend 1 (mend 0 p)).f0.length <= 32) (l1 : (mend 1 (mend 0 p)).f1.length <= 32) (g0 : ((mend 0 p).sh 0).ms.g <= 65000) (g1 : ((mend 1 (mend 0 p)).sh 1).ms.g <= 65000) : Bd k 65000 (mend 1 (mend 0 p)) := by
 have m0 := mend_is (x := 0) (.inl rfl) ao
 have m1 := mend_is (x := 1) (.inr rfl) m0.1
 have e0 : (mend 1 (mend 0 p)).sh 0 = (mend 0 p).sh 0 := m1.2.2
 refine ⟨⟨m1.1.oi, m1.1.pe, ?_, m1.2.1, by rw [m1.1.cf.j0]; exact hJ, by rw [m1.1.cf.j1]; exact hJ⟩, l0, l1, by rw [e0]; exact g0, g1⟩
 have : Fr ((mend 1 (mend 0 p)).sh 0) := by rw [e0]; exact m0.2.1
 exact this
end
theorem arrives_any (cI cO cJ : Int) (v : Value) (l : List Al) (w : World) (hI : i64B cI) (hO : i64B cO) (hJ : i64B cJ) (hl : LiesL w v l) (hn : l.length <= 1048576) (ok : ∀ a ∈ l, a.Ok) :
  Calls Tryz.prog 8 #[.agg #[.int .i64 cI, .int .i64 cO, .int .i64 cJ], v] w fun e w' => e = .returned (.bool true) /\ Only w w' (fun j => w.heap.size <= j) := by
 have hsf := run_store_float
 obtain ⟨a, c, rfl, hx⟩ := hl
 obtain ⟨n, hln⟩ : ∃ n, l.length = n := ⟨_, rfl⟩
 rw [hln] at hx hn ⊢
 have HX := Hid.mk' hx
 have HL := Hid.mk' hln
 have OK := Hid.mk' ok
 have G0 := Hid.mk' (World.grownBy_alloc w (.cells #[.int .i64 cI, .int .i64 cO, .int .i64 cJ] 23) none)
 have A0 := Hid.mk' (At.new w [.int .i64 cI, .int .i64 cO, .int .i64 cJ] 23)
 have S1 := Hid.mk' fun W => settings_any cI cO cJ W hI hO hJ
 have K1 := Hid.mk' fun W => kept_any (setI cI) (setO cO) (setJ cJ) W (set_cfg cI cO cJ).1 (set_cfg cI cO cJ).2
 have O1 : Hid (AO kpK (setI cI) (setJ cJ) (prK (setI cI) (setO cO) (setJ cJ)) /\ 400 <= setJ cJ) := Hid.mk' ⟨⟨kept_oi (setI cI) (setO cO) (setJ cJ) (set_cfg cI cO cJ).1 (set_cfg cI cO cJ).2, kept_e (setI cI) (setO cO) (setJ cJ) (set_cfg cI cO cJ).1 (set_cfg cI cO cJ).2, ⟨rfl, rfl, rfl, rfl⟩⟩, (set_cfg cI cO cJ).2⟩
 clear hx hln ok hI hO hJ
 generalize setI cI = sI at S1 K1 O1
 generalize setO cO = sO at S1 K1 O1
 generalize setJ cJ = sJ at S1 K1 O1
 go_enter Tryz.func8, Tryz.ntmps8
 go_wp2_with fail
 refine Calls.mono (S1.out _) ?_
 rintro e w1 ⟨rfl, g1⟩
 have G1 := Hid.mk' (G0.out.trans g1)
 have A1 := Hid.mk' (A0.out.grown g1)
 have x0 := A1.out.c 0 _ rfl
 have x1 := A1.out.c 1 _ rfl
 have x2 := A1.out.c 2 _ rfl
 have xf := A1.out.f
 have xl := A1.out.lt
 have P : Hid (At (((w1.setCell ⟨w.heap.size, 0, none⟩ (.int .i64 sI)).setCell ⟨w.heap.size, 1, none⟩ (.int .i64 sO)).setCell ⟨w.heap.size, 2, none⟩ (.int .i64 sJ)) w.heap.size [.int .i64 sI, .int .i64 sO, .int .i64 sJ] /\ w.grownBy (((w1.setCell ⟨w.heap.size, 0, none⟩ (.int .i64 sI)).setCell ⟨w.heap.size, 1, none⟩ (.int .i64 sO)).setCell ⟨w.heap.size, 2, none⟩ (.int .i64 sJ)) none) := by
  have o1 : Only w w1 (fun j => w.heap.size <= j) := (Only.grown G1.out).mono (by simp)
  have o2 := (o1.trans ((Only.set w1 w.heap.size 0 (.int .i64 sI)).mono (fun j _ e => .inl (by omega)))).trans ((Only.set _ w.heap.size 1 (.int .i64 sO)).mono (fun j _ e => .inl (by omega)))
  have o3 := o2.trans ((Only.set _ w.heap.size 2 (.int .i64 sJ)).mono (fun j _ e => .inl (by omega)))
  exact Hid.mk' ⟨((A1.out.put 0 (.int .i64 sI) (by simp)).put 1 (.int .i64 sO) (by simp)).put 2 (.int .i64 sJ) (by simp), o3.fresh (fun k hk e => by omega)⟩
 clear g1
 go_wp2_with fail
 generalize (((w1.setCell ⟨w.heap.size, 0, none⟩ (.int .i64 sI)).setCell ⟨w.heap.size, 1, none⟩ (.int .i64 sO)).setCell ⟨w.heap.size, 2, none⟩ (.int .i64 sJ)) = W at P ⊢
 clear x0 x1 x2 xf xl
 refine Calls.mono (K1.out _) ?_
 rintro e w2 ⟨bk, bp, rfl, kq⟩
 have P1 := Hid.mk' P.out
 have LW : Hid (w.heap.size < W.heap.size) := Hid.mk' P.out.1.lt
 have OW : Hid (∀ wr, Only W wr (fun j => W.heap.size <= j) -> Only w wr (fun j => w.heap.size <= j)) := Hid.mk' fun wr o => ((Only.grown P.out.2).mono (by simp)).trans (o.mono (fun j _ hj => .inl (by have := P.out.2.size; omega)))
 have L2 : Hid (∃ k p, KQ W bk bp w2 k p /\ AO k sI sJ p) := Hid.mk' ⟨_, _, kq, O1.out.1⟩
 have J4 := Hid.mk' O1.out.2
 clear kq K1 S1 O1
 go_wp2_with fail
 go_loopw [6] (fun f wr => ∃ k : Nat, k <= n /\ f = .int .i64 k /\ ∃ kp p, KQ W bk bp wr kp p /\ AO kp sI sJ p) (fun f _ => n - (intOf f).toNat)
 case atStart => exact ⟨0, by omega, rfl, L2.out⟩
 case round =>
  clear L2
  obtain ⟨k, hk, rfl, kp, p, kq, oi⟩ := hrel
  have Q1 := Hid.mk' kq
  have I1 := Hid.mk' oi
  clear kq oi
  by_cases hlt : k < n
  ·have hkl : k < l.length := by rw [HL.out]; exact hlt
   obtain ⟨g, off, rfl, hc⟩ := HX.out (by omega)
   obtain ⟨y, hi⟩ : ∃ y, l[k] = y := ⟨_, rfl⟩
   have hgl : g < w.heap.size := World.block_lt_of_cell? w _ (hc (9 * k) _ (by rw [show 9 * k = 9 * k + 0 by omega, flat_atL l k 0 hkl (by omega)]; rfl))
   have D : ∀ j (hj : j < 9) u, y.cells[j]? = some u -> wr.cell? ⟨g, off + k * 9 + j, none⟩ = some u := fun j hj u hu => by
    have := hc (9 * k + j) u (by rw [flat_atL l k j hkl hj, hi]; exact hu)
    rw [show off + (9 * k + j) = off + k * 9 + j by omega] at this
    exact (OW.out _ Q1.out.only).cell this (by simp; omega)
   have AC := Hid.mk' (Q1.out.act2 I1.out y (OK.out y (by rw [<- hi]; exact List.getElem_mem hkl)))
   have d0 := D 0 (by omega) _ rfl
   have d1 := D 1 (by omega) _ rfl
   have d2 := D 2 (by omega) _ rfl
   have d3 := D 3 (by omega) _ rfl
   have d4 := D 4 (by omega) _ rfl
   have d5 := D 5 (by omega) _ rfl
   have d6 := D 6 (by omega) _ rfl
   have d7 := D 7 (by omega) _ rfl
   have d8 := D 8 (by omega) _ rfl
   rw [Nat.add_zero] at d0
   clear hc hi D
   obtain ⟨K, sh, yk, m, x, yy, pl, sp, t⟩ := y
   simp only at d0 d1 d2 d3 d4 d5 d6 d7 d8 AC
   have y0 : (0 : Int) <= (k : Int) := by omega
   have y1 : (k : Int) < (n : Int) := by omega
   go_wp2_with fail
   refine Calls.mono AC.out ?_
   rintro e w3 ⟨k3, p3, rfl, q3, i3⟩
   have Q4 := Hid.mk' (And.intro q3 i3)
   clear q3 i3 AC d0 d1 d2 d3 d4 d5 d6 d7 d8
   go_wp2
   exact ⟨⟨k + 1, by omega, by go_num, k3, p3, Q4.out⟩, by simp [intOf]; omega⟩
  ·obtain rfl : k = n := by omega
   have y1 : ¬ (k : Int) < (k : Int) := by omega
   have M0 := Hid.mk' (mend_is (x := 0) (.inl rfl) I1.out)
   have M1 := Hid.mk' (mend_is (x := 1) (.inr rfl) M0.out.1)
   have c0 := Q1.out.c0
   have lt0 := Q1.out.lt
   have C0 := Hid.mk' (Q1.out.restart 0)
   go_wp2_with fail
   refine wp_loop_rounds 3 ?_
   rw [rounds_succ]
   go_wp2_with fail
   refine Calls.mono C0.out ?_
   rintro e wa0 ⟨rfl, qa⟩
   have ca := qa.c0
   have lta := qa.lt
   have C1 := Hid.mk' (qa.brk 0 0 0 (by decide) ⟨by decide, by decide⟩)
   clear qa c0 C0
   go_wp2_with fail
   refine Calls.mono C1.out ?_
   rintro e wb0 ⟨rfl, qb⟩
   have QB0 : Hid (KQ W bk bp wb0 kp (mend 0 p)) := Hid.mk' qb
   have cb := qb.c0
   have ltb := qb.lt
   have C2 := Hid.mk' (QB0.out.marks 0)
   have U0 : Hid ((mend 0 p).upE 0 = 0) := Hid.mk' (upE_fr (.inl rfl) M0.out.2.1)
   have E0 : Hid (((mend 0 p).marks 0).g = ((mend 0 p).sh 0).ms.g) := Hid.mk' (by unfold Pr.marks; rw [if_pos U0.out])
   rw [U0.out] at C2
   unfold mkV at C2
   obtain ⟨N0, hN⟩ : ∃ N, (mend 0 p).marks 0 = N := ⟨_, rfl⟩
   rw [hN] at C2
   rw [hN] at E0
   clear qb ca C1 hN
   go_wp2_with fail
   refine Calls.mono C2.out ?_
   rintro e wc0 ⟨rfl, gc⟩
   have GC := Hid.mk' (gc.trans (World.grownBy_alloc wc0 (.cells #[.int .i64 N0.g, .int .i64 N0.m, .int .i64 N0.s, .int .i64 N0.a, .int .i64 N0.n] 44) none))
   have QC0 := Hid.mk' (QB0.out.grown GC.out)
   have cc0 := QC0.out.c0
   have ltc := QC0.out.lt
   clear gc cb C2
   by_cases gr0 : 65000 < N0.g
   ·have tg : decide (65000 < N0.g) = true := decide_eq_true gr0
    have CR := Hid.mk' (QC0.out.right M0.out.1.oi)
    go_wp2_with fail
    refine Calls.mono CR.out ?_
    rintro e wd ⟨kd, rfl, qd, _⟩
    have OD := Hid.mk' (OW.out _ qd.only)
    clear qd CR
    go_wp2
    go_ret
    exact ⟨rfl, OD.out⟩
   have tg0 : decide (65000 < N0.g) = false := decide_eq_false gr0
   have C0 := Hid.mk' (QC0.out.restart 1)
   go_wp2_with fail
   rw [rounds_succ]
   go_wp2_with fail
   refine Calls.mono C0.out ?_
   rintro e wa1 ⟨rfl, qa⟩
   have ca := qa.c0
   have lta := qa.lt
   have C1 := Hid.mk' (qa.brk 1 0 0 (by decide) ⟨by decide, by decide⟩)
   clear qa cc0 C0
   go_wp2_with fail
   refine Calls.mono C1.out ?_
   rintro e wb1 ⟨rfl, qb⟩
   have QB1 : Hid (KQ W bk bp wb1 kp (mend 1 (mend 0 p))) := Hid.mk' qb
   have cb := qb.c0
   have ltb := qb.lt
   have C2 := Hid.mk' (QB1.out.marks 1)
   have U1 : Hid ((mend 1 (mend 0 p)).upE 1 = 0) := Hid.mk' (upE_fr (.inr rfl) M1.out.2.1)
   have E1 : Hid (((mend 1 (mend 0 p)).marks 1).g = ((mend 1 (mend 0 p)).sh 1).ms.g) := Hid.mk' (by unfold Pr.marks; rw [if_pos U1.out])
   rw [U1.out] at C2
   unfold mkV at C2
   obtain ⟨N1, hN⟩ : ∃ N, (mend 1 (mend 0 p)).marks 1 = N := ⟨_, rfl⟩
   rw [hN] at C2
   rw [hN] at E1
   clear qb ca C1 hN
   go_wp2_with fail
   refine Calls.mono C2.out ?_
   rintro e wc1 ⟨rfl, gc⟩
   have GC := Hid.mk' (gc.trans (World.grownBy_alloc wc1 (.cells #[.int .i64 N1.g, .int .i64 N1.m, .int .i64 N1.s, .int .i64 N1.a, .int .i64 N1.n] 44) none))
   have QC1 := Hid.mk' (QB1.out.grown GC.out)
   have cc1 := QC1.out.c0
   have ltc := QC1.out.lt
   clear gc cb C2
   by_cases gr1 : 65000 < N1.g
   ·have tg : decide (65000 < N1.g) = true := decide_eq_true gr1
    have CR := Hid.mk' (QC1.out.right M1.out.1.oi)
    go_wp2_with fail
    refine Calls.mono CR.out ?_
    rintro e wd ⟨kd, rfl, qd, _⟩
    have OD := Hid.mk' (OW.out _ qd.only)
    clear qd CR
    go_wp2
    go_ret
    exact ⟨rfl, OD.out⟩
   have tg1 : decide (65000 < N1.g) = false := decide_eq_false gr1
   have FL := QC1.out.fl32
   have BD := Hid.mk' (mended I1.out J4.out FL.1 FL.2 (by rw [<- E0.out]; omega) (by rw [<- E1.out]; omega))
   have CF0 : Hid ((mend 1 (mend 0 p)).s0.cI = sI /\ (mend 1 (mend 0 p)).s1.cI = sI) := Hid.mk' ⟨M1.out.1.cf.i0, M1.out.1.cf.i1⟩
   generalize mend 1 (mend 0 p) = P0 at QC1 BD CF0
   clear FL QB0 QB1 QC0 M0 M1 I1 Q1 U0 U1 E0 E1
   go_wp2_with fail
   rw [rounds_succ]
   go_wp2_with fail
   go_loopw [10] (fun f wr => ∃ m : Nat, m <= 40 /\ f = .int .i64 m /\ KQ W bk bp wr kp (rnds m P0)) (fun f _ => 40 - (intOf f).toNat)
   case atStart => exact ⟨0, by omega, rfl, QC1.out⟩
   case round =>
    clear QC1
    obtain ⟨m, hm, rfl, kq⟩ := hrel
    have Q2 := Hid.mk' kq
    clear kq
    by_cases hlt : m < 40
    ·have y2 : (m : Int) < 40 := by omega
     have RS : Hid (rnds (m + 1) P0 = hr 1 (hr 0 (rnds m P0))) := Hid.mk' (by rfl)
     generalize rnds m P0 = P at Q2 RS
     have c3 := Q2.out.c0
     have lt3 := Q2.out.lt
     have C3 := Hid.mk' (Q2.out.snap 0)
     go_wp2_with fail
     refine wp_loop_rounds 3 ?_
     rw [rounds_succ]
     go_wp2_with fail
     refine Calls.mono C3.out ?_
     rintro e ws0 ⟨rfl, q3⟩
     have c4 := q3.c0
     have lt4 := q3.lt
     have C4 := Hid.mk' (q3.send 0)
     clear q3 c3 C3
     go_wp2_with fail
     refine Calls.mono C4.out ?_
     rintro e wt0 ⟨rfl, q4⟩
     have Q4 := Hid.mk' q4
     clear q4 c4 C4
     go_wp2_with fail
     go_loopw [12] (fun f wr => ∃ t : Nat, t <= 32 /\ f = .int .i64 t /\ KQ W bk bp wr kp (dv 1 t ((P.snap 0).2.send 0).2)) (fun f _ => 32 - (intOf f).toNat)
     case atStart => exact ⟨0, by omega, rfl, Q4.out⟩
     case round =>
      clear Q4
      obtain ⟨t, ht, rfl, kt⟩ := hrel
      have QT := Hid.mk' kt
      clear kt
      by_cases htl : t < 32
      ·have y3 : (t : Int) < 32 := by omega
       have c5 := QT.out.c0
       have lt5 := QT.out.lt
       have C5 := Hid.mk' (QT.out.deliver 1 0)
       go_wp2_with fail
       refine Calls.mono C5.out ?_
       rintro e wv ⟨rfl, q5⟩
       have Q5 : Hid (KQ W bk bp wv kp (dv 1 (t + 1) ((P.snap 0).2.send 0).2)) := Hid.mk' (by rw [dv_last]; exact q5)
       clear q5 C5
       go_wp2
       exact ⟨⟨t + 1, by omega, by go_num, Q5.out⟩, by simp [intOf]; omega⟩
      ·obtain rfl : t = 32 := by omega
       have EH : Hid (hr 0 P = dv 1 32 ((P.snap 0).2.send 0).2) := Hid.mk' (by unfold hr; rw [o10])
       rw [<- EH.out] at QT
       obtain ⟨P2, hP2⟩ : ∃ P2, hr 0 P = P2 := ⟨_, rfl⟩
       rw [hP2] at QT RS
       clear hP2 EH
       have c3 := QT.out.c0
       have lt3 := QT.out.lt
       have C3 := Hid.mk' (QT.out.snap 1)
       go_wp2_with fail
       rw [rounds_succ]
       go_wp2_with fail
       refine Calls.mono C3.out ?_
       rintro e ws1 ⟨rfl, q3⟩
       have c4 := q3.c0
       have lt4 := q3.lt
       have C4 := Hid.mk' (q3.send 1)
       clear q3 c3 C3
       go_wp2_with fail
       refine Calls.mono C4.out ?_
       rintro e wt1 ⟨rfl, q4⟩
       have Q4 := Hid.mk' q4
       clear q4 c4 C4
       go_wp2_with fail
       go_loopw [12] (fun f wr => ∃ t : Nat, t <= 32 /\ f = .int .i64 t /\ KQ W bk bp wr kp (dv 0 t ((P2.snap 1).2.send 1).2)) (fun f _ => 32 - (intOf f).toNat)
       case atStart => exact ⟨0, by omega, rfl, Q4.out⟩
       case round =>
        clear Q4
        obtain ⟨t, ht, rfl, kt⟩ := hrel
        have QT := Hid.mk' kt
        clear kt
        by_cases htl : t < 32
        ·have y3 : (t : Int) < 32 := by omega
         have c5 := QT.out.c0
         have lt5 := QT.out.lt
         have C5 := Hid.mk' (QT.out.deliver 0 0)
         go_wp2_with fail
         refine Calls.mono C5.out ?_
         rintro e wv ⟨rfl, q5⟩
         have Q5 : Hid (KQ W bk bp wv kp (dv 0 (t + 1) ((P2.snap 1).2.send 1).2)) := Hid.mk' (by rw [dv_last]; exact q5)
         clear q5 C5
         go_wp2
         exact ⟨⟨t + 1, by omega, by go_num, Q5.out⟩, by simp [intOf]; omega⟩
        ·obtain rfl : t = 32 := by omega
         have EH : Hid (hr 1 P2 = dv 0 32 ((P2.snap 1).2.send 1).2) := Hid.mk' (by unfold hr; rw [o11])
         rw [<- EH.out] at QT
         have QE : Hid (KQ W bk bp wr kp (rnds (m + 1) P0)) := Hid.mk' (by rw [RS.out]; exact QT.out)
         clear QT EH RS
         go_wp2_with fail
         rw [rounds_succ]
         go_wp2
         exact ⟨⟨m + 1, by omega, by go_num, QE.out⟩, by simp [intOf]; omega⟩
    ·obtain rfl : m = 40 := by omega
     have F := forty BD.out
     have CFI : Hid (((rnds 40 P0).sh 0).cI = sI /\ ((rnds 40 P0).sh 1).cI = sI) := Hid.mk' ⟨(rnds_cI BD.out 40 (by omega)).1.trans CF0.out.1, (rnds_cI BD.out 40 (by omega)).2.trans CF0.out.2⟩
     generalize rnds 40 P0 = P at Q2 F CFI
     have FF := Hid.mk' F
     clear F BD
     have u0 : Hid (P.upE 0 = 0) := Hid.mk' (upE_fr (.inl rfl) (FF.out.1.fr (.inl rfl)).1)
     have u1 : Hid (P.upE 1 = 0) := Hid.mk' (upE_fr (.inr rfl) (FF.out.1.fr (.inr rfl)).1)
     have c3 := Q2.out.c0
     have lt3 := Q2.out.lt
     have C3 := Hid.mk' (Q2.out.outbox 0)
     rw [u0.out] at C3
     go_wp2_with fail
     refine wp_loop_rounds 3 ?_
     rw [rounds_succ]
     go_wp2_with fail
    
     refine Calls.mono C3.out ?_
     rintro e wo0 ⟨vo, rfl, oo, go⟩
     obtain ⟨ao0, co0, hvo⟩ := slice_len oo
     obtain ⟨lo0, hlo0⟩ : ∃ n, (P.outbox 0).length = n := ⟨_, rfl⟩
     rw [hlo0] at hvo
     subst hvo
     have QO0 := Hid.mk' (Q2.out.grown go)
     have c4 := QO0.out.c0
     have lt4 := QO0.out.lt
     have C4 := Hid.mk' (QO0.out.world 1)
     rw [u1.out] at C4
     clear oo go c3 C3
     go_wp2_with fail
     refine Calls.mono C4.out ?_
     rintro e ww0 ⟨vw, rfl, ow, gw⟩
     obtain ⟨aw0, cw0, hvw⟩ := slice_len ow
     obtain ⟨lw0, hlw0⟩ : ∃ n, (P.world 1).length = n := ⟨_, rfl⟩
     rw [hlw0] at hvw
     subst hvw
     have QW0 := Hid.mk' (QO0.out.grown gw)
     have b0 : lo0 <= 1000 /\ lw0 <= 1000 := by
      have t := told_ok QW0.out.gd
      exact ⟨by rw [<- hlo0]; exact (t 0).2.1, by rw [<- hlw0]; exact (t 1).1.1⟩
     have cs := QW0.out.only.cell (P1.out.1.c 0 _ rfl) (by have := LW.out; show ¬ W.heap.size <= w.heap.size; omega)
     have lts : w.heap.size < ww0.heap.size := World.block_lt_of_cell? ww0 _ cs
     have dn : lo0 = 0 ∨ sI <= (lw0 : Int) := by
      rcases FF.out.2.1 with d | d
      ·left
       rw [<- hlo0]
       unfold Pr.outbox
       rw [if_pos u0.out]
       have : (P.sh 0).ob = [] := d
       rw [this]; rfl
      ·right
       rw [<- hlw0]
       unfold Pr.world
       rw [if_pos u1.out]
       have d' : (P.sh 1).cI <= ((P.sh 1).ds.it.length : Int) := d
       have e' : (P.sh 1).cI = sI := CFI.out.2
       rw [e'] at d'
       exact d'
     have c5 := QW0.out.c0
     have lt5 := QW0.out.lt
     clear ow gw c4 C4 hlo0 hlw0
     have C3 := Hid.mk' (QW0.out.outbox 1)
     rw [u1.out] at C3
     have dc : lo0 = 0 ∨ (decide ((0 : Int) < (lo0 : Int)) = true /\ decide ((lw0 : Int) < sI) = false) := by
      rcases dn with d | d
      ·exact .inl d
      ·by_cases z : lo0 = 0
       ·exact .inl z
       ·exact .inr ⟨decide_eq_true (by omega), decide_eq_false (by omega)⟩
     clear dn
     rcases dc with rfl | ⟨t0, t1⟩
     all_goals
      go_wp2_with fail
      all_goals
       rw [rounds_succ]
       go_wp2_with fail
       refine Calls.mono C3.out ?_
       rintro e wo1 ⟨vo, rfl, oo, go⟩
       obtain ⟨ao1, co1, hvo⟩ := slice_len oo
       obtain ⟨lo1, hlo1⟩ : ∃ n, (P.outbox 1).length = n := ⟨_, rfl⟩
       rw [hlo1] at hvo
       subst hvo
       have QO1 := Hid.mk' (QW0.out.grown go)
       have c4 := QO1.out.c0
       have lt4 := QO1.out.lt
       have C4 := Hid.mk' (QO1.out.world 0)
       rw [u0.out] at C4
       clear oo go c5 C3
       go_wp2_with fail
       refine Calls.mono C4.out ?_
       rintro e ww1 ⟨vw, rfl, ow, gw⟩
       obtain ⟨aw1, cw1, hvw⟩ := slice_len ow
       obtain ⟨lw1, hlw1⟩ : ∃ n, (P.world 0).length = n := ⟨_, rfl⟩
       rw [hlw1] at hvw
       subst hvw
       have QW1 := Hid.mk' (QO1.out.grown gw)
       have b1 : lo1 <= 1000 /\ lw1 <= 1000 := by
        have t := told_ok QW1.out.gd
        exact ⟨by rw [<- hlo1]; exact (t 1).2.1, by rw [<- hlw1]; exact (t 0).1.1⟩
       have cs := QW1.out.only.cell (P1.out.1.c 0 _ rfl) (by have := LW.out; show ¬ W.heap.size <= w.heap.size; omega)
       have lts : w.heap.size < ww1.heap.size := World.block_lt_of_cell? ww1 _ cs
       have dn : lo1 = 0 ∨ sI <= (lw1 : Int) := by
        rcases FF.out.2.2 with d | d
        ·left
         rw [<- hlo1]
         unfold Pr.outbox
         rw [if_pos u1.out]
         have : (P.sh 1).ob = [] := d
         rw [this]; rfl
        ·right
         rw [<- hlw1]
         unfold Pr.world
         rw [if_pos u0.out]
         have d' : (P.sh 0).cI <= ((P.sh 0).ds.it.length : Int) := d
         have e' : (P.sh 0).cI = sI := CFI.out.1
         rw [e'] at d'
         exact d'
       have c5 := QW1.out.c0
       have lt5 := QW1.out.lt
       clear ow gw c4 C4 hlo1 hlw1
       have CR := Hid.mk' (QW1.out.right FF.out.1.oi)
       have dc : lo1 = 0 ∨ (decide ((0 : Int) < (lo1 : Int)) = true /\ decide ((lw1 : Int) < sI) = false) := by
        rcases dn with d | d
        ·exact .inl d
        ·by_cases z : lo1 = 0
         ·exact .inl z
         ·exact .inr ⟨decide_eq_true (by omega), decide_eq_false (by omega)⟩
       clear dn
       rcases dc with rfl | ⟨t0, t1⟩
       all_goals
        go_wp2_with fail
        all_goals
         rw [rounds_succ]
         go_wp2_with fail
         refine Calls.mono CR.out ?_
         rintro e wz ⟨kz, rfl, qz, _⟩
         have OZ := Hid.mk' (OW.out _ qz.only)
         clear qz
         go_wp2
         go_ret
         exact ⟨rfl, OZ.out⟩
end Go.Proofs.YtammnaafdhhjaaaGreat
