import Derived.BigQuiet
import Derived.Test.YtammnaafdhhjaaaGreatRows
import Derived.Test.YtammnaafdhhjaaaGreatJO14
set_option maxHeartbeats 16000000
set_option maxRecDepth 100000
namespace Go.Proofs.YtammnaafdhhjaaaGreat
open Go.RowKit
def CL (w : World) (g off : Nat) (l : List Dd) : Prop := ∀ k (hk : k < l.length), w.cell? ⟨g, off + k * 2, none⟩ = some (.int .i64 l[k].sh) /\ w.cell? ⟨g, off + k * 2 + 1, none⟩ = some (.int .i64 l[k].nu)
def RL (w wr : World) (bk bp : Nat) (vk : Value) (D : Nat -> Prop) (k : Kp) (p : Pr) (g off : Nat) (l : List Dd) : Prop :=
 ∃ v E, KX wr bk bp v E k p /\ KS bk w wr vk D v E /\ CL wr g off l /\ (0 < l.length -> ¬ kF bk v E g /\ g < wr.heap.size)
section
variable {w wr w' w1 w2 : World} {bk bp g off : Nat} {vk v v' : Value} {D E : Nat -> Prop} {k : Kp} {p : Pr} {l : List Dd}
theorem CL.only {A : Nat -> Prop} (h : CL wr g off l) (o : Only wr w' A) (n : 0 < l.length -> ¬ A g) : CL w' g off l := fun k hk => by
 have hp : 0 < l.length := by omega
 exact ⟨o.cell (h k hk).1 (n hp), o.cell (h k hk).2 (n hp)⟩
theorem RL.grown (h : RL w wr bk bp vk D k p g off l) (gr : wr.grownBy w' none) : RL w w' bk bp vk D k p g off l := by
 obtain ⟨v, E, hx, hs, cl, hg⟩ := h
 exact ⟨v, E, hx.grown gr, hs.trans (KS.grown gr), cl.only (Only.grown gr) (by simp), fun hp => ⟨(hg hp).1, Nat.lt_of_lt_of_le (hg hp).2 gr.size⟩⟩
theorem RL.kn (h : RL w wr bk bp vk D k p g off l) : KN w wr bk bp vk D k p := by
 obtain ⟨v, E, hx, hs, _⟩ := h
 exact hs.kn hx
theorem RL.app {n : List Kn} (hx : KX wr bk bp v E k p) (hs : KS bk w wr vk D v E) (cl : CL wr g off l) (hg : 0 < l.length -> ¬ kF bk v E g /\ g < wr.heap.size) (gr : wr.grownBy w1 none) (o : OwnK 0 w2 v' n) (ga : w1.grownBy w2 v.ownBlock) (hv : v'.ownBlock = v.ownBlock ∨ v'.ownBlock = some w1.heap.size) :
  RL w (w2.setCell ⟨bk, 1, none⟩ v') bk bp vk D { k with kn := n } p g off l := by
 obtain ⟨a, b⟩ := (hx.grown gr).appX o ga hv
 have og : Only w1 (w2.setCell ⟨bk, 1, none⟩ v') (fun j => j = bk ∨ v.ownBlock = some j) := ((Only.grown ga).mono (fun j _ e => .inr e)).trans ((Only.set w2 bk 1 v').mono (fun j _ e => .inl (.inl e)))
 refine ⟨v', E, a, (hs.trans (KS.grown gr)).trans b, (cl.only (Only.grown gr) (by simp)).only og (fun hp e => ?_), fun hp => ⟨fun e => ?_, ?_⟩⟩
 ·rcases e with e | e
  ·exact (hg hp).1 (.inl e)
  ·exact (hg hp).1 (.inr (.inl e))
 ·rcases e with e | e | e
  ·exact (hg hp).1 (.inl e)
  ·rcases hv with c | c
   ·rw [c] at e; exact (hg hp).1 (.inr (.inl e))
   ·rw [c] at e
    injection e with e
    have := (hg hp).2
    have := gr.size
    omega
  ·exact (hg hp).1 (.inr (.inr e))
 ·have := (hg hp).2
  have := gr.size
  have := og.size
  omega
theorem RL.how {kg N c : Nat} (hx : KX wr bk bp (.slice (some ⟨kg, 0, none⟩) N c) E k p) (hs : KS bk w wr vk D (.slice (some ⟨kg, 0, none⟩) N c) E) (cl : CL wr g off l) (hg : 0 < l.length -> ¬ kF bk (.slice (some ⟨kg, 0, none⟩) N c) E g /\ g < wr.heap.size) (hN : k.kn.length = N) (n : Nat) (u : Int) (hn : n < N) :
  KX (wr.setCell ⟨kg, n * 3 + 2, none⟩ (.int .i64 u)) bk bp (.slice (some ⟨kg, 0, none⟩) N c) E (k.how n u) p /\ KS bk w (wr.setCell ⟨kg, n * 3 + 2, none⟩ (.int .i64 u)) vk D (.slice (some ⟨kg, 0, none⟩) N c) E /\ CL (wr.setCell ⟨kg, n * 3 + 2, none⟩ (.int .i64 u)) g off l /\ (0 < l.length -> ¬ kF bk (.slice (some ⟨kg, 0, none⟩) N c) E g /\ g < (wr.setCell ⟨kg, n * 3 + 2, none⟩ (.int .i64 u)).heap.size) := by
 have o := Only.set wr kg (n * 3 + 2) (.int .i64 u)
 have ng : ¬ E kg /\ kg ≠ bk := hx.nv kg rfl
 refine ⟨⟨?_, ?_, hx.pw.only o (fun j _ hj e => ng.1 (e ▸ hj)), fun j hj => Nat.lt_of_lt_of_le (hx.lt j hj) o.size, hx.nb, hx.nv⟩, hs.trans ⟨fun _ e => .inl e, o.mono (fun j _ e => .inr (.inl (by subst e; rfl)))⟩, cl.only o (fun hp e => (hg hp).1 (.inr (.inl (by subst e; rfl)))), fun hp => ⟨(hg hp).1, Nat.lt_of_lt_of_le (hg hp).2 o.size⟩⟩
 ·exact hx.at_.only o (fun e => ng.2 e.symm)
 ·have ow := hx.ow
  unfold OwnK at ow ⊢
  rw [show (k.how n u).kn = k.kn.modify n (fun q => { q with how := u }) from rfl, List.length_modify, flat_how _ _ _ (by omega), hN] at *
  exact (ow.stored (n * 3 + 2) (.int .i64 u)).1
end
def knS (K1 : List Kn) (l : List Dd) (n : Nat) : List Kn := (K1.take n).map (settle l) ++ K1.drop n
theorem knS_len (K1 : List Kn) (l : List Dd) (n : Nat) : (knS K1 l n).length = K1.length := by
 unfold knS; simp; omega
theorem knS_zero (K1 : List Kn) (l : List Dd) : knS K1 l 0 = K1 := by simp [knS]
theorem knS_all (K1 : List Kn) (l : List Dd) : knS K1 l K1.length = K1.map (settle l) := by simp [knS]
theorem knS_at {K1 : List Kn} {l : List Dd} {n : Nat} (h : n < K1.length) : (knS K1 l n)[n]'(by rw [knS_len]; exact h) = K1[n] := by
 unfold knS
 rw [List.getElem_append_right (by simp; omega)]
 simp [Nat.min_eq_left (Nat.le_of_lt h)]
theorem knS_succ {K1 : List Kn} {l : List Dd} {n : Nat} (h : n < K1.length) : knS K1 l (n + 1) = (knS K1 l n).set n (settle l K1[n]) := by
 unfold knS
 rw [List.take_succ_eq_append_getElem h, List.map_append, List.append_assoc, List.set_append_right _ _ (by simp; omega)]
 have e : n - ((K1.take n).map (settle l)).length = 0 := by simp; omega
 rw [e, List.drop_eq_getElem_cons h]
 rfl
theorem knS_same {K1 : List Kn} {l : List Dd} {n : Nat} (h : n < K1.length) (h3 : K1[n].how ≠ 3) : knS K1 l (n + 1) = knS K1 l n := by
 rw [knS_succ h]
 have e : settle l K1[n] = K1[n] := by unfold settle; rw [if_neg h3]
 rw [e]
 have := knS_at (l := l) h
 rw [<- this]
 exact List.set_getElem_self _
theorem knS_how {K1 : List Kn} {l : List Dd} {n : Nat} (h : n < K1.length) (h3 : K1[n].how = 3) (v : Int) (hv : v = if hasD l K1[n].sh K1[n].nu = true then 1 else 2) : knS K1 l (n + 1) = (knS K1 l n).modify n (fun q => { q with how := v }) := by
 rw [knS_succ h]
 apply List.ext_getElem
 ·rw [List.length_set, List.length_modify]
 ·intro m h1 h2
  rw [List.getElem_set, List.getElem_modify]
  by_cases c : n = m
  ·subst c
   rw [if_pos rfl, if_pos rfl, knS_at h]
   unfold settle
   rw [if_pos h3, hv]
  ·rw [if_neg c, if_neg c]
theorem right_any (bk bp : Nat) (vk : Value) (D : Nat -> Prop) (kp : Kp) (p : Pr) (w : World) (l : List Dd) (h : KX w bk bp vk D kp p) (h0 : p.upE 0 = 0) (h1 : p.upE 1 = 0) (hn : kp.kn.length + l.length <= 1000000)
  (ok : RightOk kp l) (rs : ∀ K : Kp, K.m0 = kp.m0 -> K.m1 = kp.m1 -> (K.rises (p.marks 0) (p.marks 1)) = (true, { K with m0 := p.marks 0, m1 := p.marks 1 }))
  (PL : ∀ W, KX W bk bp vk D kp p -> Calls Tryz.prog 26 #[.pointer (some ⟨bk, 0, none⟩)] W fun e w' => ∃ v, e = .returned (.tuple #[v, .bool true]) /\ OwnD W.heap.size w' v l /\ W.grownBy w' none) :
  Calls Tryz.prog 25 #[.pointer (some ⟨bk, 0, none⟩)] w fun e w' => e = .returned (.bool true) /\ KN w w' bk bp vk D (kp.right l (p.marks 0) (p.marks 1)) p := by
 have HH := Hid.mk' h
 have P1 := Hid.mk' (PL _ h)
 have OK := Hid.mk' ok
 have RS := Hid.mk' rs
 have UP := Hid.mk' (And.intro h0 h1)
 have HN := Hid.mk' hn
 have hlt := h.at_.lt
 clear ok rs h0 h1 PL hn h
 go_enter Tryz.func25, Tryz.ntmps25
 go_wp2_with fail
 refine Calls.mono P1.out ?_
 rintro e w1 ⟨v, rfl, ow, g1⟩
 obtain ⟨a, c, hv, hx⟩ := ownD_at ow
 obtain ⟨L, hl⟩ : ∃ L, l.length = L := ⟨_, rfl⟩
 rw [hl] at hv
 subst hv
 have HL := Hid.mk' hl
 have hL : L <= 1000000 := by have := HN.out; omega
 obtain ⟨g, off, GA, R1⟩ : ∃ g off, Hid (0 < L -> a = some ⟨g, off, none⟩) /\ Hid (RL w w1 bk bp vk D { kp with kn := newK kp.kn (l.take 0) } p g off l) := by
  have k0 : ({ kp with kn := newK kp.kn (l.take 0) } : Kp) = kp := by rw [List.take_zero, newK_nil]
  rw [k0]
  by_cases hp : 0 < l.length
  ·obtain ⟨g, off, e, hc⟩ := hx hp
   have bl : a = some ⟨g, off, none⟩ -> w.heap.size <= g /\ g < w1.heap.size := fun e => by
    rcases ow.2 with ⟨h', _⟩ | ⟨g', cap, cur, h', h1, h2, _⟩
    ·injection h' with h' _ _; rw [e] at h'; cases h'
    ·injection h' with h' _ _
     rw [e] at h'
     injection h' with h'
     injection h' with e1 _ _
     subst e1
     exact ⟨h1, (Array.getElem?_eq_some_iff.1 h2).1⟩
   have bl' := bl e
   exact ⟨g, off, Hid.mk' (fun _ => e), Hid.mk' ⟨vk, D, HH.out.grown g1, KS.grown g1, hc, fun _ => ⟨fun c => by have := HH.out.ltF c; omega, bl'.2⟩⟩⟩
  ·exact ⟨0, 0, Hid.mk' (fun c => by omega), Hid.mk' ⟨vk, D, HH.out.grown g1, KS.grown g1, fun k hk => by omega, fun c => absurd c hp⟩⟩
 clear ow g1 hx hl P1
 go_wp2_with fail
 go_loopw [5] (fun f wr => ∃ i : Nat, i <= L /\ f = .int .i64 i /\ RL w wr bk bp vk D { kp with kn := newK kp.kn (l.take i) } p g off l) (fun f _ => L - (intOf f).toNat)
 case atStart => exact ⟨0, by omega, rfl, R1.out⟩
 case round =>
  clear R1
  obtain ⟨i, hi, rfl, ri⟩ := hrel
  have RI := Hid.mk' ri
  clear ri
  by_cases hlt' : i < L
  ·have hil : i < l.length := by rw [HL.out]; exact hlt'
   obtain rfl := GA.out (by omega)
   have y0 : (0 : Int) <= (i : Int) := by omega
   have y1 : (i : Int) < (L : Int) := by omega
   obtain ⟨x, hx⟩ : ∃ x, l[i] = x := ⟨_, rfl⟩
   have HXI := Hid.mk' hx
   clear hx
   go_wp2_with fail
   go_loopw [6] (fun f wq => ∃ j : Nat, j <= i /\ f = .int .i64 j /\ RL w wq bk bp vk D { kp with kn := newK kp.kn (l.take i) } p g off l) (fun f _ => i - (intOf f).toNat)
   case atStart => exact ⟨0, by omega, rfl, RI.out⟩
   case round =>
    clear RI
    obtain ⟨j, hj, rfl, rj⟩ := hrel
    have RJ := Hid.mk' rj
    obtain ⟨v', E, kx, ks, cl, hg⟩ := rj
    have i0 := (cl i hil).1
    have i1 := (cl i hil).2
    rw [HXI.out] at i0 i1
    by_cases hji : j < i
    ·have hjl : j < l.length := by omega
     have j0 := (cl j hjl).1
     have j1 := (cl j hjl).2
     have ne := OK.out.nd i j hil hji
     rw [HXI.out] at ne
     have z0 : (0 : Int) <= (j : Int) := by omega
     have z1 : (j : Int) < (L : Int) := by omega
     have z2 : (j : Int) < (i : Int) := by omega
     clear kx ks cl hg
     by_cases e1 : l[j].sh = x.sh
     ·have e2 : ¬ l[j].nu = x.nu := fun e => ne ⟨e1, e⟩
      have e2' : (l[j].nu == x.nu) = false := by simpa using e2
      rw [e1] at j0
      generalize l[j].nu = jn at j1 e2'
      clear ne e1 e2
      go_wp2_with fail
      go_quiet (fail)
      go_wp2
      exact ⟨⟨j + 1, by omega, by go_num, RJ.out.grown (grownBy_drewN (grownBy_refl _ _) nq)⟩, by simp [intOf]; omega⟩
     ·have e1' : (l[j].sh == x.sh) = false := by simpa using e1
      generalize l[j].nu = jn at j1 ne
      generalize l[j].sh = js at j0 e1' ne e1
      clear ne e1
      go_wp2_with fail
      go_quiet (fail)
      go_wp2
      exact ⟨⟨j + 1, by omega, by go_num, RJ.out.grown (grownBy_drewN (grownBy_refl _ _) nq)⟩, by simp [intOf]; omega⟩
    ·obtain rfl : j = i := by omega
     have z2 : ¬ (j : Int) < (j : Int) := by omega
     have CF := Hid.mk' (findK_any (newK kp.kn (l.take j)) x.sh x.nu bk _ wr (kx.at_.c 1 _ rfl) kx.ow (by
      have z1 := newK_len kp.kn (l.take j)
      have z2 := HN.out
      rw [List.length_take] at z1
      omega))
     have XL : Hid (x ∈ l) := Hid.mk' (by rw [<- HXI.out]; exact List.getElem_mem hil)
     clear kx ks cl hg
     go_wp2_with fail
     refine Calls.mono CF.out ?_
     rintro e w2 ⟨rfl, g2⟩
     have RK := Hid.mk' (RJ.out.grown g2)
     clear g2 i0 i1 CF RJ
     obtain ⟨v2, E2, kx, ks, cl, hg⟩ := RK.out
     obtain ⟨ka, kc, rfl, hK⟩ := lies_of kx.ow
     obtain ⟨N, hN⟩ : ∃ N, (newK kp.kn (l.take j)).length = N := ⟨_, rfl⟩
     rw [hN] at kx ks hg hK
     by_cases hF : 0 <= findK kp.kn x.sh x.nu
     ·obtain ⟨n, hnl, hf, e1, e2⟩ := findK_pos hF
      have how2 : kp.kn[n].how ≠ 2 := OK.out.f2 x XL.out kp.kn[n] (List.getElem_mem hnl) e1 e2
      have hfn : findK (newK kp.kn (l.take j)) x.sh x.nu = n := by rw [newK_find_old hF, hf]
      have hnN : n < (newK kp.kn (l.take j)).length := by unfold newK; rw [List.length_append]; omega
      have hq : (newK kp.kn (l.take j))[n] = kp.kn[n] := by unfold newK; exact List.getElem_append_left _
      obtain ⟨kg, koff, rfl, hk⟩ := hK (by omega)
      have kc1 := kx.at_.c 1 _ rfl
      have klt := kx.at_.lt
      have k2 : w2.cell? ⟨kg, koff + n * 3 + 2, none⟩ = some (.int .i64 kp.kn[n].how) := by
       have := hk (3 * n + 2) (.int .i64 kp.kn[n].how) (by
        show ((newK kp.kn (l.take j)).flatMap Kn.cells)[3 * n + 2]? = _
        rw [flat_at3 (newK kp.kn (l.take j)) n 2 hnN (by omega), hq]; rfl)
       rw [show koff + (3 * n + 2) = koff + n * 3 + 2 by omega] at this
       exact this
      have n0 : (0 : Int) <= (n : Int) := by omega
      have n1 : (n : Int) < (N : Int) := by omega
      have n2 : ¬ (n : Int) < 0 := by omega
      have n3 : (kp.kn[n].how == 2) = false := by simpa using how2
      have NK : Hid (newK kp.kn (l.take (j + 1)) = newK kp.kn (l.take j)) := Hid.mk' (newK_old hil (by rw [HXI.out]; exact hF))
      rw [hfn]
      generalize kp.kn[n].how = hw at k2 n3 how2
      clear hk hf hfn hnN hq kx ks cl hg hK how2
      go_wp2
      exact ⟨⟨j + 1, by omega, by go_num, by rw [NK.out]; exact RK.out⟩, by simp [intOf]; omega⟩
     ·have hF' : findK kp.kn x.sh x.nu < 0 := by omega
      have hfn : findK (newK kp.kn (l.take j)) x.sh x.nu = -1 := by
       have := newK_find_new OK.out hil (by rw [HXI.out]; exact hF')
       rwa [HXI.out] at this
      have NK : Hid (newK kp.kn (l.take (j + 1)) = newK kp.kn (l.take j) ++ [⟨x.sh, x.nu, 1⟩]) := Hid.mk' (by
       have := newK_new hil (by rw [HXI.out]; exact hF')
       rwa [HXI.out] at this)
      have dd := OK.out.dd x XL.out
      rw [hfn]
      rcases dd with c | ⟨e0, dk⟩ | ⟨e0, dk⟩
      ·exact absurd c hF
      ·have i0 := (cl j hil).1
       have i1 := (cl j hil).2
       rw [HXI.out] at i0 i1
       rw [e0] at i0
       have cD := kx.at_.c 2 _ rfl
       have e4 : ({ kp with kn := newK kp.kn (l.take j) } : Kp).d0 = true := dk
       rw [e4] at cD
       have cK := kx.at_.c 1 _ rfl
       have klt := kx.at_.lt
       have hgj := hg (by omega)
       have glt := hgj.2
       have CC := Hid.mk' (And.intro kx (And.intro ks (And.intro cl hg)))
       rw [e0] at NK
       have n2 : (-1 : Int) < 0 := by omega
       clear kx ks cl hg hK hfn hgj e4 dk
       go_wp2_with fail
       go_quiet (fail)
       have GQ : Hid (w2.grownBy (w2.drewN nq) none) := Hid.mk' (grownBy_drewN (grownBy_refl _ _) nq)
       generalize w2.drewN nq = W2 at GQ ⊢
       have X2 := Hid.mk' (CC.out.1.grown GQ.out)
       have S2 := Hid.mk' (CC.out.2.1.trans (KS.grown GQ.out))
       have C2 := Hid.mk' (CC.out.2.2.1.only (Only.grown GQ.out) (by simp))
       have F2 := Hid.mk' (fun hp => And.intro (CC.out.2.2.2 hp).1 (Nat.lt_of_lt_of_le (CC.out.2.2.2 hp).2 GQ.out.size))
       have q0 := GQ.out.cell i0 (by simp)
       have q1 := GQ.out.cell i1 (by simp)
       clear i0 i1 cD cK CC
       go_wp2_with fail
       refine wp_region_held_drew (S := fun w' => CL w' g off l) (by kernel_rfl) (C2.out.only (Only.grown (grownBy_drew (grownBy_refl W2 none))) (by simp)) (fun hHeld => ?_)
       refine hTk 0 ?_
       simp only [lS0, lS1]
       refine hTk 1 ?_
       simp only [lS0, lS1]
       refine hTk 2 ?_
       simp only [lS0, lS1]
       refine hTk 3 ?_
       simp only [lS0, lS1]
       refine hTk 5 ?_
       simp only [lS0, lS1]
       refine hTk 6 ?_
       simp only [lS0, lS1]
       refine hTk 7 ?_
       simp only [lS0, lS1]
       refine hTy 8 rfl (by intro w hSw; have S0 := (hSw j hil).1; have S1 := (hSw j hil).2; rw [HXI.out] at S0 S1; rw [e0] at S0; go_simp; try with_reducible rfl) ?_
       simp only [lS0, lS1]
       refine hTk 9 ?_
       simp only [lS0, lS1]
       have G8 : Hid (W2.grownBy (W2.alloc (.cells #[.int .i64 0, .int .i64 x.nu, .int .i64 1] 77)).drew none) := Hid.mk' (grownBy_drew (World.grownBy_alloc W2 (.cells #[.int .i64 0, .int .i64 x.nu, .int .i64 1] 77) none))
       have X8 := Hid.mk' (X2.out.grown G8.out)
       have H8 : Hid (CL (W2.alloc (.cells #[.int .i64 0, .int .i64 x.nu, .int .i64 1] 77)).drew g off l) := Hid.mk' (C2.out.only (Only.grown G8.out) (by simp))
       have C8 : Hid (∀ j u, (Kn.cells ⟨0, x.nu, 1⟩)[j]? = some u -> (W2.alloc (.cells #[.int .i64 0, .int .i64 x.nu, .int .i64 1] 77)).drew.cell? ((⟨W2.heap.size, 0, none⟩ : Addr).add j) = some u) := Hid.mk' fun j u hu => (grownBy_drew (grownBy_refl _ none)).cell (cells_new W2 [.int .i64 0, .int .i64 x.nu, .int .i64 1] _ _ rfl j u hu) (by simp)
       have LN : Hid ((newK kp.kn (l.take j)).length + 1 <= 3000000) := Hid.mk' (by have z1 := newK_len kp.kn (l.take j); have z2 := HN.out; rw [List.length_take] at z1; omega)
       refine hTwo 4 10 (by kernel_rfl) ?_ ?_
       ·refine hRunAt 4 (by rfl) (by rfl) ?_
        intro K' hK
        have c1 := X2.out.at_.drew.c 1 _ rfl
        go_simp
        refine hK _ _ hHeld ?_
        clear hK K' c1
        refine hRun 10 (by kernel_rfl) (by rfl) (by rfl) ?_
        intro K' hK
        go_simp
        refine hK _ _ H8.out ?_
        clear hK K' hHeld
        have hHeld := H8.out
        refine hRun 11 (by kernel_rfl) (by rfl) (by rfl) ?_
        intro K' hK
        refine op_appKn (.tmp 77) (.tmp 83) rfl 0 (.slice ka N kc) (newK kp.kn (l.take j)) rfl X8.out.ow ⟨W2.heap.size, 0, none⟩ ⟨0, x.nu, 1⟩ rfl C8.out LN.out (Nat.zero_le _) ?_
        intro v8 w8 o8 g8 h8
        have R9 := Hid.mk' (RL.app X2.out S2.out C2.out F2.out G8.out o8 g8 h8)
        have A8 := X8.out.at_.only (Only.grown g8) (fun e => (X8.out.nv bk e).2 rfl)
        have ck := A8.c 1 _ rfl
        have hf8 := A8.f
        have HC : CL w8 g off l := hHeld.only (Only.grown g8) (fun hp e => (F2.out hp).1 (.inr (.inl e)))
        clear hHeld
        have hHeld := HC
        clear HC
        obtain ⟨a8, c8, rfl⟩ := slice_len o8
        obtain ⟨n8, hn8⟩ : ∃ n, (newK kp.kn (l.take j) ++ [(⟨0, x.nu, 1⟩ : Kn)]).length = n := ⟨_, rfl⟩
        rw [hn8] at o8 h8 R9 ⊢
        refine hK _ _ hHeld ?_
        clear hK K'
        clear o8 g8 h8 A8
        simp only [Act.put, List.setIfInBounds_toArray, lS0, lS1]
        refine hTk 12 ?_
        simp only [lS0, lS1]
        refine hTk 13 ?_
        simp only [lS0, lS1]
        refine hRun 14 (by kernel_rfl) (by rfl) (by rfl) ?_
        intro K' hK
        go_simp
        refine hK _ _ (hHeld.only (Only.set w8 bk 1 _) (fun hp e => (F2.out hp).1 (.inl e))) ?_
        clear hK K'
        refine wpAnyH_done (by kernel_rfl) ?_ _
        go_wp2
        exact ⟨⟨j + 1, by omega, by go_num, by rw [NK.out]; exact R9.out⟩, by simp [intOf]; omega⟩
       ·refine hRunAt 10 (by rfl) (by rfl) ?_
        intro K' hK
        go_simp
        refine hK _ _ H8.out ?_
        clear hK K' hHeld
        have hHeld := H8.out
        refine hRun 4 (by kernel_rfl) (by rfl) (by rfl) ?_
        intro K' hK
        have c1 := X8.out.at_.c 1 _ rfl
        go_simp
        refine hK _ _ hHeld ?_
        clear hK K' c1
        refine hRun 11 (by kernel_rfl) (by rfl) (by rfl) ?_
        intro K' hK
        refine op_appKn (.tmp 77) (.tmp 83) rfl 0 (.slice ka N kc) (newK kp.kn (l.take j)) rfl X8.out.ow ⟨W2.heap.size, 0, none⟩ ⟨0, x.nu, 1⟩ rfl C8.out LN.out (Nat.zero_le _) ?_
        intro v8 w8 o8 g8 h8
        have R9 := Hid.mk' (RL.app X2.out S2.out C2.out F2.out G8.out o8 g8 h8)
        have A8 := X8.out.at_.only (Only.grown g8) (fun e => (X8.out.nv bk e).2 rfl)
        have ck := A8.c 1 _ rfl
        have hf8 := A8.f
        have HC : CL w8 g off l := hHeld.only (Only.grown g8) (fun hp e => (F2.out hp).1 (.inr (.inl e)))
        clear hHeld
        have hHeld := HC
        clear HC
        obtain ⟨a8, c8, rfl⟩ := slice_len o8
        obtain ⟨n8, hn8⟩ : ∃ n, (newK kp.kn (l.take j) ++ [(⟨0, x.nu, 1⟩ : Kn)]).length = n := ⟨_, rfl⟩
        rw [hn8] at o8 h8 R9 ⊢
        refine hK _ _ hHeld ?_
        clear hK K'
        clear o8 g8 h8 A8
        simp only [Act.put, List.setIfInBounds_toArray, lS0, lS1]
        refine hTk 12 ?_
        simp only [lS0, lS1]
        refine hTk 13 ?_
        simp only [lS0, lS1]
        refine hRun 14 (by kernel_rfl) (by rfl) (by rfl) ?_
        intro K' hK
        go_simp
        refine hK _ _ (hHeld.only (Only.set w8 bk 1 _) (fun hp e => (F2.out hp).1 (.inl e))) ?_
        clear hK K'
        refine wpAnyH_done (by kernel_rfl) ?_ _
        go_wp2
        exact ⟨⟨j + 1, by omega, by go_num, by rw [NK.out]; exact R9.out⟩, by simp [intOf]; omega⟩
      ·have i0 := (cl j hil).1
       have i1 := (cl j hil).2
       rw [HXI.out] at i0 i1
       rw [e0] at i0
       have cD := kx.at_.c 3 _ rfl
       have e4 : ({ kp with kn := newK kp.kn (l.take j) } : Kp).d1 = true := dk
       rw [e4] at cD
       have cK := kx.at_.c 1 _ rfl
       have klt := kx.at_.lt
       have hgj := hg (by omega)
       have glt := hgj.2
       have CC := Hid.mk' (And.intro kx (And.intro ks (And.intro cl hg)))
       rw [e0] at NK
       have n2 : (-1 : Int) < 0 := by omega
       clear kx ks cl hg hK hfn hgj e4 dk
       go_wp2_with fail
       go_quiet (fail)
       have GQ : Hid (w2.grownBy (w2.drewN nq) none) := Hid.mk' (grownBy_drewN (grownBy_refl _ _) nq)
       generalize w2.drewN nq = W2 at GQ ⊢
       have X2 := Hid.mk' (CC.out.1.grown GQ.out)
       have S2 := Hid.mk' (CC.out.2.1.trans (KS.grown GQ.out))
       have C2 := Hid.mk' (CC.out.2.2.1.only (Only.grown GQ.out) (by simp))
       have F2 := Hid.mk' (fun hp => And.intro (CC.out.2.2.2 hp).1 (Nat.lt_of_lt_of_le (CC.out.2.2.2 hp).2 GQ.out.size))
       have q0 := GQ.out.cell i0 (by simp)
       have q1 := GQ.out.cell i1 (by simp)
       clear i0 i1 cD cK CC
       go_wp2_with fail
       refine wp_region_held_drew (S := fun w' => CL w' g off l) (by kernel_rfl) (C2.out.only (Only.grown (grownBy_drew (grownBy_refl W2 none))) (by simp)) (fun hHeld => ?_)
       refine hTk 0 ?_
       simp only [lS0, lS1]
       refine hTk 1 ?_
       simp only [lS0, lS1]
       refine hTk 2 ?_
       simp only [lS0, lS1]
       refine hTk 3 ?_
       simp only [lS0, lS1]
       refine hTk 5 ?_
       simp only [lS0, lS1]
       refine hTk 6 ?_
       simp only [lS0, lS1]
       refine hTk 7 ?_
       simp only [lS0, lS1]
       refine hTy 8 rfl (by intro w hSw; have S0 := (hSw j hil).1; have S1 := (hSw j hil).2; rw [HXI.out] at S0 S1; rw [e0] at S0; go_simp; try with_reducible rfl) ?_
       simp only [lS0, lS1]
       refine hTk 9 ?_
       simp only [lS0, lS1]
       have G8 : Hid (W2.grownBy (W2.alloc (.cells #[.int .i64 1, .int .i64 x.nu, .int .i64 1] 77)).drew none) := Hid.mk' (grownBy_drew (World.grownBy_alloc W2 (.cells #[.int .i64 1, .int .i64 x.nu, .int .i64 1] 77) none))
       have X8 := Hid.mk' (X2.out.grown G8.out)
       have H8 : Hid (CL (W2.alloc (.cells #[.int .i64 1, .int .i64 x.nu, .int .i64 1] 77)).drew g off l) := Hid.mk' (C2.out.only (Only.grown G8.out) (by simp))
       have C8 : Hid (∀ j u, (Kn.cells ⟨1, x.nu, 1⟩)[j]? = some u -> (W2.alloc (.cells #[.int .i64 1, .int .i64 x.nu, .int .i64 1] 77)).drew.cell? ((⟨W2.heap.size, 0, none⟩ : Addr).add j) = some u) := Hid.mk' fun j u hu => (grownBy_drew (grownBy_refl _ none)).cell (cells_new W2 [.int .i64 1, .int .i64 x.nu, .int .i64 1] _ _ rfl j u hu) (by simp)
       have LN : Hid ((newK kp.kn (l.take j)).length + 1 <= 3000000) := Hid.mk' (by have z1 := newK_len kp.kn (l.take j); have z2 := HN.out; rw [List.length_take] at z1; omega)
       refine hTwo 4 10 (by kernel_rfl) ?_ ?_
       ·refine hRunAt 4 (by rfl) (by rfl) ?_
        intro K' hK
        have c1 := X2.out.at_.drew.c 1 _ rfl
        go_simp
        refine hK _ _ hHeld ?_
        clear hK K' c1
        refine hRun 10 (by kernel_rfl) (by rfl) (by rfl) ?_
        intro K' hK
        go_simp
        refine hK _ _ H8.out ?_
        clear hK K' hHeld
        have hHeld := H8.out
        refine hRun 11 (by kernel_rfl) (by rfl) (by rfl) ?_
        intro K' hK
        refine op_appKn (.tmp 77) (.tmp 83) rfl 0 (.slice ka N kc) (newK kp.kn (l.take j)) rfl X8.out.ow ⟨W2.heap.size, 0, none⟩ ⟨1, x.nu, 1⟩ rfl C8.out LN.out (Nat.zero_le _) ?_
        intro v8 w8 o8 g8 h8
        have R9 := Hid.mk' (RL.app X2.out S2.out C2.out F2.out G8.out o8 g8 h8)
        have A8 := X8.out.at_.only (Only.grown g8) (fun e => (X8.out.nv bk e).2 rfl)
        have ck := A8.c 1 _ rfl
        have hf8 := A8.f
        have HC : CL w8 g off l := hHeld.only (Only.grown g8) (fun hp e => (F2.out hp).1 (.inr (.inl e)))
        clear hHeld
        have hHeld := HC
        clear HC
        obtain ⟨a8, c8, rfl⟩ := slice_len o8
        obtain ⟨n8, hn8⟩ : ∃ n, (newK kp.kn (l.take j) ++ [(⟨1, x.nu, 1⟩ : Kn)]).length = n := ⟨_, rfl⟩
        rw [hn8] at o8 h8 R9 ⊢
        refine hK _ _ hHeld ?_
        clear hK K'
        clear o8 g8 h8 A8
        simp only [Act.put, List.setIfInBounds_toArray, lS0, lS1]
        refine hTk 12 ?_
        simp only [lS0, lS1]
        refine hTk 13 ?_
        simp only [lS0, lS1]
        refine hRun 14 (by kernel_rfl) (by rfl) (by rfl) ?_
        intro K' hK
        go_simp
        refine hK _ _ (hHeld.only (Only.set w8 bk 1 _) (fun hp e => (F2.out hp).1 (.inl e))) ?_
        clear hK K'
        refine wpAnyH_done (by kernel_rfl) ?_ _
        go_wp2
        exact ⟨⟨j + 1, by omega, by go_num, by rw [NK.out]; exact R9.out⟩, by simp [intOf]; omega⟩
       ·refine hRunAt 10 (by rfl) (by rfl) ?_
        intro K' hK
        go_simp
        refine hK _ _ H8.out ?_
        clear hK K' hHeld
        have hHeld := H8.out
        refine hRun 4 (by kernel_rfl) (by rfl) (by rfl) ?_
        intro K' hK
        have c1 := X8.out.at_.c 1 _ rfl
        go_simp
        refine hK _ _ hHeld ?_
        clear hK K' c1
        refine hRun 11 (by kernel_rfl) (by rfl) (by rfl) ?_
        intro K' hK
        refine op_appKn (.tmp 77) (.tmp 83) rfl 0 (.slice ka N kc) (newK kp.kn (l.take j)) rfl X8.out.ow ⟨W2.heap.size, 0, none⟩ ⟨1, x.nu, 1⟩ rfl C8.out LN.out (Nat.zero_le _) ?_
        intro v8 w8 o8 g8 h8
        have R9 := Hid.mk' (RL.app X2.out S2.out C2.out F2.out G8.out o8 g8 h8)
        have A8 := X8.out.at_.only (Only.grown g8) (fun e => (X8.out.nv bk e).2 rfl)
        have ck := A8.c 1 _ rfl
        have hf8 := A8.f
        have HC : CL w8 g off l := hHeld.only (Only.grown g8) (fun hp e => (F2.out hp).1 (.inr (.inl e)))
        clear hHeld
        have hHeld := HC
        clear HC
        obtain ⟨a8, c8, rfl⟩ := slice_len o8
        obtain ⟨n8, hn8⟩ : ∃ n, (newK kp.kn (l.take j) ++ [(⟨1, x.nu, 1⟩ : Kn)]).length = n := ⟨_, rfl⟩
        rw [hn8] at o8 h8 R9 ⊢
        refine hK _ _ hHeld ?_
        clear hK K'
        clear o8 g8 h8 A8
        simp only [Act.put, List.setIfInBounds_toArray, lS0, lS1]
        refine hTk 12 ?_
        simp only [lS0, lS1]
        refine hTk 13 ?_
        simp only [lS0, lS1]
        refine hRun 14 (by kernel_rfl) (by rfl) (by rfl) ?_
        intro K' hK
        go_simp
        refine hK _ _ (hHeld.only (Only.set w8 bk 1 _) (fun hp e => (F2.out hp).1 (.inl e))) ?_
        clear hK K'
        refine wpAnyH_done (by kernel_rfl) ?_ _
        go_wp2
        exact ⟨⟨j + 1, by omega, by go_num, by rw [NK.out]; exact R9.out⟩, by simp [intOf]; omega⟩
  ·obtain rfl : i = L := by omega
   have y1 : ¬ (i : Int) < (i : Int) := by omega
   obtain ⟨K1, hK1⟩ : ∃ K1, newK kp.kn l = K1 := ⟨_, rfl⟩
   have R3 : Hid (RL w wr bk bp vk D { kp with kn := knS K1 l 0 } p g off l) := Hid.mk' (by
    have := RI.out
    rw [List.take_of_length_le (by rw [HL.out]; omega), hK1] at this
    rw [knS_zero]
    exact this)
   have HK1 := Hid.mk' hK1
   have TH : Hid (∀ q ∈ K1, q.how = 1 -> hasD l q.sh q.nu = true) := Hid.mk' (by rw [<- hK1]; exact newK_th OK.out)
   obtain ⟨N, hN⟩ : ∃ N, K1.length = N := ⟨_, rfl⟩
   have hN1 : N <= 1000000 := by have z1 := newK_len kp.kn l; have z2 := HN.out; rw [hK1, hN] at z1; omega
   have HN1 := Hid.mk' hN
   clear RI hK1 hN
   go_wp2_with fail
   go_loopw [8] (fun f wq => ∃ n : Nat, n <= N /\ f = .int .i64 n /\ RL w wq bk bp vk D { kp with kn := knS K1 l n } p g off l) (fun f _ => N - (intOf f).toNat)
   case atStart => exact ⟨0, by omega, rfl, R3.out⟩
   case round =>
    clear R3
    obtain ⟨w3, rfl⟩ : ∃ W, W = wr := ⟨_, rfl⟩
    obtain ⟨n, hn', rfl, rn⟩ := hrel
    have RN := Hid.mk' rn
    obtain ⟨v2, E2, kx, ks, cl, hg⟩ := rn
    have hlen : (knS K1 l n).length = N := by rw [knS_len, HN1.out]
    have off0 : ∀ a' n' c', v2 = .slice (some a') n' c' -> a'.off = 0 := fun a' n' c' e => by
     rcases kx.ow.2 with ⟨h', _⟩ | ⟨g', cap, cur, h', _⟩
     ·rw [e] at h'; injection h' with h' _ _; cases h'
     ·rw [e] at h'; injection h' with h' _ _; injection h' with h'; rw [h']
    obtain ⟨ka, kc, rfl, hK⟩ := lies_of kx.ow
    rw [hlen] at kx ks hg hK off0
    have kc1 := kx.at_.c 1 _ rfl
    have klt := kx.at_.lt
    by_cases hnN : n < N
    ·have hnl : n < K1.length := by rw [HN1.out]; exact hnN
     obtain ⟨kg, koff, rfl, hk⟩ := hK (by omega)
     obtain rfl : koff = 0 := off0 _ _ _ rfl
     have n0 : (0 : Int) <= (n : Int) := by omega
     have n1 : (n : Int) < (N : Int) := by omega
     obtain ⟨q, hq⟩ : ∃ q, K1[n] = q := ⟨_, rfl⟩
     have KD : Hid (∀ W, w3.grownBy W none -> W.cell? ⟨kg, n * 3, none⟩ = some (.int .i64 q.sh) /\ W.cell? ⟨kg, n * 3 + 1, none⟩ = some (.int .i64 q.nu) /\ W.cell? ⟨kg, n * 3 + 2, none⟩ = some (.int .i64 q.how)) := Hid.mk' fun W gW => by
      have d : ∀ j (hj : j < 3) u, q.cells[j]? = some u -> W.cell? ⟨kg, n * 3 + j, none⟩ = some u := fun j hj u hu => by
       have := hk (3 * n + j) u (by
        show ((knS K1 l n).flatMap Kn.cells)[3 * n + j]? = _
        rw [flat_at3 (knS K1 l n) n j (by rw [hlen]; exact hnN) hj, knS_at hnl, hq]
        exact hu)
       rw [show 0 + (3 * n + j) = n * 3 + j by omega] at this
       exact gW.cell this (by simp)
      exact ⟨d 0 (by omega) _ rfl, d 1 (by omega) _ rfl, d 2 (by omega) _ rfl⟩
     have HQ := Hid.mk' hq
     have CC := Hid.mk' (And.intro kx (And.intro ks (And.intro cl hg)))
     have GL : Hid (kg < w3.heap.size) := Hid.mk' (World.block_lt_of_cell? w3 _ (KD.out w3 (grownBy_refl _ _)).1)
     clear hk hq kx ks cl hg hK off0
     go_wp2_with fail
     go_loopw [9, 10] (fun b f wx => ∃ j : Nat, j <= i /\ f = .int .i64 j /\ b = .bool (hasD (l.take j) q.sh q.nu) /\ w3.grownBy wx none) (fun _ f _ => i - (intOf f).toNat)
     case atStart => exact ⟨0, by omega, rfl, rfl, grownBy_refl _ _⟩
     case round =>
      obtain ⟨j, hj, rfl, rfl, gj⟩ := hrel
      have GJ := Hid.mk' gj
      have kc2 := (CC.out.1.grown gj).at_.c 1 _ rfl
      have klt2 := (CC.out.1.grown gj).at_.lt
      obtain ⟨q0, q1, q2⟩ := KD.out _ gj
      clear gj kc1
      by_cases hji : j < i
      ·have hjl : j < l.length := by rw [HL.out]; exact hji
       obtain rfl := GA.out (by omega)
       have cl := CC.out.2.2.1
       have j0 := GJ.out.cell (cl j hjl).1 (by simp)
       have j1 := GJ.out.cell (cl j hjl).2 (by simp)
       have z0 : (0 : Int) <= (j : Int) := by omega
       have z1 : (j : Int) < (i : Int) := by omega
       have HT : Hid (hasD (l.take (j + 1)) q.sh q.nu = (hasD (l.take j) q.sh q.nu || decide (l[j].sh = q.sh /\ l[j].nu = q.nu))) := Hid.mk' (by
        unfold hasD
        rw [List.take_succ_eq_append_getElem hjl, List.any_append]
        simp)
       clear cl
       obtain ⟨dj, hdj⟩ : ∃ dj, l[j] = dj := ⟨_, rfl⟩
       rw [hdj] at j0 j1 HT
       clear hdj
       generalize hasD (l.take j) q.sh q.nu = H at HT ⊢
       cases H
       ·by_cases e1 : dj.sh = q.sh
        ·by_cases e2 : dj.nu = q.nu
         ·rw [e1] at j0
          rw [e2] at j1
          go_wp2_with fail
          go_quiet (fail)
          go_wp2
          refine ⟨⟨j + 1, by omega, by go_num, ?_, grownBy_drewN GJ.out nq⟩, by simp [intOf]; omega⟩
          rw [HT.out]; simp [e1, e2]
         ·have e2' : (dj.nu == q.nu) = false := by simpa using e2
          rw [e1] at j0
          go_wp2_with fail
          go_quiet (fail)
          go_wp2
          refine ⟨⟨j + 1, by omega, by go_num, ?_, grownBy_drewN GJ.out nq⟩, by simp [intOf]; omega⟩
          rw [HT.out]; simp [e2]
        ·have e1' : (dj.sh == q.sh) = false := by simpa using e1
         go_wp2_with fail
         go_quiet (fail)
         go_wp2
         refine ⟨⟨j + 1, by omega, by go_num, ?_, grownBy_drewN GJ.out nq⟩, by simp [intOf]; omega⟩
         rw [HT.out]; simp [e1]
       ·go_wp2_with fail
        go_quiet (fail)
        go_wp2
        refine ⟨⟨j + 1, by omega, by go_num, ?_, grownBy_drewN GJ.out nq⟩, by simp [intOf]; omega⟩
        rw [HT.out]; simp
      ·obtain rfl : j = i := by omega
       have z1 : ¬ (j : Int) < (j : Int) := by omega
       have tt : l.take j = l := List.take_of_length_le (by rw [HL.out]; omega)
       have RX := Hid.mk' (RN.out.grown GJ.out)
       rw [tt]
       by_cases w1' : q.how = 1
       ·have th : hasD l q.sh q.nu = true := TH.out q (by rw [<- HQ.out]; exact List.getElem_mem hnl) w1'
        have SM : Hid (knS K1 l (n + 1) = knS K1 l n) := Hid.mk' (knS_same hnl (by rw [HQ.out, w1']; decide))
        rw [th]
        rw [w1'] at q2
        go_wp2
        exact ⟨⟨n + 1, by omega, by go_num, by rw [SM.out]; exact RX.out⟩, by simp [intOf]; omega⟩
       ·have b1 : (q.how == 1) = false := by simpa using w1'
        by_cases w3' : q.how = 3
        ·have hfz : ∀ o, wr.frozen? ⟨kg, o, none⟩ = false := fun o => by
          have := (CC.out.1.grown GJ.out).ow
          unfold OwnK at this
          rw [show ({ kp with kn := knS K1 l n } : Kp).kn.length = N from by show (knS K1 l n).length = N; rw [knS_len, HN1.out]] at this
          exact this.frozenAt o
         have hl0 : ({ kp with kn := knS K1 l n } : Kp).kn.length = N := by show (knS K1 l n).length = N; rw [knS_len, HN1.out]
         have Y := CC.out
         have G1 := GJ.out
         have gg : 0 < l.length -> ¬ kF bk (.slice (some ⟨kg, 0, none⟩) N kc) E2 g /\ g < wr.heap.size := fun hp => ⟨(Y.2.2.2 hp).1, Nat.lt_of_lt_of_le (Y.2.2.2 hp).2 G1.size⟩
         have S1 := Hid.mk' (RL.how (Y.1.grown G1) (Y.2.1.trans (KS.grown G1)) (Y.2.2.1.only (Only.grown G1) (by simp)) gg hl0 n 2 hnN)
         rw [w3'] at q2
         have klt3 : kg < wr.heap.size := by have := GL.out; have := GJ.out.size; omega
         clear Y G1 gg
         cases hh : hasD l q.sh q.nu
         ·have SM : Hid (knS K1 l (n + 1) = (knS K1 l n).modify n (fun q => { q with how := 2 })) := Hid.mk' (knS_how hnl (by rw [HQ.out]; exact w3') 2 (by rw [HQ.out, hh]; rfl))
          go_wp2
          refine ⟨⟨n + 1, by omega, by go_num, ?_⟩, by simp [intOf]; omega⟩
          rw [SM.out]
          exact ⟨_, E2, S1.out⟩
         ·have SM : Hid (knS K1 l (n + 1) = (knS K1 l n).modify n (fun q => { q with how := 1 })) := Hid.mk' (knS_how hnl (by rw [HQ.out]; exact w3') 1 (by rw [HQ.out, hh]; rfl))
          have S2 := Hid.mk' (RL.how S1.out.1 S1.out.2.1 S1.out.2.2.1 S1.out.2.2.2 (by show ((knS K1 l n).modify n _).length = N; rw [List.length_modify, knS_len, HN1.out]) n 1 hnN)
          have ne : ¬ kg = bk := fun e => (CC.out.1.nv kg rfl).2 e
          have ne' : ¬ bk = kg := fun e => (CC.out.1.nv kg rfl).2 e.symm
          go_wp2
          refine ⟨⟨n + 1, by omega, by go_num, ?_⟩, by simp [intOf]; omega⟩
          rw [SM.out]
          have := S2.out
          have em : (({ kp with kn := knS K1 l n } : Kp).how n 2).how n 1 = { kp with kn := (knS K1 l n).modify n (fun q => { q with how := 1 }) } := by
           unfold Kp.how
           congr 1
           apply List.ext_getElem
           ·simp only [List.length_modify]
           ·intro m h1 h2
            simp only [List.getElem_modify]
            split <;> rfl
          rw [em] at this
          exact ⟨_, E2, this⟩
        ·have b3 : (q.how == 3) = false := by simpa using w3'
         have SM : Hid (knS K1 l (n + 1) = knS K1 l n) := Hid.mk' (knS_same hnl (by rw [HQ.out]; exact w3'))
         go_wp2
         exact ⟨⟨n + 1, by omega, by go_num, by rw [SM.out]; exact RX.out⟩, by simp [intOf]; omega⟩
    ·obtain rfl : n = N := by omega
     have n1 : ¬ (n : Int) < (n : Int) := by omega
     have c2 := kx.at_.c 2 _ rfl
     have c3 := kx.at_.c 3 _ rfl
     have fK := kx.at_.f
     have CC := Hid.mk' (And.intro kx ks)
     clear kx ks cl hg hK off0
     go_wp2_with fail
     have X : Hid (KM w ((w3.setCell ⟨bk, 2, none⟩ (.bool false)).setCell ⟨bk, 3, none⟩ (.bool false)) bk bp vk D (.slice ka n kc) ⟨knS K1 l n, false, false, kp.m0, kp.m1⟩ p) :=
      Hid.mk' (((KX.kn1 CC.out.1 CC.out.2).put (k' := ⟨knS K1 l n, false, kp.d1, kp.m0, kp.m1⟩) 2 (.bool false) (by omega) rfl rfl).put (k' := ⟨knS K1 l n, false, false, kp.m0, kp.m1⟩) 3 (.bool false) (by omega) rfl rfl)
     generalize (w3.setCell ⟨bk, 2, none⟩ (.bool false)).setCell ⟨bk, 3, none⟩ (.bool false) = W3 at X ⊢
     obtain ⟨E, hx, hs⟩ := X.out
     have R1 := rises_any bk bp _ E _ p W3 hx UP.out.1 UP.out.2
     rw [RS.out ⟨knS K1 l n, false, false, kp.m0, kp.m1⟩ rfl rfl] at R1
     have HS := Hid.mk' hs
     have R2 := Hid.mk' R1
     clear R1 hx hs X c2 c3 fK kc1
     refine Calls.mono R2.out ?_
     rintro e w4 ⟨rfl, vk', E', x1, x2, x3⟩
     have N4 : Hid (KN w w4 bk bp vk D ⟨knS K1 l n, false, false, p.marks 0, p.marks 1⟩ p) := Hid.mk' (KS.kn (HS.out.trans ⟨x2, x3⟩) x1)
     clear x1 x2 x3
     go_wp2
     go_ret
     have er : kp.right l (p.marks 0) (p.marks 1) = ⟨knS K1 l n, false, false, p.marks 0, p.marks 1⟩ := by
      unfold Kp.right
      rw [HK1.out, <- HN1.out, knS_all]
     rw [er]
     exact ⟨rfl, N4.out⟩
theorem places_down (bk bp : Nat) (vk : Value) (D : Nat -> Prop) (kp : Kp) (p : Pr) (w : World) (h : KX w bk bp vk D kp p) (hd : ¬ (p.upE 0 = 0 /\ p.upE 1 = 0)) :
  Calls Tryz.prog 26 #[.pointer (some ⟨bk, 0, none⟩)] w fun e w' => e = .returned (.tuple #[.slice none 0 0, .bool false]) /\ w.grownBy w' none := by
 have H := Hid.mk' h
 have c0 := h.at_.c 0 _ rfl
 have hlt := h.at_.lt
 have C0 := Hid.mk' fun W (g : w.grownBy W none) => marks_px (h.grown g).pw 0
 have C1 := Hid.mk' fun W (g : w.grownBy W none) => marks_px (h.grown g).pw 1
 unfold mkV at C0 C1
 generalize p.marks 0 = a at C0
 generalize p.marks 1 = b at C1
 generalize p.upE 0 = U0 at C0 hd
 generalize p.upE 1 = U1 at C1 hd
 have G0 := Hid.mk' (World.grownBy_alloc w (.cells #[.int .i64 0, .int .i64 0, .int .i64 0, .int .i64 0, .int .i64 0, .int .i64 0, .int .i64 0, .int .i64 0, .int .i64 0, .int .i64 0] 45) none)
 have A0 := Hid.mk' (At.new w [.int .i64 0, .int .i64 0, .int .i64 0, .int .i64 0, .int .i64 0, .int .i64 0, .int .i64 0, .int .i64 0, .int .i64 0, .int .i64 0] 45)
 clear h
 go_enter Tryz.func26, Tryz.ntmps26
 go_wp2_with fail
 refine wp_loop_rounds 3 ?_
 rw [rounds_succ]
 go_wp2_with fail
 refine Calls.mono (C0.out _ G0.out) ?_
 rintro e w1 ⟨rfl, g1⟩
 have G1 := Hid.mk' (G0.out.trans g1)
 have A1 := Hid.mk' (A0.out.grown g1)
 clear g1
 by_cases u0 : U0 = 0
 ·subst u0
  have u1 : ¬ U1 = 0 := fun e => hd ⟨rfl, e⟩
  have n0 := A1.out.c 0 _ rfl
  have n1 := A1.out.c 1 _ rfl
  have n2 := A1.out.c 2 _ rfl
  have n3 := A1.out.c 3 _ rfl
  have n4 := A1.out.c 4 _ rfl
  have nf := A1.out.f
  have nlt := A1.out.lt
  have nne : ¬ w.heap.size = w1.heap.size := by omega
  have nne' : ¬ w1.heap.size = w.heap.size := by omega
  have P : Hid (w.grownBy (((((((w1.setCell ⟨w.heap.size, 0, none⟩ (.int .i64 a.g)).setCell ⟨w.heap.size, 1, none⟩ (.int .i64 a.m)).setCell ⟨w.heap.size, 2, none⟩ (.int .i64 a.s)).setCell ⟨w.heap.size, 3, none⟩ (.int .i64 a.a)).setCell ⟨w.heap.size, 4, none⟩ (.int .i64 a.n))).alloc (.cells #[.int .i64 a.g, .int .i64 a.m, .int .i64 a.s, .int .i64 a.a, .int .i64 a.n] 44)) none) := by
   have o1 : Only w w1 (fun j => w.heap.size <= j) := (Only.grown G1.out).mono (by simp)
   have o2 := Only.set5 w1 w.heap.size 0 (.int .i64 a.g) (.int .i64 a.m) (.int .i64 a.s) (.int .i64 a.a) (.int .i64 a.n)
   have o3 := (o1.trans (o2.mono (fun j _ e => .inl (by omega)))).trans ((Only.grown (World.grownBy_alloc _ (.cells #[.int .i64 a.g, .int .i64 a.m, .int .i64 a.s, .int .i64 a.a, .int .i64 a.n] 44) none)).mono (by simp))
   exact Hid.mk' (o3.fresh (fun k hk e => by omega))
  go_wp2_with fail
  generalize (((((((w1.setCell ⟨w.heap.size, 0, none⟩ (.int .i64 a.g)).setCell ⟨w.heap.size, 1, none⟩ (.int .i64 a.m)).setCell ⟨w.heap.size, 2, none⟩ (.int .i64 a.s)).setCell ⟨w.heap.size, 3, none⟩ (.int .i64 a.a)).setCell ⟨w.heap.size, 4, none⟩ (.int .i64 a.n))).alloc (.cells #[.int .i64 a.g, .int .i64 a.m, .int .i64 a.s, .int .i64 a.a, .int .i64 a.n] 44)) = w2 at P ⊢
  clear n0 n1 n2 n3 n4 nf nlt nne nne'
  have c2 := (H.out.at_.grown P.out).c 0 _ rfl
  rw [rounds_succ]
  go_wp2_with fail
  refine Calls.mono (C1.out _ P.out) ?_
  rintro e w3 ⟨rfl, g3⟩
  have G3 := Hid.mk' (P.out.trans g3)
  have nb : (U1 == 0) = false := by simpa using u1
  clear g3 u1 hd
  go_wp2
  exact bodyPost_ret (v := .tuple #[.slice none 0 0, .bool false]) (by simp [results, Tryz.results26, go_sem]) rfl ⟨rfl, G3.out.trans (World.grownBy_alloc _ _ none)⟩
 ·have nb : (U0 == 0) = false := by simpa using u0
  clear u0 hd
  go_wp2
  exact bodyPost_ret (v := .tuple #[.slice none 0 0, .bool false]) (by simp [results, Tryz.results26, go_sem]) rfl ⟨rfl, G1.out.trans (World.grownBy_alloc _ _ none)⟩
theorem right_down (bk bp : Nat) (vk : Value) (D : Nat -> Prop) (kp : Kp) (p : Pr) (w : World) (h : KX w bk bp vk D kp p) (hd : ¬ (p.upE 0 = 0 /\ p.upE 1 = 0)) :
  Calls Tryz.prog 25 #[.pointer (some ⟨bk, 0, none⟩)] w fun e w' => e = .returned (.bool true) /\ w.grownBy w' none := by
 have P1 := Hid.mk' (places_down bk bp vk D kp p w h hd)
 clear h hd
 go_enter Tryz.func25, Tryz.ntmps25
 go_wp2_with fail
 refine Calls.mono P1.out ?_
 rintro e w1 ⟨rfl, g1⟩
 have G1 := Hid.mk' g1
 clear g1
 go_wp2
 go_ret
 exact ⟨rfl, G1.out⟩
def KB (l : List Kn) : Prop := ∀ q ∈ l, 0 <= q.nu
structure OI (k : Kp) (p : Pr) : Prop where
 gd : PGd p
 w : WP p 0
 ki : KI k p
 kb : KB k.kn
section
variable {k : Kp} {p : Pr} {i : Int}
theorem mint_lo (gd : PGd p) (i : Int) (pl sp : Nat) : 0 <= (p.mint i pl sp).1.2.1 := by
 unfold Pr.mint
 split
 ·rename_i hu
  obtain ⟨hi, up⟩ := upE_at hu
  obtain ⟨⟨r, g⟩, _⟩ := gd.at hi
  obtain ⟨_, _, _, _, _, has, _⟩ := g.has up
  have m0 : 0 <= (p.sh i).ms.m := has.mo.m0
  unfold Sh.mint
  split
  ·exact Int.le_refl _
  split
  ·exact Int.le_refl _
  split
  ·show 0 <= (p.sh i).ms.m + 1
   omega
  ·exact Int.le_refl _
 ·exact Int.le_refl _
theorem how_kb (h : KB k.kn) (n : Nat) (v : Int) : KB (k.how n v).kn := fun q hq => by
 have hq' : q ∈ k.kn.modify n (fun q => { q with how := v }) := hq
 obtain ⟨j, hj, rfl⟩ := List.getElem_of_mem hq'
 rw [List.length_modify] at hj
 rw [List.getElem_modify]
 have := h k.kn[j] (List.getElem_mem hj)
 split <;> exact this
theorem minted_kb (h : KB k.kn) (i up x y e : Int) (hy : 0 <= y) : KB (k.minted i up x y e).2.kn := by
 unfold Kp.minted
 split
 ·exact h
 split
 ·have e : (k.doubt i).kn = k.kn := by unfold Kp.doubt; split <;> rfl
  show KB (k.doubt i).kn
  rw [e]
  exact h
 split
 ·exact h
 split
 ·exact h
 ·intro q hq
  rcases List.mem_append.1 (show q ∈ k.kn ++ [(⟨x, y, 1⟩ : Kn)] from hq) with hq | hq
  ·exact h q hq
  ·obtain rfl : q = ⟨x, y, 1⟩ := by simpa using hq
   exact hy
theorem destroyed_kb (h : KB k.kn) (n : Nat) (q up e : Int) : KB (k.destroyed n q up e).2.kn := by
 unfold Kp.destroyed
 split
 ·exact h
 split
 ·exact how_kb h n 2
 split
 ·show KB (if q = 1 then k.how n 3 else k).kn
  split
  ·exact how_kb h n 3
  ·exact h
 ·exact h
theorem kAct_kb (gd : PGd p) (h : KB k.kn) (K i n m : Int) (pl sp : Nat) : KB (kAct k p K i n m pl sp).2.1.kn := by
 unfold kAct
 split
 ·exact minted_kb h _ _ _ _ _ (mint_lo gd _ _ _)
 split
 ·split
  ·exact h
  ·exact destroyed_kb h _ _ _ _
 ·exact h
theorem pl_lo (gd : PGd p) : ∀ x ∈ p.pl, 0 <= x.nu := by
 have one : ∀ i, is01 i -> (∀ x ∈ (p.ls i).it, 0 <= x.nu) /\ ∀ e ∈ (p.ls i).ob, 0 <= e.it.nu := fun i hi => by
  obtain ⟨⟨r, g⟩, _⟩ := gd.at hi
  have has := lasts_has g
  refine ⟨fun x hx => ?_, fun e he => ?_⟩
  ·have := idB_ok (it_parts (has.it x hx).1).1
   omega
  ·have := idB_ok (it_parts (has.en e he).1).1
   omega
 have there : ∀ i, is01 i -> ∀ e : Ds, ∀ x ∈ thereD (p.ls i) e, 0 <= x.nu := fun i hi e x hx => by
  unfold thereD cnt at hx
  rcases List.mem_append.1 hx with hx | hx
  ·obtain ⟨y, hy, rfl⟩ := List.mem_map.1 hx
   exact (one i hi).1 y hy
  ·obtain ⟨y, hy, rfl⟩ := List.mem_map.1 hx
   exact (one i hi).2 y (List.mem_filter.1 hy).1
 intro x hx
 rcases List.mem_append.1 (show x ∈ thereD (p.ls 0) (p.ls 1) ++ thereD (p.ls 1) (p.ls 0) from hx) with hx | hx
 ·exact there 0 (.inl rfl) _ x hx
 ·exact there 1 (.inr rfl) _ x hx
theorem OI.top (h : OI k p) : ∀ q ∈ k.kn, is01 q.sh /\ 0 <= q.nu /\ q.nu <= 65535 := fun q hq => by
 obtain ⟨⟨r0, g0⟩, _⟩ := h.gd.at (i := 0) (.inl rfl)
 obtain ⟨⟨r1, g1⟩, _⟩ := h.gd.at (i := 1) (.inr rfl)
 have a0 : (p.ls 0).ms.m <= 65535 := (lasts_has g0).mo.m1
 have a1 : (p.ls 1).ms.m <= 65535 := (lasts_has g1).mo.m1
 rcases h.ki.id q hq with ⟨e, b⟩ | ⟨e, b⟩
 ·exact ⟨.inl e, h.kb q hq, by omega⟩
 ·exact ⟨.inr e, h.kb q hq, by omega⟩
theorem OI.ok (h : OI k p) : KnOk k.kn := fun q hq => by
 obtain ⟨a, b, c⟩ := h.top q hq
 refine ⟨?_, by unfold i64B; omega⟩
 rcases a with e | e <;> rw [e] <;> exact ⟨by decide, by decide⟩
theorem OI.len (h : OI k p) : k.kn.length <= 131072 := by
 have nd : (k.kn.map (fun q => q.sh.toNat * 65536 + q.nu.toNat)).Nodup := by
  unfold List.Nodup
  rw [List.pairwise_map]
  refine List.Pairwise.imp_of_mem (fun {a b} ha hb hab e => ?_) h.ki.nd
  obtain ⟨a1, a2, a3⟩ := h.top a ha
  obtain ⟨b1, b2, b3⟩ := h.top b hb
  refine hab (dd_ext ?_ ?_)
  ·show a.sh = b.sh
   rcases a1 with a1 | a1 <;> rcases b1 with b1 | b1 <;> rw [a1, b1] at e ⊢ <;> simp at e ⊢ <;> omega
  ·show a.nu = b.nu
   rcases a1 with a1 | a1 <;> rcases b1 with b1 | b1 <;> rw [a1, b1] at e <;> simp at e <;> omega
 have := room 131072 _ nd (fun x hx => by
  obtain ⟨q, hq, rfl⟩ := List.mem_map.1 hx
  obtain ⟨a1, a2, a3⟩ := h.top q hq
  rcases a1 with a1 | a1 <;> rw [a1] <;> simp <;> omega)
 rwa [List.length_map] at this
theorem OI.act (h : OI k p) (hi : is01 i) (K n m : Int) (pl sp : Nat) (hm : i64B m) (hp : pl < 4294967296) (hq : sp < 4294967296) : (kAct k p K i n m pl sp).1 = true /\ OI (kAct k p K i n m pl sp).2.1 (kAct k p K i n m pl sp).2.2 := by
 have a := kAct_inv h.gd h.w h.ki hi K n m pl sp hp hq
 have b := kAct_keep (k := k) h.gd h.ok K i n m pl sp hm hp hq
 exact ⟨a.1, b.1.gd, a.2.1, a.2.2, kAct_kb h.gd h.kb K i n m pl sp⟩
theorem OI.quiet {q : Pr} (h : OI k p) (g : QP p q) (gd : PGd q) : OI k q := ⟨gd, g.w, h.ki.quiet g, h.kb⟩
theorem OI.right (h : OI k p) : OI (k.right p.pl (p.ls 0).ms (p.ls 1).ms) p := by
 refine ⟨h.gd, h.w, right_inv h.w h.ki, fun z hz => ?_⟩
 obtain ⟨q, hq, rfl⟩ := List.mem_map.1 (show z ∈ (newK k.kn p.pl).map (settle p.pl) from hz)
 rw [(settle_dd _ q).2.2]
 rcases newK_mem hq with hq | ⟨d, hd, _, rfl⟩
 ·exact h.kb q hq
 ·exact pl_lo h.gd d hd
end
section
variable {w wr : World} {bk bp : Nat} {k : Kp} {p : Pr}
theorem KQ.act (h : KQ w bk bp wr k p) (oi : OI k p) (a : Al) (oka : a.Ok) : Calls Tryz.prog 12 #[.pointer (some ⟨bk, 0, none⟩), acV a.K a.sh a.k a.m a.x a.y a.pl a.sp a.t] wr fun e w' => ∃ k' p', e = .returned (.bool true) /\ KQ w bk bp w' k' p' /\ OI k' p' := by
 obtain ⟨vk, D, hx, gd, hF, ho⟩ := h
 have A := oi.act (pick_is01 a.sh) a.K a.k a.m a.pl a.sp oka.m oka.pl oka.sp
 have ln := oi.len
 refine (kact_any bk bp vk D k p a.K a.sh a.k a.m a.x a.y a.pl a.sp a.t wr hx gd oka.sh oka.k oka.pl oka.sp (by omega) oi.ok).mono ?_
 rintro e w' ⟨rfl, n⟩
 rw [A.1]
 exact ⟨_, _, rfl, KQ.kn A.2.gd hF ho n, A.2⟩
theorem KQ.right (h : KQ w bk bp wr k p) (oi : OI k p) : Calls Tryz.prog 25 #[.pointer (some ⟨bk, 0, none⟩)] wr fun e w' => ∃ k', e = .returned (.bool true) /\ KQ w bk bp w' k' p /\ OI k' p := by
 have h' := h
 obtain ⟨vk, D, hx, gd, hF, ho⟩ := h
 by_cases hu : p.upE 0 = 0 /\ p.upE 1 = 0
 ·obtain ⟨h0, h1⟩ := hu
  obtain ⟨t1, t2, t3⟩ := told_pl gd h0 h1
  have ln := oi.len
  have pn : p.pl.length <= 4000 := by
   rw [<- t1]
   have a := told_ok gd 0
   have b := told_ok gd 1
   unfold Pr.there
   simp only [List.length_append, List.length_map]
   have c := List.length_filter_le (fun e => decide ((p.marks (1 - 0)).n < e.sq)) (p.outbox 0)
   have d := List.length_filter_le (fun e => decide ((p.marks (1 - 1)).n < e.sq)) (p.outbox 1)
   omega
  refine (right_any bk bp vk D k p wr p.pl hx h0 h1 (by omega) (right_ok oi.w oi.ki) (fun K e0 e1 => ?_) (fun W hW => ?_)).mono ?_
  ·have rm := right_marks oi.w oi.ki
   unfold Kp.rises
   rw [t2, t3, e0, e1, if_neg (by rw [rm.1]; simp), if_neg (by rw [rm.2]; simp)]
  ·rw [<- t1]
   exact places_any bk bp vk D k p W hW gd h0 h1 (fun i => ⟨(told_ok gd i).1.1, (told_ok gd i).2.1⟩)
  ·rintro e w' ⟨rfl, n⟩
   rw [t2, t3] at n
   exact ⟨_, rfl, KQ.kn gd hF ho n, oi.right⟩
 ·refine (right_down bk bp vk D k p wr hx hu).mono ?_
  rintro e w' ⟨rfl, g⟩
  exact ⟨k, rfl, h'.grown g, oi⟩
theorem KQ.places (h : KQ w bk bp wr k p) (h0 : p.upE 0 = 0) (h1 : p.upE 1 = 0) : Calls Tryz.prog 26 #[.pointer (some ⟨bk, 0, none⟩)] wr fun e w' => ∃ v, e = .returned (.tuple #[v, .bool true]) /\ (∃ a n c, v = .slice a n c) /\ KQ w bk bp w' k p := by
 have h' := h
 obtain ⟨vk, D, hx, gd, hF, ho⟩ := h
 refine (places_any bk bp vk D k p wr hx gd h0 h1 (fun i => ⟨(told_ok gd i).1.1, (told_ok gd i).2.1⟩)).mono ?_
 rintro e w' ⟨v, rfl, o, g⟩
 obtain ⟨a, c, e⟩ := slice_len o
 exact ⟨v, rfl, ⟨a, _, c, e⟩, h'.grown g⟩
end
structure EX (i : Int) (d : Ds) : Prop where
 len : (d.ob.length : Int) = d.ms.s - d.ms.a
 sq : ∀ n (h : n < d.ob.length), d.ob[n].sq = d.ms.a + 1 + n
 sd : ∀ e ∈ d.ob, sideB e.it.pl = 1 - i
theorem side_01 (x : Nat) : sideB x = 0 ∨ sideB x = 1 := by
 unfold sideB
 split
 ·exact .inl rfl
 ·exact .inr rfl
theorem EX.same {i : Int} {d e : Ds} (h : EX i d) (g : d.sameG e) : EX i e := by
 obtain ⟨_, g2, _, g4, g5, _⟩ := g
 refine ⟨by rw [g2, g4, g5]; exact h.len, fun n hn => ?_, by rw [g2]; exact h.sd⟩
 have hn' : n < d.ob.length := by rw [<- g2]; exact hn
 have := h.sq n hn'
 rw [g5, <- this]
 congr 1
 exact List.getElem_of_eq g2 hn
theorem EX.tickOne {no : Nat} {cO : Int} (hno : (no : Int) = 0 ∨ (no : Int) = 1) {a : Ds} (h : EX no a) (x : It) : EX no (a.tickOne no cO x) := by
 unfold Ds.tickOne
 split
 ·exact ⟨h.len, h.sq, h.sd⟩
 split
 ·exact ⟨h.len, h.sq, h.sd⟩
 rename_i ns
 split
 ·refine ⟨?_, fun n hn => ?_, fun e he => ?_⟩
  ·show ((a.ob ++ [_]).length : Int) = a.ms.s + 1 - a.ms.a
   rw [List.length_append]
   have := h.len
   simp
   omega
  ·show (a.ob ++ [_])[n].sq = a.ms.a + 1 + n
   by_cases c : n < a.ob.length
   ·rw [List.getElem_append_left c]
    exact h.sq n c
   ·have hn' : n < (a.ob ++ [(⟨a.ms.s + 1, ⟨x.sh, x.nu, addF x.pl x.sp, x.sp⟩⟩ : En)]).length := hn
    rw [List.length_append] at hn'
    simp at hn'
    have e : n = a.ob.length := by omega
    subst e
    have := h.len
    simp
    omega
  ·rcases List.mem_append.1 (show e ∈ a.ob ++ [(⟨a.ms.s + 1, ⟨x.sh, x.nu, addF x.pl x.sp, x.sp⟩⟩ : En)] from he) with he | he
   ·exact h.sd e he
   ·obtain rfl : e = ⟨a.ms.s + 1, ⟨x.sh, x.nu, addF x.pl x.sp, x.sp⟩⟩ := by simpa using he
    show sideB (addF x.pl x.sp) = 1 - no
    have := side_01 (addF x.pl x.sp)
    omega
 ·exact ⟨h.len, h.sq, h.sd⟩
theorem EX.ticks {no : Nat} {cO : Int} (hno : (no : Int) = 0 ∨ (no : Int) = 1) : ∀ (q : List It) (a : Ds), EX no a -> EX no (q.foldl (Ds.tickOne no cO) a)
 | [], _, h => h
 | x :: q, a, h => EX.ticks hno q (a.tickOne no cO x) (h.tickOne hno x)
theorem keep_drop {d : Ds} (len : (d.ob.length : Int) = d.ms.s - d.ms.a) (sq : ∀ n (h : n < d.ob.length), d.ob[n].sq = d.ms.a + 1 + n) (q : Int) (h1 : d.ms.a < q) (h2 : q <= d.ms.s) : keepE q d.ob = d.ob.drop (q - d.ms.a).toNat := by
 have hs : d.ob = d.ob.take (q - d.ms.a).toNat ++ d.ob.drop (q - d.ms.a).toNat := (List.take_append_drop _ _).symm
 unfold keepE
 conv => lhs; rw [hs]
 rw [List.filter_append, List.filter_eq_nil_iff.2, List.filter_eq_self.2, List.nil_append]
 ·intro e he
  obtain ⟨n, hn, rfl⟩ := List.getElem_of_mem he
  rw [List.getElem_drop]
  rw [List.length_drop] at hn
  have := sq ((q - d.ms.a).toNat + n) (by omega)
  rw [gone_iff]
  simp
  omega
 ·intro e he
  obtain ⟨n, hn, rfl⟩ := List.getElem_of_mem he
  rw [List.getElem_take]
  rw [List.length_take] at hn
  have := sq n (by omega)
  rw [gone_iff]
  simp
  omega
theorem EX.doR {no : Nat} {cI cO : Int} (hno : (no : Int) = 0 ∨ (no : Int) = 1) {d : Ds} {rc : Rc} (h : EX no d) (ok : DOk no cI d rc) : EX no (d.doR no cO rc) := by
 unfold Ds.doR
 split
 ·exact ⟨h.len, h.sq, h.sd⟩
 split
 ·exact ⟨h.len, h.sq, h.sd⟩
 split
 ·exact EX.ticks hno d.it _ ⟨h.len, h.sq, h.sd⟩
 split
 ·exact ⟨h.len, h.sq, h.sd⟩
 split
 ·rename_i k5
  obtain ⟨a1, a2⟩ := ok.ack k5
  have kd := keep_drop h.len h.sq rc.seq a1 a2
  have len := h.len
  refine ⟨?_, fun n hn => ?_, fun e he => h.sd e (keepE_mem he).1⟩
  ·show ((keepE rc.seq d.ob).length : Int) = d.ms.s - rc.seq
   rw [kd, List.length_drop]
   omega
  ·show (keepE rc.seq d.ob)[n].sq = rc.seq + 1 + n
   have hn' : n < (keepE rc.seq d.ob).length := hn
   rw [kd, List.length_drop] at hn'
   have e : (keepE rc.seq d.ob)[n] = d.ob[(rc.seq - d.ms.a).toNat + n]'(by omega) := by
    rw [List.getElem_of_eq kd hn, List.getElem_drop]
   rw [e, h.sq _ (by omega)]
   omega
 ·exact h
def Sp (s : Sh) (d e : Ds) : Prop := d.sameG e ∨ ∃ rc, DOk s.no s.cI d rc /\ e = d.doR s.no s.cO rc
def PE (p : Pr) : Prop := EX 0 (p.ls 0) /\ EX 1 (p.ls 1)
section
variable {p q : Pr} {i : Int}
theorem EX.step {s : Sh} {d e : Ds} (hi : is01 i) (hs : (s.no : Int) = i) (h : EX i d) (g : Sp s d e) : EX i e := by
 rcases g with g | ⟨rc, ok, rfl⟩
 ·exact h.same g
 ·rw [<- hs] at h ⊢
  exact h.doR (by rw [hs]; exact hi) ok
theorem PE.at (h : PE p) (hi : is01 i) : EX i (p.ls i) := by
 rcases hi with rfl | rfl
 ·exact h.1
 ·exact h.2
theorem PE.set {s : Sh} (gd : PGd p) (h : PE p) (hi : is01 i) (g : Sp (p.sh i) (p.ls i) s.lasts) : PE (p.setSh i s) := by
 have e := EX.step hi (gd.at hi).2 (h.at hi) g
 rcases hi with rfl | rfl
 ·exact ⟨e, h.2⟩
 ·exact ⟨h.1, e⟩
theorem PE.flown (h : PE p) (e0 : q.s0 = p.s0) (e1 : q.s1 = p.s1) : PE q := by
 have l0 : q.ls 0 = p.ls 0 := by show q.s0.lasts = p.s0.lasts; rw [e0]
 have l1 : q.ls 1 = p.ls 1 := by show q.s1.lasts = p.s1.lasts; rw [e1]
 unfold PE
 rw [l0, l1]
 exact h
theorem jrn_sp {rc : Rc} (gd : PGd p) (hi : is01 i) (hu : (p.sh i).up = true) (tp : Told rc) (ok : DOk (p.sh i).no (p.sh i).cI (p.sh i).ds rc) : Sp (p.sh i) (p.ls i) ((p.sh i).jrn rc).2.lasts := by
 obtain ⟨⟨r, g⟩, _⟩ := gd.at hi
 have lu : p.ls i = (p.sh i).ds := lasts_up g hu
 rw [lu]
 rcases jrn_step g hu tp ok with ⟨_, e⟩ | ⟨_, _, e | e⟩ | ⟨_, u, e⟩
 ·rw [e, lasts_up g hu]; exact .inl (Ds.sameG_refl _)
 ·rw [e]; exact .inl (Ds.sameG_refl _)
 ·rw [e]; exact .inr ⟨rc, ok, rfl⟩
 ·rw [lasts_up (jrn_good g hu tp ok).2 u, e]; exact .inr ⟨rc, ok, rfl⟩
theorem onUp_e (h : PE p) (i : Int) (f : Sh -> Int × Sh) (hf : p.upE i = 0 -> PE (p.setSh i (f (p.sh i)).2)) : PE (p.onUp i f).2 := by
 unfold Pr.onUp
 split
 ·rename_i hu; exact hf hu
 ·exact h
theorem tick_e (gd : PGd p) (h : PE p) (i : Int) : PE (p.tick i).2 := onUp_e h i _ fun hu => by
 obtain ⟨hi, up⟩ := upE_at hu
 exact PE.set gd h hi (jrn_sp gd hi up told_tick ⟨.inr (.inr (.inl rfl)), fun e => absurd e (by decide), fun e => absurd e (by decide), by unfold i64B tickRec it0; simp, fun e => absurd e (by decide), fun e => absurd e (by decide)⟩)
theorem snap_e (gd : PGd p) (h : PE p) (i : Int) : PE (p.snap i).2 := onUp_e h i _ fun hu => by
 obtain ⟨hi, up⟩ := upE_at hu
 obtain ⟨⟨r, g⟩, _⟩ := gd.at hi
 exact PE.set gd h hi (.inl (by rw [ls_up gd hi up]; exact snap_step g up))
theorem crash_e (gd : PGd p) (h : PE p) (i n : Int) : PE (p.crash i n).2 := onUp_e h i _ fun hu => by
 obtain ⟨hi, up⟩ := upE_at hu
 obtain ⟨⟨r, g⟩, _⟩ := gd.at hi
 have e : ((p.sh i).down.on ((p.sh i).dk.crash n)).lasts = p.ls i := lasts_crash g n
 exact PE.set gd h hi (.inl (by rw [e]; exact Ds.sameG_refl _))
theorem brk_e (gd : PGd p) (h : PE p) (i n m : Int) : PE (p.brk i n m).2 := by
 unfold Pr.brk
 split
 ·rename_i c
  obtain ⟨⟨r, g⟩, _⟩ := gd.at c.1
  have e : ((p.sh i).on { (p.sh i).dk with un := n, kp := m }).lasts = p.ls i := lasts_break g n m
  exact PE.set gd h c.1 (.inl (by rw [e]; exact Ds.sameG_refl _))
 ·exact h
theorem restart_e (gd : PGd p) (h : PE p) (i : Int) : PE (p.restart i).2 := by
 unfold Pr.restart
 split
 ·rename_i c
  obtain ⟨⟨r, g⟩, _⟩ := gd.at c.1
  have e : (p.sh i).restart.lasts = p.ls i := lasts_restart g
  exact PE.set gd h c.1 (.inl (by rw [e]; exact Ds.sameG_refl _))
 ·exact h
theorem send_e (h : PE p) (i : Int) : PE (p.send i).2 := by
 unfold Pr.send
 split
 ·exact h.flown rfl rfl
 ·exact h
end
section
variable {k : Kp} {p : Pr} {i : Int}
theorem KI.marks (h : KI k p) {a b : Mk} (ha : mkLe a (p.ls 0).ms) (hb : mkLe b (p.ls 1).ms) : KI ⟨k.kn, k.d0, k.d1, a, b⟩ p := ⟨h.h1, h.h2, h.dd, h.id, h.nd, ha, hb⟩
end
section
variable (cI cO cJ : Int)
theorem new_w (hv : cfgB cI cO cJ) : WP (Pr.new cI cO cJ) 0 /\ KI ⟨[], false, false, mk0, mk0⟩ (Pr.new cI cO cJ) := by
 have gd := new_gd cI cO cJ hv
 have l0 : (Pr.new cI cO cJ).ls 0 = ⟨[], [], base1.mks⟩ := by
  rw [ls_up gd (.inl rfl) (upE_at (new_up cI cO cJ).1).2]
  show (sh1 0 cI cO cJ).ds = _
  rw [sh1_eq]; rfl
 have l1 : (Pr.new cI cO cJ).ls 1 = ⟨[], [], base1.mks⟩ := by
  rw [ls_up gd (.inr rfl) (upE_at (new_up cI cO cJ).2).2]
  show (sh1 1 cI cO cJ).ds = _
  rw [sh1_eq]; rfl
 have pl : (Pr.new cI cO cJ).pl = [] := by unfold Pr.pl; rw [l0, l1]; rfl
 refine ⟨?_, ?_⟩
 ·show WH 0 ((Pr.new cI cO cJ).ls 0) ((Pr.new cI cO cJ).ls 1) [] []
  have e : PL ((Pr.new cI cO cJ).ls 0) ((Pr.new cI cO cJ).ls 1) = [] := pl
  refine ⟨(by rw [e]; exact List.nodup_nil), (by rw [e]; intro x hx; cases hx), (by rw [l0, l1]; decide), (by rw [l0, l1]; decide), (by rw [l0, l1]; decide), (by rw [l0, l1]; decide), fun t ht => (by cases ht), fun t ht => (by cases ht)⟩
 ·refine ⟨fun q hq => (by cases hq), fun q hq => (by cases hq), (by rw [pl]; intro x hx; cases hx), fun q hq => (by cases hq), .nil, (by rw [l0]; unfold mkLe; decide), (by rw [l1]; unfold mkLe; decide)⟩
theorem kept_oi (hv : cfgB cI cO cJ) (hJ : 400 <= cJ) : OI kpK (prK cI cO cJ) := by
 have hI : 1 <= cI := hv.1.1
 have hO : 1 <= cO := hv.2.1.1
 have g0 := new_gd cI cO cJ hv
 have n0 := new_w cI cO cJ hv
 have sf := sideF_ok (x := 1065353216) (by decide) (i := 0) (.inl rfl)
 have sp := speedF_ok (x := 1073741824) (by decide)
 have m1 := mint_inv g0 n0.1 n0.2 (.inl rfl) (sideF 1065353216 0) (speedF 1073741824) sf.1 sp.1 sf.2 (sideF_lt (by decide) 0) sp.2
 have g1 := (mint_keep g0 0 (sideF 1065353216 0) (speedF 1073741824) (sideF_lt (by decide) 0) sp.2).gd
 rw [kept_mint cI cO cJ hI hJ] at m1 g1
 rw [(new_up cI cO cJ).1] at m1
 dsimp only at m1 g1
 rw [kept_known] at m1
 have q2 := tick_q g1 m1.2.1 0
 have g2 := (tick_keep g1 0).gd
 rw [kept_tick cI cO cJ hO hJ] at q2 g2
 have q3 := send_q g2 q2.w 0
 have g3 := (send_keep g2 0).gd
 rw [kept_send cI cO cJ] at q3 g3
 have q4 := deliver_q g3 q3.w 1 0
 have g4 := (deliver_keep g3 1 0).gd
 rw [kept_deliver cI cO cJ hI hJ] at q4 g4
 have q4' : QP _ (prK cI cO cJ) := q4
 have g4' : PGd (prK cI cO cJ) := g4
 have ki := ((m1.2.2.quiet q2).quiet q3).quiet q4'
 obtain ⟨_, t2, t3⟩ := told_pl g4' (kept_up cI cO cJ).1 (kept_up cI cO cJ).2
 have e2 : (prK cI cO cJ).marks 0 = ⟨1, 1, 1, 0, 0⟩ := by kernel_rfl
 have e3 : (prK cI cO cJ).marks 1 = ⟨1, 0, 0, 0, 1⟩ := by kernel_rfl
 refine ⟨g4', q4'.w, ki.marks (by rw [<- t2, e2]; unfold mkLe; decide) (by rw [<- t3, e3]; unfold mkLe; decide), fun q hq => ?_⟩
 obtain rfl : q = ⟨0, 1, 1⟩ := by simpa [kpK] using hq
 decide
end
theorem KQ.base {w W wr : World} {bk bp : Nat} {k : Kp} {p : Pr} (h : KQ W bk bp wr k p) (g : w.grownBy W none) : KQ w bk bp wr k p := by
 obtain ⟨vk, D, hx, gd, hF, ho⟩ := h
 have z := g.size
 exact ⟨vk, D, hx, gd, fun j hj => Nat.le_trans z (hF j hj), ((Only.grown g).mono (by simp)).trans (ho.mono (fun j _ hj => .inl (Nat.le_trans z hj)))⟩
section
variable {s : Sh} {r : Rs}
def Jr (s t : Sh) : Prop := t = s ∨ ∃ rc, Told rc /\ DOk s.no s.cI s.ds rc /\ t = (s.jrn rc).2
theorem hear_jrn (g : Good s r) (hu : s.up = true) (t : List UInt8) : Jr s (s.hear t).2 := by
 obtain ⟨_, _, _, _, _, has, _⟩ := g.has hu
 unfold Sh.hear
 split
 ·rename_i k7
  obtain ⟨_, q0, q1, hit⟩ := dat_7 k7
  unfold Sh.hearCross
  split
  ·exact .inl rfl
  rename_i n1
  split
  ·exact .inl rfl
  rename_i n2
  have eq : (datP t).seq = s.ms.n + 1 := by omega
  have ma : s.mayArr (datP t).it = true := by
   cases hm : s.mayArr (datP t).it
   ·exact absurd (.inr hm) n2
   ·rfl
  have md := mayArr_ds ma
  have e : (⟨4, (datP t).seq, (datP t).it, mk0, [], []⟩ : Rc) = arrRec (s.ms.n + 1) (datP t).it := by rw [eq]; rfl
  have ok : DOk s.no s.cI s.ds (arrRec (s.ms.n + 1) (datP t).it) := by
   refine ⟨.inr (.inr (.inr (.inl rfl))), fun e => absurd e (by show ¬ (4 : Int) = 1; decide), fun e => absurd e (by show ¬ (4 : Int) = 2; decide), id_i64 (it_parts hit).1, fun _ => ⟨rfl, ?_, md.2.2.2, hit, dat_wf t, md.2.2.1, fun hs => ?_⟩, fun e => absurd e (by show ¬ (4 : Int) = 5; decide)⟩
   ·show s.ms.n < 65535
    omega
   ·exact Int.not_lt.1 (fun hlt => md.2.1 ⟨hs, hlt⟩)
  rw [e]
  split <;> exact .inr ⟨_, told_arr (by omega) (by omega) hit (dat_wf t), ok, rfl⟩
 split
 ·rename_i k8
  obtain ⟨_, z0, z1⟩ := dat_8 k8
  unfold Sh.hearAck
  split
  ·exact .inl rfl
  ·rename_i n1
   exact .inr ⟨ackedRec (datP t).seq, told_acked z0 z1, ⟨.inr (.inr (.inr (.inr rfl))), fun e => absurd e (by show ¬ (5 : Int) = 1; decide), fun e => absurd e (by show ¬ (5 : Int) = 2; decide), by unfold i64B ackedRec it0; simp, fun e => absurd e (by show ¬ (5 : Int) = 4; decide), fun _ => ⟨by show s.ms.a < (datP t).seq; omega, by show (datP t).seq <= s.ms.s; omega⟩⟩, rfl⟩
 ·exact .inl rfl
theorem mint_jrn (g : Good s r) (hu : s.up = true) (pl sp : Nat) (wp : pl < 4294967296) (wq : sp < 4294967296) : Jr s (s.mint pl sp).2 := by
 obtain ⟨_, _, _, _, _, has, _⟩ := g.has hu
 have m0 : 0 <= s.ms.m := has.mo.m0
 have m1 : s.ms.m <= 65535 := has.mo.m1
 unfold Sh.mint
 split
 ·exact .inl rfl
 rename_i c1
 split
 ·exact .inl rfl
 rename_i c
 have hp : nearB pl = true := by cases h : nearB pl <;> simp [h] at c1 ⊢
 have hq : nearB sp = true := by cases h : nearB sp <;> simp [h] at c1 ⊢
 have hm : s.ms.m < 65535 := by omega
 obtain ⟨ib, tp⟩ := told_mint g.no m0 hm hp hq wp wq
 have ok : DOk s.no s.cI s.ds (mintRc s.no s.ms.m pl sp) := by
  refine ⟨.inl rfl, fun _ => ⟨rfl, rfl, hm, ?_, ib, ⟨wp, wq⟩⟩, fun e => absurd e (by show ¬ (1 : Int) = 2; decide), id_i64 (it_parts ib).1, fun e => absurd e (by show ¬ (1 : Int) = 4; decide), fun e => absurd e (by show ¬ (1 : Int) = 5; decide)⟩
  have := (srtTh_perm s.th).length_eq
  show ((srtTh s.th).length : Int) < _
  omega
 split <;> exact .inr ⟨mintRc s.no s.ms.m pl sp, tp, ok, rfl⟩
theorem dest_jrn (g : Good s r) (hu : s.up = true) (x y : Int) : Jr s (s.dest x y).2 := by
 unfold Sh.dest
 split
 ·rename_i ht
  have hx := (has_th (s := s) x y).1 ht
  have dg := dest_good g hu x y ht
  refine .inr ⟨_, told_dest dg.1, ⟨.inr (.inl rfl), fun e => absurd e (by show ¬ (2 : Int) = 1; decide), fun _ => ?_, id_i64 dg.1, fun e => absurd e (by show ¬ (2 : Int) = 4; decide), fun e => absurd e (by show ¬ (2 : Int) = 5; decide)⟩, rfl⟩
  obtain ⟨z, hz, e1, e2⟩ := hx
  exact ⟨z, hz, e1, e2⟩
 ·exact .inl rfl
end
section
variable {p : Pr} {i : Int}
theorem Jr.pe {t : Sh} (gd : PGd p) (h : PE p) (hi : is01 i) (hu : (p.sh i).up = true) (j : Jr (p.sh i) t) : PE (p.setSh i t) := by
 rcases j with rfl | ⟨rc, tp, ok, rfl⟩
 ·rw [set_pick hi]; exact h
 ·exact PE.set gd h hi (jrn_sp gd hi hu tp ok)
theorem mint_e (gd : PGd p) (h : PE p) (i : Int) (pl sp : Nat) (wp : pl < 4294967296) (wq : sp < 4294967296) : PE (p.mint i pl sp).2 := by
 unfold Pr.mint
 split
 ·rename_i hu
  obtain ⟨hi, up⟩ := upE_at hu
  obtain ⟨⟨r, g⟩, _⟩ := gd.at hi
  exact Jr.pe gd h hi up (mint_jrn g up pl sp wp wq)
 ·exact h
theorem destroy_e (gd : PGd p) (h : PE p) (i x y : Int) : PE (p.destroy i x y).2 := onUp_e h i _ fun hu => by
 obtain ⟨hi, up⟩ := upE_at hu
 obtain ⟨⟨r, g⟩, _⟩ := gd.at hi
 exact Jr.pe gd h hi up (dest_jrn g up x y)
theorem deliver_e (gd : PGd p) (h : PE p) (i k : Int) : PE (p.deliver i k).2 := by
 unfold Pr.deliver
 split
 ·exact h
 rename_i hn
 have hi : is01 i := by
  by_cases hi : is01 i
  ·exact hi
  ·exact absurd (show unE p.f0 p.f1 i k ≠ 0 by unfold unE; rw [if_neg hi]; simp) hn
 split
 ·exact h.flown rfl rfl
 rename_i up
 have up' : (p.sh i).up = true := by simpa using up
 obtain ⟨⟨r, g⟩, _⟩ := gd.at hi
 have es : (p.drop i k).2.sh i = p.sh i := by rcases hi with rfl | rfl <;> rfl
 have h2 : PE ((p.drop i k).2.setSh i ((p.sh i).hear (atK (p.fl i) k)).2) := Jr.pe (p := (p.drop i k).2) (drop_keep gd i k).gd (h.flown rfl rfl) hi (by rw [es]; exact up') (by rw [es]; exact hear_jrn g up' _)
 exact h2.flown (reply_sh _ i _).1 (reply_sh _ i _).2
theorem kAct_e {k : Kp} (gd : PGd p) (h : PE p) (K i n m : Int) (pl sp : Nat) (hp : pl < 4294967296) (hq : sp < 4294967296) : PE (kAct k p K i n m pl sp).2.2 := by
 unfold kAct
 by_cases k1 : K = 1
 ·rw [if_pos k1]
  exact mint_e gd h i _ _ (sideF_lt hp i) (speedF_ok hq).2
 rw [if_neg k1]
 by_cases k2 : K = 2
 ·rw [if_pos k2]
  by_cases hn : k.kn = []
  ·rw [if_pos hn]
   exact h
  ·rw [if_neg hn]
   exact destroy_e gd h i _ _
 rw [if_neg k2]
 dsimp only
 by_cases k3 : K = 3
 ·rw [if_pos k3]; exact tick_e gd h i
 rw [if_neg k3]
 by_cases k4 : K = 4
 ·rw [if_pos k4]; exact snap_e gd h i
 rw [if_neg k4]
 by_cases k5 : K = 5
 ·rw [if_pos k5]; exact brk_e gd h i _ m
 rw [if_neg k5]
 by_cases k6 : K = 6
 ·rw [if_pos k6]; exact crash_e gd h i m
 rw [if_neg k6]
 by_cases k7 : K = 7
 ·rw [if_pos k7]; exact restart_e gd h i
 rw [if_neg k7]
 by_cases k8 : K = 8
 ·rw [if_pos k8]; exact send_e h i
 rw [if_neg k8]
 by_cases k9 : K = 9
 ·rw [if_pos k9]; exact deliver_e gd h i n
 rw [if_neg k9]
 by_cases k10 : K = 10
 ·rw [if_pos k10]; exact PE.flown (q := (p.drop i n).2) h rfl rfl
 rw [if_neg k10]
 by_cases k11 : K = 11
 ·rw [if_pos k11]; exact PE.flown (q := (p.double i n).2) h rfl rfl
 rw [if_neg k11]
 by_cases k12 : K = 12
 ·rw [if_pos k12]; exact PE.flown (q := (p.spoil i n m).2) h rfl rfl
 rw [if_neg k12]
 exact h
end
theorem kept_e (cI cO cJ : Int) (hv : cfgB cI cO cJ) (hJ : 400 <= cJ) : PE (prK cI cO cJ) := by
 have hI : 1 <= cI := hv.1.1
 have hO : 1 <= cO := hv.2.1.1
 have g0 := new_gd cI cO cJ hv
 have l0 : (Pr.new cI cO cJ).ls 0 = ⟨[], [], base1.mks⟩ := by
  rw [ls_up g0 (.inl rfl) (upE_at (new_up cI cO cJ).1).2]
  show (sh1 0 cI cO cJ).ds = _
  rw [sh1_eq]; rfl
 have l1 : (Pr.new cI cO cJ).ls 1 = ⟨[], [], base1.mks⟩ := by
  rw [ls_up g0 (.inr rfl) (upE_at (new_up cI cO cJ).2).2]
  show (sh1 1 cI cO cJ).ds = _
  rw [sh1_eq]; rfl
 have e0 : PE (Pr.new cI cO cJ) := by
  refine ⟨?_, ?_⟩
  ·rw [l0]; exact ⟨by decide, fun n hn => by simp at hn, fun e he => by cases he⟩
  ·rw [l1]; exact ⟨by decide, fun n hn => by simp at hn, fun e he => by cases he⟩
 have sp := speedF_ok (x := 1073741824) (by decide)
 have e1 := mint_e g0 e0 0 (sideF 1065353216 0) (speedF 1073741824) (sideF_lt (by decide) 0) sp.2
 have g1 := (mint_keep g0 0 (sideF 1065353216 0) (speedF 1073741824) (sideF_lt (by decide) 0) sp.2).gd
 rw [kept_mint cI cO cJ hI hJ] at e1 g1
 have e2 := tick_e g1 e1 0
 have g2 := (tick_keep g1 0).gd
 rw [kept_tick cI cO cJ hO hJ] at e2 g2
 have e3 := send_e e2 0
 have g3 := (send_keep g2 0).gd
 rw [kept_send cI cO cJ] at e3 g3
 have e4 := deliver_e g3 e3 1 0
 rw [kept_deliver cI cO cJ hI hJ] at e4
 exact e4
structure Fr (s : Sh) : Prop where
 up : s.up = true
 un : s.dk.un = 0
def Sh.jl (s : Sh) : Nat := (s.dk.file s.ct).length
theorem append_free (d : Dk) (n : Nat) (l : List UInt8) (h : d.un = 0) : (d.append n l).2 = true /\ (d.append n l).1.un = 0 /\ (d.append n l).1.file n = d.file n ++ l := by
 unfold Dk.append
 by_cases c : n = 0
 ·rw [if_pos c]
  unfold Dk.act
  rw [if_pos h]
  exact ⟨rfl, h, by unfold Dk.file; rw [if_pos c, if_pos c]⟩
 ·rw [if_neg c]
  unfold Dk.act
  rw [if_pos h]
  exact ⟨rfl, h, by unfold Dk.file; rw [if_neg c, if_neg c]⟩
theorem sync_free (d : Dk) (n : Nat) (h : d.un = 0) : (d.sync n).2 = true /\ (d.sync n).1.un = 0 /\ (d.sync n).1.file n = d.file n := by
 have e : d.act = (d, true) := by unfold Dk.act; rw [if_pos h]
 unfold Dk.sync
 rw [e, if_pos rfl]
 refine ⟨rfl, ?_, ?_⟩
 ·unfold Dk.put; split <;> exact h
 ·unfold Dk.put Dk.file
  by_cases c : n = 0
  ·simp [c]
  ·simp [c]
theorem cut_free (d : Dk) (n : Nat) (h : d.un = 0) : (d.cut n).2 = true /\ (d.cut n).1.un = 0 /\ (d.cut n).1.file n = [] := by
 have e : d.act = (d, true) := by unfold Dk.act; rw [if_pos h]
 unfold Dk.cut
 rw [e, if_pos rfl]
 refine ⟨rfl, ?_, ?_⟩
 ·unfold Dk.put; split <;> exact h
 ·unfold Dk.put Dk.file
  by_cases c : n = 0
  ·simp [c]
  ·simp [c]
section
variable {s : Sh} {r : Rs}
theorem jrn_full (rc : Rc) (h : s.cJ < (s.jl : Int) + (frm rc).length) : s.jrn rc = (5, s) := if_pos h
theorem jrn_free (f : Fr s) (rc : Rc) (h : ¬ s.cJ < (s.jl : Int) + (frm rc).length) : (s.jrn rc).1 = 0 /\ Fr (s.jrn rc).2 /\ (s.jrn rc).2.jl = s.jl + (frm rc).length := by
 obtain ⟨a1, a2, a3⟩ := append_free s.dk s.ct (frm rc) f.un
 obtain ⟨b1, b2, b3⟩ := sync_free (s.dk.append s.ct (frm rc)).1 s.ct a2
 have e : s.jrn rc = (0, (s.on ((s.dk.append s.ct (frm rc)).1.sync s.ct).1).doR rc) := by
  unfold Sh.jrn
  rw [if_neg (show ¬ s.cJ < ((s.dk.file s.ct).length : Int) + (frm rc).length from h), if_neg (by rw [a1]; simp), if_neg (by rw [b1]; simp)]
 obtain ⟨u1, u2, u3, _⟩ := doR_up (s.on ((s.dk.append s.ct (frm rc)).1.sync s.ct).1) rc
 rw [e]
 refine ⟨rfl, ⟨u1.trans f.up, by rw [u2]; exact b2⟩, ?_⟩
 show Sh.jl ((s.on ((s.dk.append s.ct (frm rc)).1.sync s.ct).1).doR rc) = _
 unfold Sh.jl
 rw [u2, u3]
 show (((s.dk.append s.ct (frm rc)).1.sync s.ct).1.file s.ct).length = _
 rw [b3, a3, List.length_append]
theorem frm_base (d : Ds) : (frm (baseRc d)).length = 17 + 11 * d.it.length + 13 * d.ob.length := by
 rw [frm_length]
 unfold enc body
 have e : (baseRc d).kind = 6 := rfl
 simp only [e]
 simp only [show ¬ (6 : Int) = 1 by decide, show ¬ (6 : Int) = 2 by decide, show ¬ ((6 : Int) = 4 ∨ (6 : Int) = 7) by decide, show ¬ ((6 : Int) = 5 ∨ (6 : Int) = 8) by decide, if_false, if_true, List.length_append, eIts_len, eEns_len]
 show 2 + (1 + 10 + (1 + 11 * d.it.length) + (1 + 13 * d.ob.length) + 2) = _
 omega
theorem frm_arr (q : Int) (i : It) : (frm (arrRec q i)).length = 18 := by rw [frm_length]; rfl
theorem frm_acked (q : Int) : (frm (ackedRec q)).length = 7 := by rw [frm_length]; rfl
theorem snap_free (g : Good s r) (f : Fr s) (hJ : 400 <= s.cJ) (hg : s.ms.g < 65535) : Fr s.snap.2 /\ s.snap.2.jl = 17 + 11 * s.ds.it.length + 13 * s.ds.ob.length /\ s.snap.2.ds = { s.ds with ms := { s.ms with g := s.ms.g + 1 } } := by
 obtain ⟨_, _, _, _, _, has, _⟩ := g.has f.up
 have h1 := has.tl
 have h2 := has.ol
 have h3 := g.i1
 have h4 := g.o1
 have lb := frm_base s.ds
 obtain ⟨c1, c2, c3⟩ := cut_free s.dk (1 - s.ct) f.un
 obtain ⟨a1, a2, a3⟩ := append_free (s.dk.cut (1 - s.ct)).1 (1 - s.ct) (frm s.snapRec) c2
 obtain ⟨b1, b2, b3⟩ := sync_free ((s.dk.cut (1 - s.ct)).1.append (1 - s.ct) (frm s.snapRec)).1 (1 - s.ct) a2
 have er : s.snapRec = baseRc s.ds := rfl
 have e : s.snap = (0, { s with ct := 1 - s.ct, ms := { s.ms with g := s.ms.g + 1 }, dk := (((s.dk.cut (1 - s.ct)).1.append (1 - s.ct) (frm s.snapRec)).1.sync (1 - s.ct)).1 }) := by
  unfold Sh.snap
  rw [if_neg (by omega), if_neg (by rw [er]; omega), if_neg (by rw [c1]; simp), if_neg (by rw [a1]; simp), if_neg (by rw [b1]; simp)]
 rw [e]
 refine ⟨⟨f.up, b2⟩, ?_, rfl⟩
 show ((((s.dk.cut (1 - s.ct)).1.append (1 - s.ct) (frm s.snapRec)).1.sync (1 - s.ct)).1.file (1 - s.ct)).length = _
 rw [b3, a3, c3, List.nil_append, er, lb]
theorem hear_free (g : Good s r) (f : Fr s) (t : List UInt8) :
  Fr (s.hear t).2 /\ (s.hear t).2.jl <= s.jl + 18 /\ s.ms.n <= (s.hear t).2.ms.n /\ ((datP t).kind ≠ 7 -> (s.hear t).1.2 = [] /\ (s.hear t).2.jl <= s.jl + 7 /\ (s.hear t).2.ms.n = s.ms.n /\ (s.hear t).2.ds.it = s.ds.it) := by
 have base : ∀ rc : Rc, Fr (s.jrn rc).2 /\ (s.jrn rc).2.jl <= s.jl + (frm rc).length := fun rc => by
  by_cases c : s.cJ < (s.jl : Int) + (frm rc).length
  ·rw [jrn_full rc c]
   exact ⟨f, by show s.jl <= _; omega⟩
  ·have := jrn_free f rc c
   exact ⟨this.2.1, by omega⟩
 have same : Fr s /\ s.jl <= s.jl + 18 /\ s.ms.n <= s.ms.n := ⟨f, by omega, Int.le_refl _⟩
 have jr := hear_jrn g f.up t
 have mono : s.ms.n <= (s.hear t).2.ms.n := by
  rcases jr with e | ⟨rc, tp, ok, e⟩
  ·rw [e]; exact Int.le_refl _
  ·rw [e]
   rcases jrn_step g f.up tp ok with ⟨_, e1⟩ | ⟨_, e1, _⟩ | ⟨_, _, e1⟩
   ·rw [e1]; exact Int.le_refl _
   ·have := (base rc).1.up
    rw [e1] at this; cases this
   ·show s.ds.ms.n <= (s.jrn rc).2.ds.ms.n
    rw [e1]
    unfold Ds.doR
    split
    ·exact Int.le_refl _
    split
    ·exact Int.le_refl _
    split
    ·obtain ⟨_, _, r3, _⟩ := tick_dd (no := s.no) (cO := s.cO) (e := ⟨[], [], { s.ms with n := s.ms.s }⟩) s.ds.it ⟨[], s.ds.ob, s.ds.ms⟩ (Int.le_refl _)
     exact Int.le_of_eq r3.symm
    split
    ·rename_i k4
     show s.ds.ms.n <= rc.seq
     rw [(ok.arr k4).1]
     omega
    split <;> exact Int.le_refl _
 refine ⟨?_, ?_, mono, fun k7 => ?_⟩
 ·rcases jr with e | ⟨rc, _, _, e⟩
  ·rw [e]; exact f
  ·rw [e]; exact (base rc).1
 ·unfold Sh.hear
  split
  ·unfold Sh.hearCross
   split
   ·exact same.2.1
   split
   ·exact same.2.1
   have b := (base (arrRec (datP t).seq (datP t).it)).2
   rw [frm_arr] at b
   split <;> exact b
  split
  ·unfold Sh.hearAck
   split
   ·exact same.2.1
   ·have b := (base (ackedRec (datP t).seq)).2
    rw [frm_acked] at b
    exact Nat.le_trans b (by omega)
  ·exact same.2.1
 ·unfold Sh.hear
  rw [if_neg k7]
  split
  ·rename_i k8
   unfold Sh.hearAck
   split
   ·exact ⟨rfl, by show s.jl <= _; omega, rfl, rfl⟩
   ·rename_i n1
    have b := (base (ackedRec (datP t).seq)).2
    rw [frm_acked] at b
    refine ⟨rfl, b, ?_⟩
    show (s.jrn (ackedRec (datP t).seq)).2.ms.n = s.ms.n /\ (s.jrn (ackedRec (datP t).seq)).2.ds.it = s.ds.it
    obtain ⟨_, z0, z1⟩ := dat_8 k8
    have ok : DOk s.no s.cI s.ds (ackedRec (datP t).seq) := ⟨.inr (.inr (.inr (.inr rfl))), fun e => absurd e (by show ¬ (5 : Int) = 1; decide), fun e => absurd e (by show ¬ (5 : Int) = 2; decide), by unfold i64B ackedRec it0; simp, fun e => absurd e (by show ¬ (5 : Int) = 4; decide), fun _ => ⟨by show s.ms.a < (datP t).seq; omega, by show (datP t).seq <= s.ms.s; omega⟩⟩
    rcases jrn_step g f.up (told_acked z0 z1) ok with ⟨_, e1⟩ | ⟨_, e1, _⟩ | ⟨_, _, e1⟩
    ·rw [e1]; exact ⟨rfl, rfl⟩
    ·have := (base (ackedRec (datP t).seq)).1.up
     rw [e1] at this; cases this
    ·have e2 : (s.jrn (ackedRec (datP t).seq)).2.ds.ms.n = s.ds.ms.n /\ (s.jrn (ackedRec (datP t).seq)).2.ds.it = s.ds.it := by
      rw [e1]; exact ⟨rfl, rfl⟩
     exact e2
  ·exact ⟨rfl, by show s.jl <= _; omega, rfl, rfl⟩
theorem hear_stale (t : List UInt8) (k7 : (datP t).kind = 7) (h : (datP t).seq <= s.ms.n) : (s.hear t).2 = s /\ (s.hear t).1.2 = ackB s.ms.n := by
 unfold Sh.hear Sh.hearCross
 rw [if_pos k7, if_pos h]
 exact ⟨rfl, rfl⟩
theorem hear_next (f : Fr s) (t : List UInt8) (k7 : (datP t).kind = 7) (h : (datP t).seq = s.ms.n + 1) (ma : s.mayArr (datP t).it = true) (hr : (s.jl : Int) + 18 <= s.cJ) : (s.hear t).2 = (s.jrn (arrRec (s.ms.n + 1) (datP t).it)).2 /\ (s.jrn (arrRec (s.ms.n + 1) (datP t).it)).1 = 0 := by
 have jf := jrn_free f (arrRec (s.ms.n + 1) (datP t).it) (by rw [frm_arr]; omega)
 refine ⟨?_, jf.1⟩
 have e : (⟨4, (datP t).seq, (datP t).it, mk0, [], []⟩ : Rc) = arrRec (s.ms.n + 1) (datP t).it := by rw [h]; rfl
 unfold Sh.hear Sh.hearCross
 rw [if_pos k7, if_neg (by omega), if_neg (by rw [ma]; simp; omega), e, if_pos jf.1]
end
structure AI (k : Kp) (p : Pr) : Prop where
 oi : OI k p
 pe : PE p
 f0 : Fr p.s0
 f1 : Fr p.s1
 j0 : 400 <= p.s0.cJ
 j1 : 400 <= p.s1.cJ
section
variable {k : Kp} {p : Pr} {i j : Int}
theorem AI.fr (h : AI k p) (hi : is01 i) : Fr (p.sh i) /\ 400 <= (p.sh i).cJ := by
 rcases hi with rfl | rfl
 ·exact ⟨h.f0, h.j0⟩
 ·exact ⟨h.f1, h.j1⟩
theorem AI.of {q : Pr} (h : AI k p) (oi : OI k q) (pe : PE q) (c0 : q.s0.cfg p.s0) (c1 : q.s1.cfg p.s1) (f0 : Fr q.s0) (f1 : Fr q.s1) : AI k q := ⟨oi, pe, f0, f1, by rw [c0.2.2.2]; exact h.j0, by rw [c1.2.2.2]; exact h.j1⟩
theorem is01_o (hi : is01 i) : is01 (1 - i) := is01_other hi
theorem unE_nil (hj : is01 j) (h : p.fl j = []) : unE p.f0 p.f1 j 0 ≠ 0 := by
 unfold unE
 rw [if_pos hj]
 unfold eK
 rw [if_neg]
 ·decide
 ·rw [show pick01 p.f0 p.f1 j = [] from h]
  rintro ⟨_, h2⟩
  simp at h2
theorem dlv_nil (hj : is01 j) (h : p.fl j = []) : (p.deliver j 0).2 = p := by
 unfold Pr.deliver
 rw [if_pos (unE_nil hj h)]
theorem dlv_one (hj : is01 j) (hu : (p.sh j).up = true) {t : List UInt8} {T : List (List UInt8)} (h : p.fl j = t :: T) :
  (p.deliver j 0).2.fl j = T /\ (p.deliver j 0).2.sh j = ((p.sh j).hear t).2 /\ (p.deliver j 0).2.sh (1 - j) = p.sh (1 - j) /\ (p.deliver j 0).2.fl (1 - j) = (if ((p.sh j).hear t).1.2 = [] then p.fl (1 - j) else putT (p.fl (1 - j)) ((p.sh j).hear t).1.2) := by
 have hk : isK (p.fl j) 0 := by rw [h]; exact ⟨Int.le_refl _, by simp⟩
 have e0 : unE p.f0 p.f1 j 0 = 0 := by
  unfold unE
  rw [if_pos hj]
  unfold eK
  exact if_pos hk
 have ea : atK (p.fl j) 0 = t := by unfold atK; rw [if_pos hk, h]; rfl
 have ed : dropK (p.fl j) 0 = T := by unfold dropK; rw [if_pos hk, h]; rfl
 unfold Pr.deliver
 rw [if_neg (by rw [e0]; simp), if_neg (by rw [hu]; simp), ea]
 dsimp only
 generalize (p.sh j).hear t = R
 have d1 : (p.drop j 0).2.fl j = T := by
  rcases hj with rfl | rfl
  ·exact ed
  ·exact ed
 have d2 : (p.drop j 0).2.fl (1 - j) = p.fl (1 - j) := by rcases hj with rfl | rfl <;> rfl
 have s2 : (p.drop j 0).2.sh (1 - j) = p.sh (1 - j) := by rcases hj with rfl | rfl <;> rfl
 generalize (p.drop j 0).2 = q at d1 d2 s2
 have g1 : (q.setSh j R.2).fl j = T := by rw [<- d1]; rcases hj with rfl | rfl <;> rfl
 have g2 : (q.setSh j R.2).fl (1 - j) = p.fl (1 - j) := by rw [<- d2]; rcases hj with rfl | rfl <;> rfl
 have g3 : (q.setSh j R.2).sh j = R.2 := setSh_sh hj _
 have g4 : (q.setSh j R.2).sh (1 - j) = p.sh (1 - j) := by rw [<- s2]; rcases hj with rfl | rfl <;> rfl
 generalize q.setSh j R.2 = q' at g1 g2 g3 g4
 unfold Pr.reply
 by_cases c : R.1.2 = []
 ·rw [if_pos c, if_pos c]
  exact ⟨g1, g3, g4, g2⟩
 ·rw [if_neg c, if_neg c, <- g2, <- g1, <- g3, <- g4]
  rcases hj with rfl | rfl <;> exact ⟨rfl, rfl, rfl, rfl⟩
theorem hear_reply (s : Sh) (t : List UInt8) : (s.hear t).1.2 = [] ∨ ∃ n, (s.hear t).1.2 = ackB n := by
 unfold Sh.hear
 split
 ·unfold Sh.hearCross
  split
  ·exact .inr ⟨_, rfl⟩
  split
  ·exact .inl rfl
  split
  ·exact .inr ⟨_, rfl⟩
  ·exact .inl rfl
 split
 ·exact .inl rfl
 ·exact .inl rfl
theorem OI.dlv (h : OI k p) (j : Int) : OI k (p.deliver j 0).2 := h.quiet (deliver_q h.gd h.w j 0) (deliver_keep h.gd j 0).gd
theorem AI.dlv (h : AI k p) (hj : is01 j) : AI k (p.deliver j 0).2 := by
 have kp := deliver_keep h.oi.gd j 0
 cases hf : p.fl j with
 | nil => rw [dlv_nil hj hf]; exact h
 | cons t T =>
  obtain ⟨_, e2, e3, _⟩ := dlv_one hj (h.fr hj).1.up hf
  obtain ⟨⟨r, g⟩, _⟩ := h.oi.gd.at hj
  have ff : Fr ((p.deliver j 0).2.sh j) := by rw [e2]; exact (hear_free g (h.fr hj).1 t).1
  have fo : Fr ((p.deliver j 0).2.sh (1 - j)) := by rw [e3]; exact (h.fr (is01_o hj)).1
  refine h.of (h.oi.dlv j) (deliver_e h.oi.gd h.pe j 0) kp.c0 kp.c1 ?_ ?_
  ·rcases hj with rfl | rfl
   ·exact ff
   ·exact fo
  ·rcases hj with rfl | rfl
   ·exact fo
   ·exact ff
def dv (j : Int) : Nat -> Pr -> Pr
 | 0, p => p
 | m + 1, p => dv j m (p.deliver j 0).2
theorem dv_add (j : Int) : ∀ (a b : Nat) (p : Pr), dv j (a + b) p = dv j b (dv j a p)
 | 0, b, p => by rw [Nat.zero_add]; rfl
 | a + 1, b, p => by
  rw [show a + 1 + b = (a + b) + 1 by omega]
  exact dv_add j a b (p.deliver j 0).2
theorem dv_last (j : Int) (m : Nat) (p : Pr) : dv j (m + 1) p = ((dv j m p).deliver j 0).2 := by
 rw [dv_add j m 1 p]; rfl
theorem AI.dv (hj : is01 j) : ∀ (m : Nat) {p : Pr}, AI k p -> AI k (YtammnaafdhhjaaaGreat.dv j m p)
 | 0, _, h => h
 | m + 1, _, h => AI.dv hj m (h.dlv hj)
def c7 (T : List (List UInt8)) : Nat := (T.filter (fun t => decide ((datP t).kind = 7))).length
theorem c7_cons (t : List UInt8) (T : List (List UInt8)) : c7 (t :: T) = (if (datP t).kind = 7 then 1 else 0) + c7 T := by
 unfold c7
 by_cases c : (datP t).kind = 7
 ·rw [List.filter_cons_of_pos (by simpa using c), if_pos c]; simp; omega
 ·rw [List.filter_cons_of_neg (by simpa using c), if_neg c]; simp
theorem c7_app (S T : List (List UInt8)) : c7 (S ++ T) = c7 S + c7 T := by
 unfold c7; rw [List.filter_append, List.length_append]
theorem c7_le (T : List (List UInt8)) : c7 T <= T.length := List.length_filter_le _ _
theorem dv_all (hj : is01 j) : ∀ (m : Nat) {p : Pr} (ns : List Int), AI k p -> p.fl (1 - j) = ns.map ackB →
  (dv j m p).fl j = (p.fl j).drop m /\ (dv j m p).sh (1 - j) = p.sh (1 - j) /\ (p.sh j).ms.n <= ((dv j m p).sh j).ms.n /\ ∃ ns', (dv j m p).fl (1 - j) = (ns ++ ns').map ackB /\ ns'.length <= c7 ((p.fl j).take m)
 | 0, p, ns, _, e => ⟨rfl, rfl, Int.le_refl _, [], by rw [List.append_nil]; exact e, Nat.zero_le _⟩
 | m + 1, p, ns, h, e => by
  show (dv j m (p.deliver j 0).2).fl j = _ /\ (dv j m (p.deliver j 0).2).sh (1 - j) = _ /\ _ <= ((dv j m (p.deliver j 0).2).sh j).ms.n /\ ∃ ns', (dv j m (p.deliver j 0).2).fl (1 - j) = _ /\ _
  cases hf : p.fl j with
  | nil =>
   have r := dv_all hj m ns h e
   rw [dlv_nil hj hf]
   rw [hf] at r
   refine ⟨by rw [r.1]; simp, r.2.1, r.2.2.1, ?_⟩
   obtain ⟨ns', a, b⟩ := r.2.2.2
   exact ⟨ns', a, by simpa using b⟩
  | cons t T =>
   obtain ⟨e1, e2, e3, e4⟩ := dlv_one hj (h.fr hj).1.up hf
   obtain ⟨⟨r, g⟩, _⟩ := h.oi.gd.at hj
   obtain ⟨_, _, h3, h4⟩ := hear_free g (h.fr hj).1 t
   have h' := h.dlv hj
   have mn : (p.sh j).ms.n <= ((p.deliver j 0).2.sh j).ms.n := by rw [e2]; exact h3
   have step : ∃ n1 : List Int, (p.deliver j 0).2.fl (1 - j) = (ns ++ n1).map ackB /\ n1.length <= (if (datP t).kind = 7 then 1 else 0) := by
    by_cases c : ((p.sh j).hear t).1.2 = []
    ·rw [if_pos c] at e4
     exact ⟨[], by rw [e4, List.append_nil]; exact e, Nat.zero_le _⟩
    ·rw [if_neg c] at e4
     have k7 : (datP t).kind = 7 := by
      by_cases k7 : (datP t).kind = 7
      ·exact k7
      ·exact absurd (h4 k7).1 c
     obtain ⟨n, en⟩ : ∃ n, ((p.sh j).hear t).1.2 = ackB n := by
      rcases hear_reply (p.sh j) t with e | e
      ·exact absurd e c
      ·exact e
     rw [if_pos k7]
     rw [en, e] at e4
     unfold putT at e4
     split at e4
     ·exact ⟨[n], by rw [e4, List.map_append]; rfl, Nat.le_refl _⟩
     ·exact ⟨[], by rw [e4, List.append_nil], Nat.zero_le _⟩
   obtain ⟨n1, f1, f2⟩ := step
   have r := dv_all hj m (ns ++ n1) h' f1
   refine ⟨by rw [r.1, e1]; rfl, by rw [r.2.1, e3], Int.le_trans mn r.2.2.1, ?_⟩
   obtain ⟨ns', a, b⟩ := r.2.2.2
   refine ⟨n1 ++ ns', by rw [a, List.append_assoc], ?_⟩
   rw [e1] at b
   rw [List.take_succ_cons, c7_cons, List.length_append]
   omega
end
def hr (i : Int) (p : Pr) : Pr := dv (1 - i) 32 ((p.snap i).2.send i).2
section
variable {k : Kp} {p : Pr} {i j : Int}
theorem upE_fr (hi : is01 i) (f : Fr (p.sh i)) : p.upE i = 0 := by
 rcases upE_01 (p := p) hi with ⟨h, _⟩ | ⟨_, h⟩
 ·exact h
 ·rw [f.up] at h; cases h
theorem snap_is (hi : is01 i) (f : Fr (p.sh i)) : (p.snap i).2 = p.setSh i (p.sh i).snap.2 := by
 unfold Pr.snap Pr.onUp
 rw [if_pos (upE_fr hi f)]
theorem set_o (hi : is01 i) (s : Sh) : (p.setSh i s).sh (1 - i) = p.sh (1 - i) /\ (p.setSh i s).fl i = p.fl i /\ (p.setSh i s).fl (1 - i) = p.fl (1 - i) := by
 rcases hi with rfl | rfl <;> exact ⟨rfl, rfl, rfl⟩
theorem AI.snap (h : AI k p) (hi : is01 i) (hg : (p.sh i).ms.g < 65535) : AI k (p.snap i).2 /\ ((p.snap i).2.sh i) = (p.sh i).snap.2 /\ (p.snap i).2.sh (1 - i) = p.sh (1 - i) /\ (p.snap i).2.fl i = p.fl i /\ (p.snap i).2.fl (1 - i) = p.fl (1 - i) := by
 have fi := h.fr hi
 obtain ⟨⟨r, g⟩, _⟩ := h.oi.gd.at hi
 have sf := snap_free g fi.1 fi.2 hg
 have kp := snap_keep h.oi.gd i
 have e := snap_is hi fi.1
 have so := set_o (p := p) hi (p.sh i).snap.2
 have ei : (p.snap i).2.sh i = (p.sh i).snap.2 := by rw [e]; exact setSh_sh hi _
 have eo : (p.snap i).2.sh (1 - i) = p.sh (1 - i) := by rw [e]; exact so.1
 have ff : Fr ((p.snap i).2.sh i) := by rw [ei]; exact sf.1
 have fo : Fr ((p.snap i).2.sh (1 - i)) := by rw [eo]; exact (h.fr (is01_o hi)).1
 refine ⟨h.of (h.oi.quiet (snap_q h.oi.gd h.oi.w i) kp.gd) (snap_e h.oi.gd h.pe i) kp.c0 kp.c1 ?_ ?_, ei, eo, by rw [e]; exact so.2.1, by rw [e]; exact so.2.2⟩
 ·rcases hi with rfl | rfl
  ·exact ff
  ·exact fo
 ·rcases hi with rfl | rfl
  ·exact fo
  ·exact ff
theorem AI.send (h : AI k p) (hi : is01 i) : AI k (p.send i).2 /\ (∀ x, is01 x -> (p.send i).2.sh x = p.sh x) /\ (p.send i).2.fl i = p.fl i /\ (p.send i).2.fl (1 - i) = ((p.sh i).ob.map crossB).foldl putT (p.fl (1 - i)) := by
 have fi := h.fr hi
 have kp := send_keep h.oi.gd i
 have e : (p.send i).2 = ⟨p.s0, p.s1, (sendF p.f0 p.f1 (p.sh i).ob i).1, (sendF p.f0 p.f1 (p.sh i).ob i).2⟩ := by
  unfold Pr.send
  rw [if_pos (upE_fr hi fi.1)]
 have s0 : (p.send i).2.s0 = p.s0 := by rw [e]
 have s1 : (p.send i).2.s1 = p.s1 := by rw [e]
 refine ⟨h.of (h.oi.quiet (send_q h.oi.gd h.oi.w i) kp.gd) (send_e h.pe i) kp.c0 kp.c1 (by rw [s0]; exact h.f0) (by rw [s1]; exact h.f1), fun x hx => ?_, ?_, ?_⟩
 ·rcases hx with rfl | rfl
  ·exact s0
  ·exact s1
 ·rw [e]
  rcases hi with rfl | rfl <;> rfl
 ·rw [e]
  rcases hi with rfl | rfl <;> rfl
theorem puts_fit : ∀ (l fs : List (List UInt8)), fs.length + l.length <= 32 -> l.foldl putT fs = fs ++ l
 | [], fs, _ => by simp
 | x :: l, fs, h => by
  have e : putT fs x = fs ++ [x] := by unfold putT; rw [if_pos (by simp at h; omega)]
  show l.foldl putT (putT fs x) = _
  rw [e, puts_fit l (fs ++ [x]) (by simp at h ⊢; omega)]
  simp
theorem puts_c7 : ∀ (l fs : List (List UInt8)), c7 (l.foldl putT fs) <= c7 fs + l.length
 | [], fs => by simp
 | x :: l, fs => by
  have h := puts_c7 l (putT fs x)
  have : c7 (putT fs x) <= c7 fs + 1 := by
   unfold putT
   split
   ·rw [c7_app]
    have := c7_le [x]
    simp at this
    omega
   ·omega
  show c7 (l.foldl putT (putT fs x)) <= _
  simp only [List.length_cons]
  omega
theorem dv_drop (hj : is01 j) : ∀ (m : Nat) {p : Pr}, AI k p -> (dv j m p).fl j = (p.fl j).drop m /\ (dv j m p).sh (1 - j) = p.sh (1 - j) /\ ((p.fl (1 - j)).length <= 32 -> ((dv j m p).fl (1 - j)).length <= 32)
 | 0, p, _ => ⟨rfl, rfl, id⟩
 | m + 1, p, h => by
  show (dv j m (p.deliver j 0).2).fl j = _ /\ (dv j m (p.deliver j 0).2).sh (1 - j) = _ /\ (_ -> ((dv j m (p.deliver j 0).2).fl (1 - j)).length <= 32)
  cases hf : p.fl j with
  | nil =>
   have r := dv_drop hj m h
   rw [dlv_nil hj hf]
   rw [hf] at r
   exact ⟨by rw [r.1]; simp, r.2⟩
  | cons t T =>
   obtain ⟨e1, _, e3, e4⟩ := dlv_one hj (h.fr hj).1.up hf
   have r := dv_drop hj m (h.dlv hj)
   refine ⟨by rw [r.1, e1]; rfl, by rw [r.2.1, e3], fun hl => r.2.2 ?_⟩
   rw [e4]
   split
   ·exact hl
   ·exact putT_len hl
theorem ack_not7 (n : Int) : (datP (ackB n)).kind ≠ 7 := fun h => by
 have d := (dat_7 h).1
 have e : datP (ackB n) = dec (ackB n) := by unfold datP; rw [if_pos d]
 rw [e] at h
 have a := hd7 h
 rw [dat_enc d] at a
 have b : (ackB n)[0]? = some 8 := hd8 rfl
 rw [b] at a
 exact absurd (Option.some.inj a) (by decide)
theorem c7_acks (ns : List Int) : c7 (ns.map ackB) = 0 := by
 unfold c7
 rw [List.filter_eq_nil_iff.2]
 ·rfl
 ·intro t ht
  obtain ⟨n, _, rfl⟩ := List.mem_map.1 ht
  simpa using ack_not7 n
theorem hr_any (h : AI k p) (hi : is01 i) (hg : (p.sh i).ms.g < 65535) (hf : (p.fl (1 - i)).length <= 32) :
  AI k (hr i p) /\ (hr i p).fl (1 - i) = [] /\ (hr i p).sh i = (p.sh i).snap.2 /\ ((p.fl i).length <= 32 -> ((hr i p).fl i).length <= 32) ∧
  (∀ ns : List Int, p.fl i = ns.map ackB -> (p.sh (1 - i)).ms.n <= ((hr i p).sh (1 - i)).ms.n /\ ∃ ns', (hr i p).fl i = (ns ++ ns').map ackB /\ ns'.length <= c7 (p.fl (1 - i)) + (p.sh i).ds.ob.length) := by
 have ho := is01_o hi
 have e2 : 1 - (1 - i) = i := by omega
 obtain ⟨a1, s1, s2, s3, s4⟩ := h.snap hi hg
 obtain ⟨b1, t1, t2, t3⟩ := a1.send hi
 have fl : (((p.snap i).2.send i).2.fl (1 - i)).length <= 32 := by rw [t3, s4]; exact foldl_len hf
 have dd := dv_drop ho 32 b1
 rw [e2] at dd
 obtain ⟨⟨r, g⟩, _⟩ := h.oi.gd.at hi
 have sf := snap_free g (h.fr hi).1 (h.fr hi).2 hg
 have ob : ((p.snap i).2.sh i).ob = (p.sh i).ds.ob := by rw [s1]; exact congrArg Ds.ob sf.2.2
 refine ⟨AI.dv ho 32 b1, ?_, ?_, fun hl => dd.2.2 (by rw [t2, s3]; exact hl), fun ns hn => ?_⟩
 ·show (dv (1 - i) 32 ((p.snap i).2.send i).2).fl (1 - i) = []
  rw [dd.1]
  exact List.drop_eq_nil_of_le fl
 ·show (dv (1 - i) 32 ((p.snap i).2.send i).2).sh i = _
  rw [dd.2.1, t1 i hi, s1]
 ·have da := dv_all ho 32 ns b1 (by rw [e2, t2, s3]; exact hn)
  rw [e2] at da
  refine ⟨?_, ?_⟩
  ·have := da.2.2.1
   rw [t1 (1 - i) ho, s2] at this
   exact this
  ·obtain ⟨ns', x1, x2⟩ := da.2.2.2
   refine ⟨ns', x1, ?_⟩
   rw [List.take_of_length_le fl, t3, s4, ob] at x2
   have := puts_c7 ((p.sh i).ds.ob.map crossB) (p.fl (1 - i))
   rw [List.length_map] at this
   omega
structure St (i : Int) (p : Pr) : Prop where
 fi : p.fl i = []
 fo : ∃ ns : List Int, p.fl (1 - i) = ns.map ackB /\ ns.length <= 8
 jl : (p.sh (1 - i)).jl = 17 + 11 * (p.sh (1 - i)).ds.it.length + 13 * (p.sh (1 - i)).ds.ob.length
theorem ob_8 (h : AI k p) (hi : is01 i) : (p.sh i).ds.ob.length <= 8 := by
 obtain ⟨⟨r, g⟩, _⟩ := h.oi.gd.at hi
 obtain ⟨_, _, _, _, _, has, _⟩ := g.has (h.fr hi).1.up
 have a := has.ol
 have b := g.o1
 omega
theorem St.next (h : AI k p) (hi : is01 i) (hg : (p.sh i).ms.g < 65535) {ns : List Int} (e0 : p.fl i = []) (e1 : p.fl (1 - i) = ns.map ackB) (e2 : ns.length <= 32) : St (1 - i) (hr i p) := by
 have ee : 1 - (1 - i) = i := by omega
 obtain ⟨a1, a2, a3, _, a5⟩ := hr_any h hi hg (by rw [e1, List.length_map]; exact e2)
 obtain ⟨_, ns', b1, b2⟩ := a5 [] (by rw [e0]; rfl)
 obtain ⟨⟨r, g⟩, _⟩ := h.oi.gd.at hi
 have sf := snap_free g (h.fr hi).1 (h.fr hi).2 hg
 refine ⟨a2, ⟨ns', by rw [ee]; simpa using b1, ?_⟩, ?_⟩
 ·rw [e1, c7_acks] at b2
  have := ob_8 h hi
  omega
 ·rw [ee, a3, sf.2.1]
  have e3 : (p.sh i).snap.2.ds.it = (p.sh i).ds.it := by rw [sf.2.2]
  have e4 : (p.sh i).snap.2.ds.ob = (p.sh i).ds.ob := by rw [sf.2.2]
  rw [e3, e4]
end
structure Gr (x y : Sh) : Prop where
 it : x.ds.it.length <= y.ds.it.length
 ob : x.ds.ob = [] -> y.ds.ob = []
 n : x.ms.n <= y.ms.n
 s : y.ms.s = x.ms.s
 g : y.ms.g = x.ms.g
 cI : y.cI = x.cI
 cJ : y.cJ = x.cJ
theorem Gr.refl (s : Sh) : Gr s s := ⟨Nat.le_refl _, id, Int.le_refl _, rfl, rfl, rfl, rfl⟩
theorem Gr.trans {s t u : Sh} (h : Gr s t) (h' : Gr t u) : Gr s u := ⟨Nat.le_trans h.it h'.it, fun e => h'.ob (h.ob e), Int.le_trans h.n h'.n, h'.s.trans h.s, h'.g.trans h.g, h'.cI.trans h.cI, h'.cJ.trans h.cJ⟩
theorem hear_gr {s : Sh} {r : Rs} (g : Good s r) (f : Fr s) (t : List UInt8) : Gr s (s.hear t).2 := by
 have key : ∀ rc : Rc, Told rc -> DOk s.no s.cI s.ds rc -> (rc.kind = 4 ∨ rc.kind = 5) -> Gr s (s.jrn rc).2 := fun rc tp ok hk => by
  have cf := jrn_cfg s rc
  have hf : Fr (s.jrn rc).2 := by
   by_cases c : s.cJ < (s.jl : Int) + (frm rc).length
   ·rw [jrn_full rc c]; exact f
   ·exact (jrn_free f rc c).2.1
  rcases jrn_step g f.up tp ok with ⟨_, e1⟩ | ⟨_, e1, _⟩ | ⟨_, _, e1⟩
  ·rw [e1]; exact Gr.refl s
  ·have := hf.up; rw [e1] at this; cases this
  ·have k4 : rc.kind = 4 -> (s.jrn rc).2.ds = ⟨insI rc.it s.ds.it, s.ds.ob, { s.ds.ms with n := rc.seq }⟩ := fun h => by
    rw [e1]; unfold Ds.doR
    rw [if_neg (by omega), if_neg (by omega), if_neg (by omega), if_pos h]
   have k5 : rc.kind = 5 -> (s.jrn rc).2.ds = ⟨s.ds.it, keepE rc.seq s.ds.ob, { s.ds.ms with a := rc.seq }⟩ := fun h => by
    rw [e1]; unfold Ds.doR
    rw [if_neg (by omega), if_neg (by omega), if_neg (by omega), if_neg (by omega), if_pos h]
   rcases hk with h | h
   ·have e := k4 h
    have em : (s.jrn rc).2.ms = { s.ms with n := rc.seq } := congrArg Ds.ms e
    refine ⟨?_, fun o => by rw [e]; exact o, ?_, by rw [em], by rw [em], cf.2.1, cf.2.2.2⟩
    ·rw [e]
     have := (insI_perm rc.it s.ds.it).length_eq
     show _ <= (insI rc.it s.ds.it).length
     rw [this]; simp
    ·rw [em]
     show s.ms.n <= rc.seq
     have := (ok.arr h).1
     have e2 : s.ds.ms.n = s.ms.n := rfl
     omega
   ·have e := k5 h
    have em : (s.jrn rc).2.ms = { s.ms with a := rc.seq } := congrArg Ds.ms e
    refine ⟨by rw [e]; exact Nat.le_refl _, fun o => ?_, by rw [em]; exact Int.le_refl _, by rw [em], by rw [em], cf.2.1, cf.2.2.2⟩
    rw [e]
    show keepE rc.seq s.ds.ob = []
    rw [o]; rfl
 have jr := hear_jrn g f.up t
 unfold Sh.hear at jr ⊢
 split
 ·rename_i k7
  rw [if_pos k7] at jr
  unfold Sh.hearCross at jr ⊢
  split
  ·exact Gr.refl s
  rename_i n1
  split
  ·exact Gr.refl s
  rename_i n2
  rw [if_neg n1, if_neg n2] at jr
  have e4 : (if (s.jrn ⟨4, (datP t).seq, (datP t).it, mk0, [], []⟩).1 = 0 then ((0, ackB (s.jrn ⟨4, (datP t).seq, (datP t).it, mk0, [], []⟩).2.ms.n), (s.jrn ⟨4, (datP t).seq, (datP t).it, mk0, [], []⟩).2) else (((s.jrn ⟨4, (datP t).seq, (datP t).it, mk0, [], []⟩).1, []), (s.jrn ⟨4, (datP t).seq, (datP t).it, mk0, [], []⟩).2) : (Int × List UInt8) × Sh).2 = (s.jrn ⟨4, (datP t).seq, (datP t).it, mk0, [], []⟩).2 := by split <;> rfl
  rw [e4]
  obtain ⟨_, q0, q1, hit⟩ := dat_7 k7
  have eq : (datP t).seq = s.ms.n + 1 := by omega
  have ma : s.mayArr (datP t).it = true := by
   cases hm : s.mayArr (datP t).it
   ·exact absurd (.inr hm) n2
   ·rfl
  have md := mayArr_ds ma
  refine key _ ?_ ⟨.inr (.inr (.inr (.inl rfl))), fun e => absurd e (by show ¬ (4 : Int) = 1; decide), fun e => absurd e (by show ¬ (4 : Int) = 2; decide), id_i64 (it_parts hit).1, fun _ => ⟨eq, ?_, md.2.2.2, hit, dat_wf t, md.2.2.1, fun hs => Int.not_lt.1 (fun hlt => md.2.1 ⟨hs, hlt⟩)⟩, fun e => absurd e (by show ¬ (4 : Int) = 5; decide)⟩ (.inl rfl)
  ·exact told_arr (q := (datP t).seq) (by omega) (by omega) hit (dat_wf t)
  ·show s.ms.n < 65535
   omega
 split
 ·rename_i k8
  obtain ⟨_, z0, z1⟩ := dat_8 k8
  unfold Sh.hearAck
  split
  ·exact Gr.refl s
  ·rename_i n1
   exact key (ackedRec (datP t).seq) (told_acked z0 z1) ⟨.inr (.inr (.inr (.inr rfl))), fun e => absurd e (by show ¬ (5 : Int) = 1; decide), fun e => absurd e (by show ¬ (5 : Int) = 2; decide), by unfold i64B ackedRec it0; simp, fun e => absurd e (by show ¬ (5 : Int) = 4; decide), fun _ => ⟨by show s.ms.a < (datP t).seq; omega, by show (datP t).seq <= s.ms.s; omega⟩⟩ (.inr rfl)
 ·exact Gr.refl s
section
variable {k : Kp} {p : Pr} {i j : Int}
theorem dv_gr (hj : is01 j) : ∀ (m : Nat) {p : Pr}, AI k p -> Gr (p.sh j) ((dv j m p).sh j)
 | 0, p, _ => Gr.refl _
 | m + 1, p, h => by
  show Gr (p.sh j) ((dv j m (p.deliver j 0).2).sh j)
  refine Gr.trans ?_ (dv_gr hj m (h.dlv hj))
  cases hf : p.fl j with
  | nil => rw [dlv_nil hj hf]; exact Gr.refl _
  | cons t T =>
   obtain ⟨_, e2, _, _⟩ := dlv_one hj (h.fr hj).1.up hf
   obtain ⟨⟨r, g⟩, _⟩ := h.oi.gd.at hj
   rw [e2]
   exact hear_gr g (h.fr hj).1 t
theorem dv_quiet (hj : is01 j) : ∀ (m : Nat) {p : Pr}, AI k p -> (∀ t ∈ (p.fl j).take m, (datP t).kind ≠ 7) →
  ((dv j m p).sh j).jl <= (p.sh j).jl + 7 * m /\ ((dv j m p).sh j).ms.n = (p.sh j).ms.n /\ ((dv j m p).sh j).ds.it = (p.sh j).ds.it /\ (dv j m p).fl (1 - j) = p.fl (1 - j)
 | 0, p, _, _ => ⟨Nat.le_refl _, rfl, rfl, rfl⟩
 | m + 1, p, h, ht => by
  show ((dv j m (p.deliver j 0).2).sh j).jl <= _ /\ ((dv j m (p.deliver j 0).2).sh j).ms.n = _ /\ ((dv j m (p.deliver j 0).2).sh j).ds.it = _ /\ (dv j m (p.deliver j 0).2).fl (1 - j) = _
  cases hf : p.fl j with
  | nil =>
   have r := dv_quiet hj m h (by rw [hf]; simp)
   rw [dlv_nil hj hf]
   exact ⟨by omega, r.2⟩
  | cons t T =>
   rw [hf] at ht
   obtain ⟨e1, e2, _, e4⟩ := dlv_one hj (h.fr hj).1.up hf
   obtain ⟨⟨r, g⟩, _⟩ := h.oi.gd.at hj
   obtain ⟨q1, q2, q3, q4⟩ := (hear_free g (h.fr hj).1 t).2.2.2 (ht t (by simp))
   have rr := dv_quiet hj m (h.dlv hj) (by rw [e1]; exact fun u hu => ht u (by rw [List.take_succ_cons]; exact .tail _ hu))
   rw [if_pos q1] at e4
   rw [e2, e4] at rr
   exact ⟨by omega, rr.2.1.trans q3, rr.2.2.1.trans q4, rr.2.2.2⟩
theorem dv_stale (hj : is01 j) : ∀ (m : Nat) {p : Pr}, AI k p -> m <= (p.fl j).length -> (p.fl (1 - j)).length + m <= 32 -> (∀ t ∈ (p.fl j).take m, (datP t).kind = 7 /\ (datP t).seq <= (p.sh j).ms.n) →
  (dv j m p).sh j = p.sh j /\ (dv j m p).fl (1 - j) = p.fl (1 - j) ++ List.replicate m (ackB (p.sh j).ms.n)
 | 0, p, _, _, _, _ => ⟨rfl, by show p.fl (1 - j) = _; simp⟩
 | m + 1, p, h, hm, hl, ht => by
  show (dv j m (p.deliver j 0).2).sh j = _ /\ (dv j m (p.deliver j 0).2).fl (1 - j) = _
  cases hf : p.fl j with
  | nil => rw [hf] at hm; simp at hm
  | cons t T =>
   rw [hf] at ht hm
   obtain ⟨e1, e2, _, e4⟩ := dlv_one hj (h.fr hj).1.up hf
   obtain ⟨k7, k8⟩ := ht t (by simp)
   obtain ⟨s1, s2⟩ := hear_stale (s := p.sh j) t k7 k8
   rw [s1] at e2
   rw [s2, if_neg (ackB_ne _)] at e4
   have e5 : (p.deliver j 0).2.fl (1 - j) = p.fl (1 - j) ++ [ackB (p.sh j).ms.n] := by
    rw [e4]; unfold putT; rw [if_pos (by omega)]
   have r := dv_stale hj m (h.dlv hj) (by rw [e1]; simp at hm; exact hm) (by rw [e5]; simp; omega) (by
    rw [e1, e2]
    exact fun u hu => ht u (by rw [List.take_succ_cons]; exact .tail _ hu))
   rw [e2, e5] at r
   refine ⟨r.1, ?_⟩
   rw [r.2, List.append_assoc]
   rfl
end
section
variable {k : Kp} {p : Pr} {i j : Int}
theorem ls_fr (h : AI k p) (hi : is01 i) : p.ls i = (p.sh i).ds := ls_up h.oi.gd hi (h.fr hi).1.up
theorem sent_is (h : AI k p) (hi : is01 i) (hg : (p.sh i).ms.g < 65535) (st : St i p) : ∃ ns : List Int, ns.length <= 8 /\ AI k ((p.snap i).2.send i).2 /\ ((p.snap i).2.send i).2.fl (1 - i) = ns.map ackB ++ (p.sh i).ds.ob.map crossB /\ ((p.snap i).2.send i).2.fl i = [] /\ ((p.snap i).2.send i).2.sh i = (p.sh i).snap.2 /\ ((p.snap i).2.send i).2.sh (1 - i) = p.sh (1 - i) /\ (p.sh i).snap.2.ds = { (p.sh i).ds with ms := { (p.sh i).ms with g := (p.sh i).ms.g + 1 } } := by
 obtain ⟨a1, s1, s2, s3, s4⟩ := h.snap hi hg
 obtain ⟨b1, t1, t2, t3⟩ := a1.send hi
 obtain ⟨⟨r, g⟩, _⟩ := h.oi.gd.at hi
 have sf := snap_free g (h.fr hi).1 (h.fr hi).2 hg
 have ob : ((p.snap i).2.sh i).ob = (p.sh i).ds.ob := by rw [s1]; exact congrArg Ds.ob sf.2.2
 obtain ⟨ns, n1, n2⟩ := st.fo
 have o8 := ob_8 h hi
 refine ⟨ns, n2, b1, ?_, by rw [t2, s3]; exact st.fi, by rw [t1 i hi, s1], by rw [t1 (1 - i) (is01_o hi), s2], sf.2.2⟩
 rw [t3, s4, ob, n1]
 exact puts_fit _ _ (by rw [List.length_map, List.length_map]; omega)
theorem cross_dat (h : AI k p) (hi : is01 i) : ∀ en ∈ (p.sh i).ds.ob, datP (crossB en) = crossRc en := fun en hen => by
 obtain ⟨⟨r, g⟩, _⟩ := h.oi.gd.at hi
 obtain ⟨_, _, _, _, _, has, _⟩ := g.has (h.fr hi).1.up
 have c := cross_ok has en hen
 rcases dat_cross c.1 c.2 (k := 16) with ⟨_, e⟩ | ⟨n7, n8⟩
 ·rwa [List.take_of_length_le (by rw [crossB_len]; omega)] at e
 ·rw [List.take_of_length_le (by rw [crossB_len]; omega)] at n7
  have wr : WfR (crossRc en) := ⟨c.2, by simp [crossRc], by simp [crossRc]⟩
  unfold datP crossB
  rw [if_pos (decB_enc _ c.1 wr), dec_enc _ c.1 wr]
theorem hr_more (h : AI k p) (hi : is01 i) (hg : (p.sh i).ms.g < 65535) (st : St i p) (out : (p.sh (1 - i)).ms.n < (p.sh i).ms.s) (rm : ((p.sh (1 - i)).ds.it.length : Int) < (p.sh (1 - i)).cI) : (p.sh (1 - i)).ms.n + 1 <= ((hr i p).sh (1 - i)).ms.n := by
 have ho := is01_o hi
 have ee : 1 - (1 - i) = i := by omega
 obtain ⟨ns, n8, b1, f1, f2, t1, t2, sd⟩ := sent_is h hi hg st
 have ex := h.pe.at hi
 have ww := h.oi.w.at hi
 rw [ls_fr h hi] at ex
 have wa : (p.sh i).ds.ms.a <= (p.sh (1 - i)).ds.ms.n := by
  have := ww.a
  rwa [ls_fr h hi, ls_fr h ho] at this
 have len := ex.len
 obtain ⟨b, hb⟩ : ∃ b : Nat, (p.sh (1 - i)).ms.n - (p.sh i).ms.a = b := ⟨((p.sh (1 - i)).ms.n - (p.sh i).ms.a).toNat, by
  have : (p.sh i).ms.a <= (p.sh (1 - i)).ms.n := wa
  omega⟩
 have hbl : b < (p.sh i).ds.ob.length := by
  have e1 : (p.sh i).ds.ms.s = (p.sh i).ms.s := rfl
  have e2 : (p.sh i).ds.ms.a = (p.sh i).ms.a := rfl
  omega
 have o8 := ob_8 h hi
 have sqb := ex.sq b hbl
 have sqb' : (p.sh i).ds.ob[b].sq = (p.sh (1 - i)).ms.n + 1 := by
  rw [sqb]
  show (p.sh i).ms.a + 1 + b = _
  omega
 have cd := cross_dat h hi
 generalize hp2 : ((p.snap i).2.send i).2 = p2 at b1 f1 f2 t1 t2
 obtain ⟨m, hm⟩ : ∃ m, (32 : Nat) = ns.length + (b + (1 + m)) := ⟨31 - ns.length - b, by omega⟩
 have eh : hr i p = dv (1 - i) m (dv (1 - i) 1 (dv (1 - i) b (dv (1 - i) ns.length p2))) := by
  show dv (1 - i) 32 ((p.snap i).2.send i).2 = _
  rw [hp2, hm, dv_add, dv_add, dv_add]
 have q1 := dv_quiet ho ns.length b1 (by
  rw [f1, List.take_left' (List.length_map ..)]
  intro t ht
  obtain ⟨n, _, rfl⟩ := List.mem_map.1 ht
  exact ack_not7 n)
 have d1 := dv_drop ho ns.length b1
 rw [f1, List.drop_left' (List.length_map ..), ee] at d1
 have a3 := AI.dv ho ns.length b1
 have g1 := dv_gr ho ns.length b1
 rw [ee, f2] at q1
 rw [t2] at q1 g1
 generalize dv (1 - i) ns.length p2 = p3 at eh q1 d1 a3 g1
 have q2 := dv_stale ho b a3 (by rw [d1.1, List.length_map]; omega) (by rw [ee, q1.2.2.2]; simp; omega) (by
  rw [d1.1, <- List.map_take]
  intro t ht
  obtain ⟨en, hen, rfl⟩ := List.mem_map.1 ht
  obtain ⟨n, hn, rfl⟩ := List.getElem_of_mem hen
  rw [List.length_take] at hn
  rw [List.getElem_take]
  have hmem : (p.sh i).ds.ob[n]'(by omega) ∈ (p.sh i).ds.ob := List.getElem_mem _
  rw [cd _ hmem]
  refine ⟨rfl, ?_⟩
  show ((p.sh i).ds.ob[n]'(by omega)).sq <= _
  rw [ex.sq n (by omega), q1.2.1]
  show (p.sh i).ms.a + 1 + n <= _
  omega)
 have d2 := dv_drop ho b a3
 rw [d1.1, ee] at d2
 have a4 := AI.dv ho b a3
 rw [ee] at q2
 generalize dv (1 - i) b p3 = p4 at eh q2 d2 a4
 have hd : p4.fl (1 - i) = crossB (p.sh i).ds.ob[b] :: ((p.sh i).ds.ob.map crossB).drop (b + 1) := by
  rw [d2.1, List.drop_eq_getElem_cons (by rw [List.length_map]; exact hbl), List.getElem_map]
 have dt := cd (p.sh i).ds.ob[b] (List.getElem_mem hbl)
 obtain ⟨⟨r4, g4⟩, no4⟩ := a4.oi.gd.at ho
 have f4 := a4.fr ho
 obtain ⟨_, _, _, _, _, has4, _⟩ := g4.has f4.1.up
 have n4 : (p4.sh (1 - i)).ms.n = (p.sh (1 - i)).ms.n := by rw [q2.1]; exact q1.2.1
 have i4 : (p4.sh (1 - i)).ds.it = (p.sh (1 - i)).ds.it := by rw [q2.1]; exact q1.2.2.1
 have s4 : p4.sh i = (p.sh i).snap.2 := by rw [d2.2.1, d1.2.1, t1]
 have cI4 : (p4.sh (1 - i)).cI = (p.sh (1 - i)).cI := by rw [q2.1]; exact g1.cI
 have j4 : (p4.sh (1 - i)).jl <= (p.sh (1 - i)).jl + 7 * ns.length := by rw [q2.1]; exact q1.1
 have w4 := a4.oi.w.at hi
 have ob4 : (p4.ls i).ob = (p.sh i).ds.ob := by rw [ls_fr a4 hi, s4, sd]
 have hin : (p.sh i).ds.ob[b].it.dd ∈ cnt (p4.ls (1 - i)).ms.n (p4.ls i).ob := by
  unfold cnt
  refine List.mem_map.2 ⟨(p.sh i).ds.ob[b], List.mem_filter.2 ⟨by rw [ob4]; exact List.getElem_mem hbl, ?_⟩, rfl⟩
  refine decide_eq_true ?_
  rw [sqb', ls_fr a4 ho]
  show (p4.sh (1 - i)).ms.n < _
  omega
 have hpl : (p.sh i).ds.ob[b].it.dd ∈ PL (p4.ls i) (p4.ls (1 - i)) := by
  unfold PL thereD
  exact List.mem_append_left _ (List.mem_append_right _ hin)
 have ma : (p4.sh (1 - i)).mayArr (p.sh i).ds.ob[b].it = true := by
  have c1 : sideB (p.sh i).ds.ob[b].it.pl = ((p4.sh (1 - i)).no : Int) := by
   rw [no4]
   exact ex.sd _ (List.getElem_mem hbl)
  have c2 : ¬ ((p.sh i).ds.ob[b].it.sh = ((p4.sh (1 - i)).no : Int) /\ (p4.sh (1 - i)).ms.m < (p.sh i).ds.ob[b].it.nu) := fun ⟨x1, x2⟩ => by
   rw [no4] at x1
   rcases w4.id _ hpl with ⟨y1, _⟩ | ⟨_, y2⟩
   ·have : (p.sh i).ds.ob[b].it.sh = i := y1
    rcases hi with rfl | rfl <;> omega
   ·rw [ls_fr a4 ho] at y2
    have : (p.sh i).ds.ob[b].it.nu <= (p4.sh (1 - i)).ms.m := y2
    omega
  have c3 : hasTh (p4.sh (1 - i)).th (p.sh i).ds.ob[b].it.sh (p.sh i).ds.ob[b].it.nu = false := by
   cases hh : hasTh (p4.sh (1 - i)).th (p.sh i).ds.ob[b].it.sh (p.sh i).ds.ob[b].it.nu
   ·rfl
   ·obtain ⟨x, hx, e1, e2⟩ := (has_th (s := p4.sh (1 - i)) _ _).1 hh
    have nd := w4.nd
    unfold PL at nd
    have dj := (List.nodup_append.1 nd).2.2
    have m1 : (p.sh i).ds.ob[b].it.dd ∈ thereD (p4.ls i) (p4.ls (1 - i)) := by unfold thereD; exact List.mem_append_right _ hin
    have m2 : (p.sh i).ds.ob[b].it.dd ∈ thereD (p4.ls (1 - i)) (p4.ls i) := by
     unfold thereD
     refine List.mem_append_left _ (List.mem_map.2 ⟨x, by rw [ls_fr a4 ho]; exact hx, ?_⟩)
     exact dd_ext e1 e2
    exact absurd rfl (dj _ m1 _ m2)
  have c4 : ¬ (p4.sh (1 - i)).cI <= ((p4.sh (1 - i)).th.length : Int) := by
   have := (srtTh_perm (p4.sh (1 - i)).th).length_eq
   have e : (p4.sh (1 - i)).ds.it.length = (srtTh (p4.sh (1 - i)).th).length := rfl
   rw [i4] at e
   rw [cI4]
   omega
  unfold Sh.mayArr
  rw [decide_eq_true c1, c3, decide_eq_false c4]
  simp only [Bool.true_and, Bool.not_false, Bool.and_true]
  cases hx : (decide ((p.sh i).ds.ob[b].it.sh = ((p4.sh (1 - i)).no : Int)) && decide ((p4.sh (1 - i)).ms.m < (p.sh i).ds.ob[b].it.nu))
  ·rfl
  ·simp only [Bool.and_eq_true, decide_eq_true_eq] at hx
   exact absurd hx c2
 have jl0 := st.jl
 have ob1 := ob_8 h ho
 obtain ⟨⟨rj, gj⟩, _⟩ := h.oi.gd.at ho
 have i16 := gj.i1
 have hn := hear_next f4.1 (crossB (p.sh i).ds.ob[b]) (by rw [dt]; rfl) (by rw [dt, n4]; exact sqb') (by rw [dt]; exact ma) (by have := f4.2; omega)
 obtain ⟨_, e2, _, _⟩ := dlv_one ho f4.1.up hd
 have hit := (has4.it)
 have last : ((dv (1 - i) 1 p4).sh (1 - i)).ms.n = (p.sh (1 - i)).ms.n + 1 := by
  show ((p4.deliver (1 - i) 0).2.sh (1 - i)).ms.n = _
  rw [e2, hn.1, dt]
  obtain ⟨⟨ri, gi⟩, _⟩ := h.oi.gd.at hi
  obtain ⟨_, _, _, _, _, hasi, _⟩ := gi.has (h.fr hi).1.up
  have c := hasi.en _ (List.getElem_mem hbl)
  have md := mayArr_ds ma
  have sm : (p4.sh (1 - i)).ms.n < 65535 := by
   have := hasi.mo.s1
   have e : (p.sh i).ds.ms.s = (p.sh i).ms.s := rfl
   omega
  have s0 : 0 <= (p4.sh (1 - i)).ms.n := has4.mo.n0
  have ok : DOk (p4.sh (1 - i)).no (p4.sh (1 - i)).cI (p4.sh (1 - i)).ds (arrRec ((p4.sh (1 - i)).ms.n + 1) (p.sh i).ds.ob[b].it) := ⟨.inr (.inr (.inr (.inl rfl))), fun e => absurd e (by show ¬ (4 : Int) = 1; decide), fun e => absurd e (by show ¬ (4 : Int) = 2; decide), id_i64 (it_parts c.1).1, fun _ => ⟨rfl, sm, md.2.2.2, c.1, c.2.1, md.2.2.1, fun hs => Int.not_lt.1 (fun hlt => md.2.1 ⟨hs, hlt⟩)⟩, fun e => absurd e (by show ¬ (4 : Int) = 5; decide)⟩
  have z := hn.2
  rw [dt] at z
  have z' : ((p4.sh (1 - i)).jrn (arrRec ((p4.sh (1 - i)).ms.n + 1) (p.sh i).ds.ob[b].it)).1 = 0 := z
  show ((p4.sh (1 - i)).jrn (arrRec ((p4.sh (1 - i)).ms.n + 1) (p.sh i).ds.ob[b].it)).2.ds.ms.n = _
  rcases jrn_step g4 f4.1.up (told_arr (by omega) (by omega) c.1 c.2.1) ok with ⟨x, _⟩ | ⟨x, _⟩ | ⟨_, _, x⟩
  ·rw [x] at z'; exact absurd z' (by decide)
  ·rw [x] at z'; exact absurd z' (by decide)
  ·rw [x, <- n4]; rfl
 rw [eh, <- last]
 exact (dv_gr ho m (AI.dv ho 1 a4)).n
end
section
variable {k : Kp} {p : Pr} {i j : Int}
theorem dv_nil (hj : is01 j) : ∀ (m : Nat) {p : Pr}, p.fl j = [] -> dv j m p = p
 | 0, _, _ => rfl
 | m + 1, p, h => by
  show dv j m (p.deliver j 0).2 = p
  rw [dlv_nil hj h]
  exact dv_nil hj m h
theorem hr_acks (h : AI k p) (hi : is01 i) (hg : (p.sh i).ms.g < 65535) (st : St i p) (al : (p.sh (1 - i)).ms.n = (p.sh i).ms.s) : (hr i p).fl i = List.replicate (p.sh i).ds.ob.length (ackB (p.sh i).ms.s) := by
 have ho := is01_o hi
 have ee : 1 - (1 - i) = i := by omega
 obtain ⟨ns, n8, b1, f1, f2, t1, t2, sd⟩ := sent_is h hi hg st
 have ex := h.pe.at hi
 rw [ls_fr h hi] at ex
 have len := ex.len
 have o8 := ob_8 h hi
 have cd := cross_dat h hi
 generalize hp2 : ((p.snap i).2.send i).2 = p2 at b1 f1 f2 t1 t2
 obtain ⟨m, hm⟩ : ∃ m, (32 : Nat) = ns.length + ((p.sh i).ds.ob.length + m) := ⟨32 - ns.length - (p.sh i).ds.ob.length, by omega⟩
 have eh : hr i p = dv (1 - i) m (dv (1 - i) (p.sh i).ds.ob.length (dv (1 - i) ns.length p2)) := by
  show dv (1 - i) 32 ((p.snap i).2.send i).2 = _
  rw [hp2, hm, dv_add, dv_add]
 have q1 := dv_quiet ho ns.length b1 (by
  rw [f1, List.take_left' (List.length_map ..)]
  intro t ht
  obtain ⟨n, _, rfl⟩ := List.mem_map.1 ht
  exact ack_not7 n)
 have d1 := dv_drop ho ns.length b1
 rw [f1, List.drop_left' (List.length_map ..), ee] at d1
 have a3 := AI.dv ho ns.length b1
 rw [ee, f2] at q1
 rw [t2] at q1
 generalize dv (1 - i) ns.length p2 = p3 at eh q1 d1 a3
 have q2 := dv_stale ho (p.sh i).ds.ob.length a3 (by rw [d1.1, List.length_map]; exact Nat.le_refl _) (by rw [ee, q1.2.2.2]; simp; omega) (by
  rw [d1.1, <- List.map_take]
  intro t ht
  obtain ⟨en, hen, rfl⟩ := List.mem_map.1 ht
  obtain ⟨n, hn, rfl⟩ := List.getElem_of_mem hen
  rw [List.length_take] at hn
  rw [List.getElem_take]
  have hmem : (p.sh i).ds.ob[n]'(by omega) ∈ (p.sh i).ds.ob := List.getElem_mem _
  rw [cd _ hmem]
  refine ⟨rfl, ?_⟩
  show ((p.sh i).ds.ob[n]'(by omega)).sq <= _
  rw [ex.sq n (by omega), q1.2.1, al]
  have e1 : (p.sh i).ds.ms.s = (p.sh i).ms.s := rfl
  have e2 : (p.sh i).ds.ms.a = (p.sh i).ms.a := rfl
  omega)
 have d2 := dv_drop ho (p.sh i).ds.ob.length a3
 rw [ee] at q2
 rw [eh, dv_nil ho m (by rw [d2.1, d1.1]; exact List.drop_eq_nil_of_le (by rw [List.length_map]; exact Nat.le_refl _)), q2.2, q1.2.2.2, q1.2.1, al]
 rfl
theorem hr_clear (h : AI k p) (hj : is01 j) (hg : (p.sh j).ms.g < 65535) (st : St j p) {rest : List (List UInt8)} (hd : p.fl (1 - j) = ackB (p.sh (1 - j)).ms.s :: rest) (ne : (p.sh (1 - j)).ds.ob ≠ []) : ((hr j p).sh (1 - j)).ds.ob = [] := by
 have ho := is01_o hj
 have ee : 1 - (1 - j) = j := by omega
 have s0 := h.snap hj hg
 obtain ⟨a1, s1, s2, s3, s4⟩ := s0
 obtain ⟨b1, t1, t2, t3⟩ := a1.send hj
 have ex := h.pe.at ho
 rw [ls_fr h ho] at ex
 have len := ex.len
 have lp : 0 < (p.sh (1 - j)).ds.ob.length := List.length_pos_iff.2 ne
 obtain ⟨⟨r, g⟩, _⟩ := h.oi.gd.at ho
 have fo := h.fr ho
 obtain ⟨_, _, _, _, _, has, _⟩ := g.has fo.1.up
 have z0 : 0 <= (p.sh (1 - j)).ms.s := has.mo.s0
 have z1 : (p.sh (1 - j)).ms.s <= 65535 := has.mo.s1
 have e1 : (p.sh (1 - j)).ds.ms.s = (p.sh (1 - j)).ms.s := rfl
 have e2 : (p.sh (1 - j)).ds.ms.a = (p.sh (1 - j)).ms.a := rfl
 have fh : ∃ T, ((p.snap j).2.send j).2.fl (1 - j) = ackB (p.sh (1 - j)).ms.s :: T := by
  rw [t3, s4, hd]
  have key : ∀ (l fs : List (List UInt8)) (x : List UInt8), ∃ T, l.foldl putT (x :: fs) = x :: T := by
   intro l
   induction l with
   | nil => exact fun fs x => ⟨fs, rfl⟩
   | cons y l ih =>
    intro fs x
    have : ∃ fs', putT (x :: fs) y = x :: fs' := by
     unfold putT
     split
     ·exact ⟨fs ++ [y], rfl⟩
     ·exact ⟨fs, rfl⟩
    obtain ⟨fs', e⟩ := this
    obtain ⟨T, eT⟩ := ih fs' x
    exact ⟨T, by show l.foldl putT (putT (x :: fs) y) = _; rw [e, eT]⟩
  exact key _ _ _
 obtain ⟨T, fT⟩ := fh
 have so : ((p.snap j).2.send j).2.sh (1 - j) = p.sh (1 - j) := by rw [t1 (1 - j) ho, s2]
 obtain ⟨_, d2, _, _⟩ := dlv_one ho (by rw [so]; exact fo.1.up) fT
 rw [so] at d2
 have da : datP (ackB (p.sh (1 - j)).ms.s) = ackRc (p.sh (1 - j)).ms.s := by
  rcases dat_ack z0 z1 (k := 5) with ⟨_, e⟩ | ⟨_, n8⟩
  ·rwa [List.take_of_length_le (by rw [ackB_len]; omega)] at e
  ·exfalso
   rw [List.take_of_length_le (by rw [ackB_len]; omega)] at n8
   have hm : mayB (ackRc (p.sh (1 - j)).ms.s) = true := by
    show (isN (p.sh (1 - j)).ms.s && noIt it0 && nobB (ackRc (p.sh (1 - j)).ms.s)) = true
    have : isN (p.sh (1 - j)).ms.s = true := by simp [isN]; omega
    rw [this]; rfl
   have wr : WfR (ackRc (p.sh (1 - j)).ms.s) := ⟨⟨by show (0 : Nat) < _; decide, by show (0 : Nat) < _; decide⟩, by simp [ackRc], by simp [ackRc]⟩
   apply n8
   unfold datP ackB
   rw [if_pos (decB_enc _ hm wr), dec_enc _ hm wr]
   rfl
 have jl := st.jl
 have o8 := ob_8 h ho
 have i16 := g.i1
 have tl := has.tl
 have ok : DOk (p.sh (1 - j)).no (p.sh (1 - j)).cI (p.sh (1 - j)).ds (ackedRec (p.sh (1 - j)).ms.s) := ⟨.inr (.inr (.inr (.inr rfl))), fun e => absurd e (by show ¬ (5 : Int) = 1; decide), fun e => absurd e (by show ¬ (5 : Int) = 2; decide), by unfold i64B ackedRec it0; simp, fun e => absurd e (by show ¬ (5 : Int) = 4; decide), fun _ => ⟨by show (p.sh (1 - j)).ds.ms.a < (p.sh (1 - j)).ms.s; omega, Int.le_refl _⟩⟩
 have hk : ((p.sh (1 - j)).hear (ackB (p.sh (1 - j)).ms.s)).2 = ((p.sh (1 - j)).jrn (ackedRec (p.sh (1 - j)).ms.s)).2 := by
  unfold Sh.hear
  rw [da, if_neg (by show ¬ (8 : Int) = 7; decide), if_pos (by rfl)]
  show ((p.sh (1 - j)).hearAck (p.sh (1 - j)).ms.s).2 = _
  unfold Sh.hearAck
  rw [if_neg (by omega)]
  rfl
 have jf := jrn_free fo.1 (ackedRec (p.sh (1 - j)).ms.s) (by rw [frm_acked]; have := fo.2; omega)
 have ob0 : ((p.sh (1 - j)).jrn (ackedRec (p.sh (1 - j)).ms.s)).2.ds.ob = [] := by
  rcases jrn_step g fo.1.up (told_acked z0 z1) ok with ⟨x, _⟩ | ⟨x, _⟩ | ⟨_, _, x⟩
  ·rw [x] at jf; exact absurd jf.1 (by decide)
  ·rw [x] at jf; exact absurd jf.1 (by decide)
  ·rw [x]
   show keepE (p.sh (1 - j)).ms.s (p.sh (1 - j)).ds.ob = []
   unfold keepE
   rw [List.filter_eq_nil_iff]
   intro e he
   have := (has.en e he).2.2
   rw [gone_iff]
   simp
   omega
 have eh : hr j p = dv (1 - j) 31 (((p.snap j).2.send j).2.deliver (1 - j) 0).2 := rfl
 rw [eh]
 exact (dv_gr ho 31 (b1.dlv ho)).ob (by rw [d2, hk]; exact ob0)
structure Gs (x y : Sh) : Prop where
 it : x.ds.it.length <= y.ds.it.length
 ob : x.ds.ob = [] -> y.ds.ob = []
 n : x.ms.n <= y.ms.n
 s : y.ms.s = x.ms.s
 cI : y.cI = x.cI
 g : y.ms.g <= x.ms.g + 1
theorem hr_gs (h : AI k p) (hi : is01 i) (hg : (p.sh i).ms.g < 65535) : Gs (p.sh i) ((hr i p).sh i) /\ Gs (p.sh (1 - i)) ((hr i p).sh (1 - i)) /\ ((hr i p).sh (1 - i)).ms.g = (p.sh (1 - i)).ms.g := by
 have ho := is01_o hi
 have ee : 1 - (1 - i) = i := by omega
 obtain ⟨a1, s1, s2, s3, s4⟩ := h.snap hi hg
 obtain ⟨b1, t1, t2, t3⟩ := a1.send hi
 obtain ⟨⟨r, g⟩, _⟩ := h.oi.gd.at hi
 have sf := snap_free g (h.fr hi).1 (h.fr hi).2 hg
 have dd := dv_drop ho 32 b1
 rw [ee] at dd
 have ei : (hr i p).sh i = (p.sh i).snap.2 := by
  show (dv (1 - i) 32 ((p.snap i).2.send i).2).sh i = _
  rw [dd.2.1, t1 i hi, s1]
 have so : ((p.snap i).2.send i).2.sh (1 - i) = p.sh (1 - i) := by rw [t1 (1 - i) ho, s2]
 have gr := dv_gr ho 32 b1
 rw [so] at gr
 have gr' : Gr (p.sh (1 - i)) ((hr i p).sh (1 - i)) := gr
 have em : (p.sh i).snap.2.ms = { (p.sh i).ms with g := (p.sh i).ms.g + 1 } := congrArg Ds.ms sf.2.2
 refine ⟨?_, ⟨gr'.it, gr'.ob, gr'.n, gr'.s, gr'.cI, by rw [gr'.g]; omega⟩, gr'.g⟩
 rw [ei]
 exact ⟨by rw [sf.2.2]; exact Nat.le_refl _, fun e => by rw [sf.2.2]; exact e, by rw [em]; exact Int.le_refl _, by rw [em], (snap_cfg _).2.1, by rw [em]; exact Int.le_refl _⟩
def Dn (i : Int) (p : Pr) : Prop := (p.sh i).ds.ob = [] ∨ (p.sh (1 - i)).cI <= ((p.sh (1 - i)).ds.it.length : Int)
theorem hr_sh (h : AI k p) (hi : is01 i) (hg : (p.sh i).ms.g < 65535) {x : Int} (hx : is01 x) : Gs (p.sh x) ((hr i p).sh x) := by
 have r := hr_gs h hi hg
 rcases hi with rfl | rfl <;> rcases hx with rfl | rfl
 ·exact r.1
 ·exact r.2.1
 ·exact r.2.1
 ·exact r.1
theorem Dn.keep (h : AI k p) (hi : is01 i) (hg : (p.sh i).ms.g < 65535) {x : Int} (hx : is01 x) (d : Dn x p) : Dn x (hr i p) := by
 rcases d with d | d
 ·exact .inl ((hr_sh h hi hg hx).ob d)
 ·right
  have r := hr_sh h hi hg (is01_o hx)
  rw [r.cI]
  have := r.it
  omega
def rst (i : Int) (p : Pr) : Int := (p.sh i).ms.s - (p.sh (1 - i)).ms.n
theorem rst_bd (h : AI k p) (hi : is01 i) : 0 <= rst i p /\ rst i p <= 8 := by
 have ww := h.oi.w.at hi
 have a := ww.a
 have n := ww.n
 have ex := (h.pe.at hi).len
 rw [ls_fr h hi] at a n ex
 rw [ls_fr h (is01_o hi)] at a n
 have o8 := ob_8 h hi
 unfold rst
 have e1 : (p.sh i).ds.ms.s = (p.sh i).ms.s := rfl
 have e2 : (p.sh i).ds.ms.a = (p.sh i).ms.a := rfl
 have e3 : (p.sh (1 - i)).ds.ms.n = (p.sh (1 - i)).ms.n := rfl
 omega
theorem pair_less (h : AI k p) (hi : is01 i) (hg : (p.sh i).ms.g < 65535) (hg' : (p.sh (1 - i)).ms.g < 65535) (st : St i p) : Dn i (hr (1 - i) (hr i p)) ∨ rst i (hr (1 - i) (hr i p)) + 1 <= rst i p := by
 have ho := is01_o hi
 have ee : 1 - (1 - i) = i := by omega
 obtain ⟨ns, n1, n2⟩ := st.fo
 have a1 := (hr_any h hi hg (by rw [n1, List.length_map]; omega)).1
 have g1 := hr_gs h hi hg
 have gq : ((hr i p).sh (1 - i)).ms.g < 65535 := by rw [g1.2.2]; exact hg'
 have st' := St.next h hi hg st.fi n1 (by omega)
 by_cases d : Dn i p
 ·exact .inl ((d.keep h hi hg hi).keep a1 ho gq hi)
 have nob : (p.sh i).ds.ob ≠ [] := fun e => d (.inl e)
 have rm : ((p.sh (1 - i)).ds.it.length : Int) < (p.sh (1 - i)).cI := by
  rcases Int.lt_or_le ((p.sh (1 - i)).ds.it.length : Int) (p.sh (1 - i)).cI with c | c
  ·exact c
  ·exact absurd (.inr c) d
 have rb := rst_bd h hi
 have s2 := hr_sh a1 ho gq hi
 have s3 := hr_sh a1 ho gq ho
 by_cases out : (p.sh (1 - i)).ms.n < (p.sh i).ms.s
 ·right
  have m := hr_more h hi hg st out rm
  unfold rst
  rw [s2.s, g1.1.s]
  have := s3.n
  omega
 ·left
  left
  have al : (p.sh (1 - i)).ms.n = (p.sh i).ms.s := by unfold rst at rb; omega
  have ac := hr_acks h hi hg st al
  have lp : 0 < (p.sh i).ds.ob.length := List.length_pos_iff.2 nob
  obtain ⟨m, hm⟩ : ∃ m, (p.sh i).ds.ob.length = m + 1 := ⟨(p.sh i).ds.ob.length - 1, by omega⟩
  by_cases ne : ((hr i p).sh i).ds.ob = []
  ·exact s2.ob ne
  ·have := hr_clear a1 ho gq st' (rest := List.replicate m (ackB (p.sh i).ms.s)) (by rw [ee, ac, hm, g1.1.s]; rfl) (by rw [ee]; exact ne)
   rwa [ee] at this
end
def rnd (p : Pr) : Pr := hr 1 (hr 0 p)
def rnds : Nat -> Pr -> Pr
 | 0, p => p
 | m + 1, p => rnd (rnds m p)
structure Bd (k : Kp) (G : Int) (p : Pr) : Prop where
 ai : AI k p
 l0 : (p.fl 0).length <= 32
 l1 : (p.fl 1).length <= 32
 g0 : (p.sh 0).ms.g <= G
 g1 : (p.sh 1).ms.g <= G
section
variable {k : Kp} {p : Pr} {G : Int}
theorem o10 : (1 : Int) - 0 = 1 := rfl
theorem o11 : (1 : Int) - 1 = 0 := rfl
theorem half0 (h : Bd k G p) (hG : G < 65535) : AI k (hr 0 p) /\ (hr 0 p).fl 1 = [] /\ ((hr 0 p).fl 0).length <= 32 /\ ((hr 0 p).sh 0).ms.g <= G + 1 /\ ((hr 0 p).sh 1).ms.g <= G := by
 have z : is01 0 := .inl rfl
 have hg : (p.sh 0).ms.g < 65535 := by have := h.g0; omega
 have A := hr_any h.ai z hg h.l1
 rw [o10] at A
 obtain ⟨a1, a2, _, a4, _⟩ := A
 have g := hr_gs h.ai z hg
 rw [o10] at g
 have x1 := h.g0
 have x2 := h.g1
 have x3 := g.1.g
 have x4 := g.2.2
 exact ⟨a1, a2, a4 h.l0, Int.le_trans x3 (Int.add_le_add_right x1 1), by rw [x4]; exact x2⟩
theorem rnd_bd (h : Bd k G p) (hG : G < 65534) : Bd k (G + 1) (rnd p) /\ (rnd p).fl 0 = [] /\ (∃ ns : List Int, (rnd p).fl 1 = ns.map ackB /\ ns.length <= 32) /\ (hr 0 p).fl 1 = [] := by
 have z : is01 1 := .inr rfl
 unfold rnd
 obtain ⟨a1, a2, a3, a4, a5⟩ := half0 h (by omega)
 have hg : ((hr 0 p).sh 1).ms.g < 65535 := Int.lt_of_le_of_lt a5 (by omega)
 have B := hr_any a1 z hg a3
 rw [o11] at B
 obtain ⟨b1, b2, _, b4, b5⟩ := B
 have g := hr_gs a1 z hg
 rw [o11] at g
 have x3 := g.1.g
 have x4 := g.2.2
 have e0 : (hr 1 (hr 0 p)).fl 0 = [] := b2
 have l1 : ((hr 1 (hr 0 p)).fl 1).length <= 32 := b4 (by rw [a2]; simp)
 obtain ⟨_, ns, c1, _⟩ := b5 [] (by rw [a2]; rfl)
 have c1' : (hr 1 (hr 0 p)).fl 1 = ns.map ackB := by simpa using c1
 refine ⟨⟨b1, by rw [e0]; simp, l1, ?_, ?_⟩, e0, ⟨ns, c1', by rw [c1', List.length_map] at l1; exact l1⟩, a2⟩
 ·rw [x4]
  exact a4
 ·exact Int.le_trans x3 (Int.add_le_add_right a5 1)
theorem rnds_bd (h : Bd k G p) : ∀ m : Nat, G + m < 65535 -> Bd k (G + m) (rnds m p)
 | 0, _ => by show Bd k (G + 0) p; rw [Int.add_zero]; exact h
 | m + 1, hm => by
  have r := (rnd_bd (rnds_bd h m (by omega)) (by omega)).1
  rw [show G + ((m + 1 : Nat) : Int) = G + (m : Int) + 1 by omega]
  exact r
theorem warm (h : Bd k G p) : ∀ t : Nat, G + (t + 2 : Nat) < 65534 -> St 0 (rnds (t + 2) p) /\ St 1 (hr 0 (rnds (t + 1) p)) := by
 have z0 : is01 0 := .inl rfl
 have z1 : is01 1 := .inr rfl
 have go : ∀ {q : Pr} {H : Int}, Bd k H q -> H < 65534 -> q.fl 0 = [] -> (∃ ns : List Int, q.fl 1 = ns.map ackB /\ ns.length <= 32) -> St 1 (hr 0 q) /\ St 0 (rnd q) := fun {q H} b hH e0 ⟨ns, e1, e2⟩ => by
  obtain ⟨a1, a2, a3, a4, a5⟩ := half0 b (by omega)
  have s1 := St.next b.ai z0 (Int.lt_of_le_of_lt b.g0 (by omega)) e0 (by rw [o10]; exact e1) e2
  rw [o10] at s1
  obtain ⟨ms, f1, f2⟩ := s1.fo
  have s0 := St.next a1 z1 (Int.lt_of_le_of_lt a5 (by omega)) s1.fi f1 (Nat.le_trans f2 (by decide))
  rw [o11] at s0
  exact ⟨s1, s0⟩
 intro t
 induction t with
 | zero =>
  intro hG
  have b1 := rnd_bd h (by omega)
  have r := go (q := rnds 1 p) b1.1 (by omega) b1.2.1 b1.2.2.1
  exact ⟨r.2, r.1⟩
 | succ t ih =>
  intro hG
  have st := (ih (by omega)).1
  have b := rnds_bd h (t + 2) (by omega)
  obtain ⟨ns, e1, e2⟩ := st.fo
  have r := go b (by omega) st.fi ⟨ns, e1, by omega⟩
  exact ⟨r.2, r.1⟩
theorem dir0 (h : Bd k 65000 p) : ∀ t : Nat, t <= 38 -> Dn 0 (rnds (t + 2) p) ∨ rst 0 (rnds (t + 2) p) <= 8 - t := by
 have z0 : is01 0 := .inl rfl
 intro t
 induction t with
 | zero =>
  intro _
  have b := rnds_bd h 2 (by omega)
  right
  have := (rst_bd b.ai z0).2
  simpa using this
 | succ t ih =>
  intro ht
  have b := rnds_bd h (t + 2) (by omega)
  have st := (warm h t (by omega)).1
  have hg : ((rnds (t + 2) p).sh 0).ms.g < 65535 := Int.lt_of_le_of_lt b.g0 (by omega)
  have hg' : ((rnds (t + 2) p).sh (1 - 0)).ms.g < 65535 := by rw [o10]; exact Int.lt_of_le_of_lt b.g1 (by omega)
  obtain ⟨a1, _, _, _, a5⟩ := half0 b (by omega)
  rcases ih (by omega) with d | d
  ·exact .inl ((d.keep b.ai z0 hg z0).keep a1 (.inr rfl) (Int.lt_of_le_of_lt a5 (by omega)) z0)
  ·have P := pair_less b.ai z0 hg hg' st
   rw [o10] at P
   rcases P with e | e
   ·exact .inl e
   ·right
    have e' : rst 0 (rnds (t + 1 + 2) p) + 1 <= rst 0 (rnds (t + 2) p) := e
    omega
theorem dir1 (h : Bd k 65000 p) : ∀ t : Nat, t <= 37 -> Dn 1 (hr 0 (rnds (t + 2) p)) ∨ rst 1 (hr 0 (rnds (t + 2) p)) <= 8 - t := by
 have z0 : is01 0 := .inl rfl
 have z1 : is01 1 := .inr rfl
 intro t
 induction t with
 | zero =>
  intro _
  have b := rnds_bd h 2 (by omega)
  obtain ⟨a1, _, _, _, _⟩ := half0 b (by omega)
  right
  have := (rst_bd a1 z1).2
  simpa using this
 | succ t ih =>
  intro ht
  have b := rnds_bd h (t + 2) (by omega)
  obtain ⟨a1, _, a3, a4, a5⟩ := half0 b (by omega)
  have st := (warm h (t + 1) (by omega)).2
  have b' := rnds_bd h (t + 3) (by omega)
  have hg : ((hr 0 (rnds (t + 2) p)).sh 1).ms.g < 65535 := Int.lt_of_le_of_lt a5 (by omega)
  have hg' : ((hr 0 (rnds (t + 2) p)).sh (1 - 1)).ms.g < 65535 := by rw [o11]; exact Int.lt_of_le_of_lt a4 (by omega)
  rcases ih (by omega) with d | d
  ·exact .inl ((d.keep a1 z1 hg z1).keep b'.ai z0 (Int.lt_of_le_of_lt b'.g0 (by omega)) z1)
  ·have P := pair_less a1 z1 hg hg' st
   rw [o11] at P
   rcases P with e | e
   ·exact .inl e
   ·right
    have e' : rst 1 (hr 0 (rnds (t + 1 + 2) p)) + 1 <= rst 1 (hr 0 (rnds (t + 2) p)) := e
    omega
theorem forty (h : Bd k 65000 p) : AI k (rnds 40 p) /\ Dn 0 (rnds 40 p) /\ Dn 1 (rnds 40 p) := by
 have z0 : is01 0 := .inl rfl
 have z1 : is01 1 := .inr rfl
 have b := rnds_bd h 40 (by omega)
 refine ⟨b.ai, ?_, ?_⟩
 ·rcases dir0 h 38 (by omega) with d | d
  ·exact d
  ·have := (rst_bd b.ai z0).1
   have d' : rst 0 (rnds 40 p) <= 8 - (38 : Nat) := d
   omega
 ·have b39 := rnds_bd h 39 (by omega)
  obtain ⟨a1, _, _, _, a5⟩ := half0 b39 (by omega)
  have d : Dn 1 (hr 0 (rnds 39 p)) := by
   rcases dir1 h 37 (by omega) with d | d
   ·exact d
   ·have := (rst_bd a1 z1).1
    have d' : rst 1 (hr 0 (rnds 39 p)) <= 8 - (37 : Nat) := d
    omega
  exact d.keep a1 z1 (Int.lt_of_le_of_lt a5 (by omega)) z1
end
end Go.Proofs.YtammnaafdhhjaaaGreat
