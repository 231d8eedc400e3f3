import Derived.BigQuiet
import Derived.Test.YtammnaafdhhjaaaGreatRows
import Derived.Test.YtammnaafdhhjaaaGreatJO14
set_option maxHeartbeats 16000000
set_option maxRecDepth 100000
namespace Go.Proofs.YtammnaafdhhjaaaGreat
open Go.RowKit
def CL (w : World) (g off : Nat) (l : List Dd) : Prop := ∀ k (hk : k < l.length), w.cell? ⟨g, off + k * 2, none⟩ = some (.int .i64 l[k].sh) /\ w.cell? ⟨g, off + k * 2 + 1, none⟩ = some (.int .i64 l[k].nu)
def RL (w wr : World) (bk bp : Nat) (vk : Value) (D : Nat -> Prop) (k : Kp) (p : Pr) (g off : Nat) (l : List Dd) : Prop :=
 ∃ v E, KX wr bk bp v E k p /\ KS bk w wr vk D v E /\ CL wr g off l /\ (0 < l.length -> ¬ kF bk v E g /\ g < wr.heap.size)
section
variable {w wr w' w1 w2 : World} {bk bp g off : Nat} {vk v v' : Value} {D E : Nat -> Prop} {k : Kp} {p : Pr} {l : List Dd}
theorem CL.only {A : Nat -> Prop} (h : CL wr g off l) (o : Only wr w' A) (n : 0 < l.length -> ¬ A g) : CL w' g off l := fun k hk => by
 have hp : 0 < l.length := by omega
 exact ⟨o.cell (h k hk).1 (n hp), o.cell (h k hk).2 (n hp)⟩
theorem RL.grown (h : RL w wr bk bp vk D k p g off l) (gr : wr.grownBy w' none) : RL w w' bk bp vk D k p g off l := by
 obtain ⟨v, E, hx, hs, cl, hg⟩ := h
 exact ⟨v, E, hx.grown gr, hs.trans (KS.grown gr), cl.only (Only.grown gr) (by simp), fun hp => ⟨(hg hp).1, Nat.lt_of_lt_of_le (hg hp).2 gr.size⟩⟩
theorem RL.kn (h : RL w wr bk bp vk D k p g off l) : KN w wr bk bp vk D k p := by
 obtain ⟨v, E, hx, hs, _⟩ := h
 exact hs.kn hx
theorem RL.app {n : List Kn} (hx : KX wr bk bp v E k p) (hs : KS bk w wr vk D v E) (cl : CL wr g off l) (hg : 0 < l.length -> ¬ kF bk v E g /\ g < wr.heap.size) (gr : wr.grownBy w1 none) (o : OwnK 0 w2 v' n) (ga : w1.grownBy w2 v.ownBlock) (hv : v'.ownBlock = v.ownBlock ∨ v'.ownBlock = some w1.heap.size) :
  RL w (w2.setCell ⟨bk, 1, none⟩ v') bk bp vk D { k with kn := n } p g off l := by
 obtain ⟨a, b⟩ := (hx.grown gr).appX o ga hv
 have og : Only w1 (w2.setCell ⟨bk, 1, none⟩ v') (fun j => j = bk ∨ v.ownBlock = some j) := ((Only.grown ga).mono (fun j _ e => .inr e)).trans ((Only.set w2 bk 1 v').mono (fun j _ e => .inl (.inl e)))
 refine ⟨v', E, a, (hs.trans (KS.grown gr)).trans b, (cl.only (Only.grown gr) (by simp)).only og (fun hp e => ?_), fun hp => ⟨fun e => ?_, ?_⟩⟩
 ·rcases e with e | e
  ·exact (hg hp).1 (.inl e)
  ·exact (hg hp).1 (.inr (.inl e))
 ·rcases e with e | e | e
  ·exact (hg hp).1 (.inl e)
  ·rcases hv with c | c
   ·rw [c] at e; exact (hg hp).1 (.inr (.inl e))
   ·rw [c] at e
    injection e with e
    have := (hg hp).2
    have := gr.size
    omega
  ·exact (hg hp).1 (.inr (.inr e))
 ·have := (hg hp).2
  have := gr.size
  have := og.size
  omega
theorem RL.how {kg N c : Nat} (hx : KX wr bk bp (.slice (some ⟨kg, 0, none⟩) N c) E k p) (hs : KS bk w wr vk D (.slice (some ⟨kg, 0, none⟩) N c) E) (cl : CL wr g off l) (hg : 0 < l.length -> ¬ kF bk (.slice (some ⟨kg, 0, none⟩) N c) E g /\ g < wr.heap.size) (hN : k.kn.length = N) (n : Nat) (u : Int) (hn : n < N) :
  KX (wr.setCell ⟨kg, n * 3 + 2, none⟩ (.int .i64 u)) bk bp (.slice (some ⟨kg, 0, none⟩) N c) E (k.how n u) p /\ KS bk w (wr.setCell ⟨kg, n * 3 + 2, none⟩ (.int .i64 u)) vk D (.slice (some ⟨kg, 0, none⟩) N c) E /\ CL (wr.setCell ⟨kg, n * 3 + 2, none⟩ (.int .i64 u)) g off l /\ (0 < l.length -> ¬ kF bk (.slice (some ⟨kg, 0, none⟩) N c) E g /\ g < (wr.setCell ⟨kg, n * 3 + 2, none⟩ (.int .i64 u)).heap.size) := by
 have o := Only.set wr kg (n * 3 + 2) (.int .i64 u)
 have ng : ¬ E kg /\ kg ≠ bk := hx.nv kg rfl
 refine ⟨⟨?_, ?_, hx.pw.only o (fun j _ hj e => ng.1 (e ▸ hj)), fun j hj => Nat.lt_of_lt_of_le (hx.lt j hj) o.size, hx.nb, hx.nv⟩, hs.trans ⟨fun _ e => .inl e, o.mono (fun j _ e => .inr (.inl (by subst e; rfl)))⟩, cl.only o (fun hp e => (hg hp).1 (.inr (.inl (by subst e; rfl)))), fun hp => ⟨(hg hp).1, Nat.lt_of_lt_of_le (hg hp).2 o.size⟩⟩
 ·exact hx.at_.only o (fun e => ng.2 e.symm)
 ·have ow := hx.ow
  unfold OwnK at ow ⊢
  rw [show (k.how n u).kn = k.kn.modify n (fun q => { q with how := u }) from rfl, List.length_modify, flat_how _ _ _ (by omega), hN] at *
  exact (ow.stored (n * 3 + 2) (.int .i64 u)).1
end
def knS (K1 : List Kn) (l : List Dd) (n : Nat) : List Kn := (K1.take n).map (settle l) ++ K1.drop n
theorem knS_len (K1 : List Kn) (l : List Dd) (n : Nat) : (knS K1 l n).length = K1.length := by
 unfold knS; simp; omega
theorem knS_zero (K1 : List Kn) (l : List Dd) : knS K1 l 0 = K1 := by simp [knS]
theorem knS_all (K1 : List Kn) (l : List Dd) : knS K1 l K1.length = K1.map (settle l) := by simp [knS]
theorem knS_at {K1 : List Kn} {l : List Dd} {n : Nat} (h : n < K1.length) : (knS K1 l n)[n]'(by rw [knS_len]; exact h) = K1[n] := by
 unfold knS
 rw [List.getElem_append_right (by simp; omega)]
 simp [Nat.min_eq_left (Nat.le_of_lt h)]
theorem knS_succ {K1 : List Kn} {l : List Dd} {n : Nat} (h : n < K1.length) : knS K1 l (n + 1) = (knS K1 l n).set n (settle l K1[n]) := by
 unfold knS
 rw [List.take_succ_eq_append_getElem h, List.map_append, List.append_assoc, List.set_append_right _ _ (by simp; omega)]
 have e : n - ((K1.take n).map (settle l)).length = 0 := by simp; omega
 rw [e, List.drop_eq_getElem_cons h]
 rfl
theorem knS_same {K1 : List Kn} {l : List Dd} {n : Nat} (h : n < K1.length) (h3 : K1[n].how ≠ 3) : knS K1 l (n + 1) = knS K1 l n := by
 rw [knS_succ h]
 have e : settle l K1[n] = K1[n] := by unfold settle; rw [if_neg h3]
 rw [e]
 have := knS_at (l := l) h
 rw [<- this]
 exact List.set_getElem_self _
theorem knS_how {K1 : List Kn} {l : List Dd} {n : Nat} (h : n < K1.length) (h3 : K1[n].how = 3) (v : Int) (hv : v = if hasD l K1[n].sh K1[n].nu = true then 1 else 2) : knS K1 l (n + 1) = (knS K1 l n).modify n (fun q => { q with how := v }) := by
 rw [knS_succ h]
 apply List.ext_getElem
 ·rw [List.length_set, List.length_modify]
 ·intro m h1 h2
  rw [List.getElem_set, List.getElem_modify]
  by_cases c : n = m
  ·subst c
   rw [if_pos rfl, if_pos rfl, knS_at h]
   unfold settle
   rw [if_pos h3, hv]
  ·rw [if_neg c, if_neg c]
theorem right_any (bk bp : Nat) (vk : Value) (D : Nat -> Prop) (kp : Kp) (p : Pr) (w : World) (l : List Dd) (h : KX w bk bp vk D kp p) (h0 : p.upE 0 = 0) (h1 : p.upE 1 = 0) (hn : kp.kn.length + l.length <= 1000000)
  (ok : RightOk kp l) (rs : ∀ K : Kp, K.m0 = kp.m0 -> K.m1 = kp.m1 -> (K.rises (p.marks 0) (p.marks 1)) = (true, { K with m0 := p.marks 0, m1 := p.marks 1 }))
  (PL : ∀ W, KX W bk bp vk D kp p -> Calls Tryz.prog 26 #[.pointer (some ⟨bk, 0, none⟩)] W fun e w' => ∃ v, e = .returned (.tuple #[v, .bool true]) /\ OwnD W.heap.size w' v l /\ W.grownBy w' none) :
  Calls Tryz.prog 25 #[.pointer (some ⟨bk, 0, none⟩)] w fun e w' => e = .returned (.bool true) /\ KN w w' bk bp vk D (kp.right l (p.marks 0) (p.marks 1)) p := by
 have HH := Hid.mk' h
 have P1 := Hid.mk' (PL _ h)
 have OK := Hid.mk' ok
 have RS := Hid.mk' rs
 have UP := Hid.mk' (And.intro h0 h1)
 have HN := Hid.mk' hn
 have hlt := h.at_.lt
 clear ok rs h0 h1 PL hn h
 go_enter Tryz.func25, Tryz.ntmps25
 go_wp2_with fail
 refine Calls.mono P1.out ?_
 rintro e w1 ⟨v, rfl, ow, g1⟩
 obtain ⟨a, c, hv, hx⟩ := ownD_at ow
 obtain ⟨L, hl⟩ : ∃ L, l.length = L := ⟨_, rfl⟩
 rw [hl] at hv
 subst hv
 have HL := Hid.mk' hl
 have hL : L <= 1000000 := by have := HN.out; omega
 obtain ⟨g, off, GA, R1⟩ : ∃ g off, Hid (0 < L -> a = some ⟨g, off, none⟩) /\ Hid (RL w w1 bk bp vk D { kp with kn := newK kp.kn (l.take 0) } p g off l) := by
  have k0 : ({ kp with kn := newK kp.kn (l.take 0) } : Kp) = kp := by rw [List.take_zero, newK_nil]
  rw [k0]
  by_cases hp : 0 < l.length
  ·obtain ⟨g, off, e, hc⟩ := hx hp
   have bl : a = some ⟨g, off, none⟩ -> w.heap.size <= g /\ g < w1.heap.size := fun e => by
    rcases ow.2 with ⟨h', _⟩ | ⟨g', cap, cur, h', h1, h2, _⟩
    ·injection h' with h' _ _; rw [e] at h'; cases h'
    ·injection h' with h' _ _
     rw [e] at h'
     injection h' with h'
     injection h' with e1 _ _
     subst e1
     exact ⟨h1, (Array.getElem?_eq_some_iff.1 h2).1⟩
   have bl' := bl e
   exact ⟨g, off, Hid.mk' (fun _ => e), Hid.mk' ⟨vk, D, HH.out.grown g1, KS.grown g1, hc, fun _ => ⟨fun c => by have := HH.out.ltF c; omega, bl'.2⟩⟩⟩
  ·exact ⟨0, 0, Hid.mk' (fun c => by omega), Hid.mk' ⟨vk, D, HH.out.grown g1, KS.grown g1, fun k hk => by omega, fun c => absurd c hp⟩⟩
 clear ow g1 hx hl P1
 go_wp2_with fail
 go_loopw [5] (fun f wr => ∃ i : Nat, i <= L /\ f = .int .i64 i /\ RL w wr bk bp vk D { kp with kn := newK kp.kn (l.take i) } p g off l) (fun f _ => L - (intOf f).toNat)
 case atStart => exact ⟨0, by omega, rfl, R1.out⟩
 case round =>
  clear R1
  obtain ⟨i, hi, rfl, ri⟩ := hrel
  have RI := Hid.mk' ri
  clear ri
  by_cases hlt' : i < L
  ·have hil : i < l.length := by rw [HL.out]; exact hlt'
   obtain rfl := GA.out (by omega)
   have y0 : (0 : Int) <= (i : Int) := by omega
   have y1 : (i : Int) < (L : Int) := by omega
   obtain ⟨x, hx⟩ : ∃ x, l[i] = x := ⟨_, rfl⟩
   have HXI := Hid.mk' hx
   clear hx
   go_wp2_with fail
   go_loopw [6] (fun f wq => ∃ j : Nat, j <= i /\ f = .int .i64 j /\ RL w wq bk bp vk D { kp with kn := newK kp.kn (l.take i) } p g off l) (fun f _ => i - (intOf f).toNat)
   case atStart => exact ⟨0, by omega, rfl, RI.out⟩
   case round =>
    clear RI
    obtain ⟨j, hj, rfl, rj⟩ := hrel
    have RJ := Hid.mk' rj
    obtain ⟨v', E, kx, ks, cl, hg⟩ := rj
    have i0 := (cl i hil).1
    have i1 := (cl i hil).2
    rw [HXI.out] at i0 i1
    by_cases hji : j < i
    ·have hjl : j < l.length := by omega
     have j0 := (cl j hjl).1
     have j1 := (cl j hjl).2
     have ne := OK.out.nd i j hil hji
     rw [HXI.out] at ne
     have z0 : (0 : Int) <= (j : Int) := by omega
     have z1 : (j : Int) < (L : Int) := by omega
     have z2 : (j : Int) < (i : Int) := by omega
     clear kx ks cl hg
     by_cases e1 : l[j].sh = x.sh
     ·have e2 : ¬ l[j].nu = x.nu := fun e => ne ⟨e1, e⟩
      have e2' : (l[j].nu == x.nu) = false := by simpa using e2
      rw [e1] at j0
      generalize l[j].nu = jn at j1 e2'
      clear ne e1 e2
      go_wp2_with fail
      go_quiet (fail)
      go_wp2
      exact ⟨⟨j + 1, by omega, by go_num, RJ.out.grown (grownBy_drewN (grownBy_refl _ _) nq)⟩, by simp [intOf]; omega⟩
     ·have e1' : (l[j].sh == x.sh) = false := by simpa using e1
      generalize l[j].nu = jn at j1 ne
      generalize l[j].sh = js at j0 e1' ne e1
      clear ne e1
      go_wp2_with fail
      go_quiet (fail)
      go_wp2
      exact ⟨⟨j + 1, by omega, by go_num, RJ.out.grown (grownBy_drewN (grownBy_refl _ _) nq)⟩, by simp [intOf]; omega⟩
    ·obtain rfl : j = i := by omega
     have z2 : ¬ (j : Int) < (j : Int) := by omega
     have CF := Hid.mk' (findK_any (newK kp.kn (l.take j)) x.sh x.nu bk _ wr (kx.at_.c 1 _ rfl) kx.ow (by
      have z1 := newK_len kp.kn (l.take j)
      have z2 := HN.out
      rw [List.length_take] at z1
      omega))
     have XL : Hid (x ∈ l) := Hid.mk' (by rw [<- HXI.out]; exact List.getElem_mem hil)
     clear kx ks cl hg
     go_wp2_with fail
     refine Calls.mono CF.out ?_
     rintro e w2 ⟨rfl, g2⟩
     have RK := Hid.mk' (RJ.out.grown g2)
     clear g2 i0 i1 CF RJ
     obtain ⟨v2, E2, kx, ks, cl, hg⟩ := RK.out
     obtain ⟨ka, kc, rfl, hK⟩ := lies_of kx.ow
     obtain ⟨N, hN⟩ : ∃ N, (newK kp.kn (l.take j)).length = N := ⟨_, rfl⟩
     rw [hN] at kx ks hg hK
     by_cases hF : 0 <= findK kp.kn x.sh x.nu
     ·obtain ⟨n, hnl, hf, e1, e2⟩ := findK_pos hF
      have how2 : kp.kn[n].how ≠ 2 := OK.out.f2 x XL.out kp.kn[n] (List.getElem_mem hnl) e1 e2
      have hfn : findK (newK kp.kn (l.take j)) x.sh x.nu = n := by rw [newK_find_old hF, hf]
      have hnN : n < (newK kp.kn (l.take j)).length := by unfold newK; rw [List.length_append]; omega
      have hq : (newK kp.kn (l.take j))[n] = kp.kn[n] := by unfold newK; exact List.getElem_append_left _
      obtain ⟨kg, koff, rfl, hk⟩ := hK (by omega)
      have kc1 := kx.at_.c 1 _ rfl
      have klt := kx.at_.lt
      have k2 : w2.cell? ⟨kg, koff + n * 3 + 2, none⟩ = some (.int .i64 kp.kn[n].how) := by
       have := hk (3 * n + 2) (.int .i64 kp.kn[n].how) (by
        show ((newK kp.kn (l.take j)).flatMap Kn.cells)[3 * n + 2]? = _
        rw [flat_at3 (newK kp.kn (l.take j)) n 2 hnN (by omega), hq]; rfl)
       rw [show koff + (3 * n + 2) = koff + n * 3 + 2 by omega] at this
       exact this
      have n0 : (0 : Int) <= (n : Int) := by omega
      have n1 : (n : Int) < (N : Int) := by omega
      have n2 : ¬ (n : Int) < 0 := by omega
      have n3 : (kp.kn[n].how == 2) = false := by simpa using how2
      have NK : Hid (newK kp.kn (l.take (j + 1)) = newK kp.kn (l.take j)) := Hid.mk' (newK_old hil (by rw [HXI.out]; exact hF))
      rw [hfn]
      generalize kp.kn[n].how = hw at k2 n3 how2
      clear hk hf hfn hnN hq kx ks cl hg hK how2
      go_wp2
      exact ⟨⟨j + 1, by omega, by go_num, by rw [NK.out]; exact RK.out⟩, by simp [intOf]; omega⟩
     ·have hF' : findK kp.kn x.sh x.nu < 0 := by omega
      have hfn : findK (newK kp.kn (l.take j)) x.sh x.nu = -1 := by
       have := newK_find_new OK.out hil (by rw [HXI.out]; exact hF')
       rwa [HXI.out] at this
      have NK : Hid (newK kp.kn (l.take (j + 1)) = newK kp.kn (l.take j) ++ [⟨x.sh, x.nu, 1⟩]) := Hid.mk' (by
       have := newK_new hil (by rw [HXI.out]; exact hF')
       rwa [HXI.out] at this)
      have dd := OK.out.dd x XL.out
      rw [hfn]
      rcases dd with c | ⟨e0, dk⟩ | ⟨e0, dk⟩
      ·exact absurd c hF
      ·have i0 := (cl j hil).1
       have i1 := (cl j hil).2
       rw [HXI.out] at i0 i1
       rw [e0] at i0
       have cD := kx.at_.c 2 _ rfl
       have e4 : ({ kp with kn := newK kp.kn (l.take j) } : Kp).d0 = true := dk
       rw [e4] at cD
       have cK := kx.at_.c 1 _ rfl
       have klt := kx.at_.lt
       have hgj := hg (by omega)
       have glt := hgj.2
       have CC := Hid.mk' (And.intro kx (And.intro ks (And.intro cl hg)))
       rw [e0] at NK
       have n2 : (-1 : Int) < 0 := by omega
       clear kx ks cl hg hK hfn hgj e4 dk
       go_wp2_with fail
       go_quiet (fail)
       have GQ : Hid (w2.grownBy (w2.drewN nq) none) := Hid.mk' (grownBy_drewN (grownBy_refl _ _) nq)
       generalize w2.drewN nq = W2 at GQ ⊢
       have X2 := Hid.mk' (CC.out.1.grown GQ.out)
       have S2 := Hid.mk' (CC.out.2.1.trans (KS.grown GQ.out))
       have C2 := Hid.mk' (CC.out.2.2.1.only (Only.grown GQ.out) (by simp))
       have F2 := Hid.mk' (fun hp => And.intro (CC.out.2.2.2 hp).1 (Nat.lt_of_lt_of_le (CC.out.2.2.2 hp).2 GQ.out.size))
       have q0 := GQ.out.cell i0 (by simp)
       have q1 := GQ.out.cell i1 (by simp)
       clear i0 i1 cD cK CC
       go_wp2_with fail
       refine wp_region_held_drew (S := fun w' => CL w' g off l) (by kernel_rfl) (C2.out.only (Only.grown (grownBy_drew (grownBy_refl W2 none))) (by simp)) (fun hHeld => ?_)
       refine hTk 0 ?_
       simp only [lS0, lS1]
       refine hTk 1 ?_
       simp only [lS0, lS1]
       refine hTk 2 ?_
       simp only [lS0, lS1]
       refine hTk 3 ?_
       simp only [lS0, lS1]
       refine hTk 5 ?_
       simp only [lS0, lS1]
       refine hTk 6 ?_
       simp only [lS0, lS1]
       refine hTk 7 ?_
       simp only [lS0, lS1]
       refine hTy 8 rfl (by intro w hSw; have S0 := (hSw j hil).1; have S1 := (hSw j hil).2; rw [HXI.out] at S0 S1; rw [e0] at S0; go_simp; try with_reducible rfl) ?_
       simp only [lS0, lS1]
       refine hTk 9 ?_
       simp only [lS0, lS1]
       have G8 : Hid (W2.grownBy (W2.alloc (.cells #[.int .i64 0, .int .i64 x.nu, .int .i64 1] 77)).drew none) := Hid.mk' (grownBy_drew (World.grownBy_alloc W2 (.cells #[.int .i64 0, .int .i64 x.nu, .int .i64 1] 77) none))
       have X8 := Hid.mk' (X2.out.grown G8.out)
       have H8 : Hid (CL (W2.alloc (.cells #[.int .i64 0, .int .i64 x.nu, .int .i64 1] 77)).drew g off l) := Hid.mk' (C2.out.only (Only.grown G8.out) (by simp))
       have C8 : Hid (∀ j u, (Kn.cells ⟨0, x.nu, 1⟩)[j]? = some u -> (W2.alloc (.cells #[.int .i64 0, .int .i64 x.nu, .int .i64 1] 77)).drew.cell? ((⟨W2.heap.size, 0, none⟩ : Addr).add j) = some u) := Hid.mk' fun j u hu => (grownBy_drew (grownBy_refl _ none)).cell (cells_new W2 [.int .i64 0, .int .i64 x.nu, .int .i64 1] _ _ rfl j u hu) (by simp)
       have LN : Hid ((newK kp.kn (l.take j)).length + 1 <= 3000000) := Hid.mk' (by have z1 := newK_len kp.kn (l.take j); have z2 := HN.out; rw [List.length_take] at z1; omega)
       refine hTwo 4 10 (by kernel_rfl) ?_ ?_
       ·refine hRunAt 4 (by rfl) (by rfl) ?_
        intro K' hK
        have c1 := X2.out.at_.drew.c 1 _ rfl
        go_simp
        refine hK _ _ hHeld ?_
        clear hK K' c1
        refine hRun 10 (by kernel_rfl) (by rfl) (by rfl) ?_
        intro K' hK
        go_simp
        refine hK _ _ H8.out ?_
        clear hK K' hHeld
        have hHeld := H8.out
        refine hRun 11 (by kernel_rfl) (by rfl) (by rfl) ?_
        intro K' hK
        refine op_appKn (.tmp 77) (.tmp 83) rfl 0 (.slice ka N kc) (newK kp.kn (l.take j)) rfl X8.out.ow ⟨W2.heap.size, 0, none⟩ ⟨0, x.nu, 1⟩ rfl C8.out LN.out (Nat.zero_le _) ?_
        intro v8 w8 o8 g8 h8
        have R9 := Hid.mk' (RL.app X2.out S2.out C2.out F2.out G8.out o8 g8 h8)
        have A8 := X8.out.at_.only (Only.grown g8) (fun e => (X8.out.nv bk e).2 rfl)
        have ck := A8.c 1 _ rfl
        have hf8 := A8.f
        have HC : CL w8 g off l := hHeld.only (Only.grown g8) (fun hp e => (F2.out hp).1 (.inr (.inl e)))
        clear hHeld
        have hHeld := HC
        clear HC
        obtain ⟨a8, c8, rfl⟩ := slice_len o8
        obtain ⟨n8, hn8⟩ : ∃ n, (newK kp.kn (l.take j) ++ [(⟨0, x.nu, 1⟩ : Kn)]).length = n := ⟨_, rfl⟩
        rw [hn8] at o8 h8 R9 ⊢
        refine hK _ _ hHeld ?_
        clear hK K'
        clear o8 g8 h8 A8
        simp only [Act.put, List.setIfInBounds_toArray, lS0, lS1]
        refine hTk 12 ?_
        simp only [lS0, lS1]
        refine hTk 13 ?_
        simp only [lS0, lS1]
        refine hRun 14 (by kernel_rfl) (by rfl) (by rfl) ?_
        intro K' hK
        go_simp
        refine hK _ _ (hHeld.only (Only.set w8 bk 1 _) (fun hp e => (F2.out hp).1 (.inl e))) ?_
        clear hK K'
        refine wpAnyH_done (by kernel_rfl) ?_ _
        go_wp2
        exact ⟨⟨j + 1, by omega, by go_num, by rw [NK.out]; exact R9.out⟩, by simp [intOf]; omega⟩
       ·refine hRunAt 10 (by rfl) (by rfl) ?_
        intro K' hK
        go_simp
        refine hK _ _ H8.out ?_
        clear hK K' hHeld
        have hHeld := H8.out
        refine hRun 4 (by kernel_rfl) (by rfl) (by rfl) ?_
        intro K' hK
        have c1 := X8.out.at_.c 1 _ rfl
        go_simp
        refine hK _ _ hHeld ?_
        clear hK K' c1
        refine hRun 11 (by kernel_rfl) (by rfl) (by rfl) ?_
        intro K' hK
        refine op_appKn (.tmp 77) (.tmp 83) rfl 0 (.slice ka N kc) (newK kp.kn (l.take j)) rfl X8.out.ow ⟨W2.heap.size, 0, none⟩ ⟨0, x.nu, 1⟩ rfl C8.out LN.out (Nat.zero_le _) ?_
        intro v8 w8 o8 g8 h8
        have R9 := Hid.mk' (RL.app X2.out S2.out C2.out F2.out G8.out o8 g8 h8)
        have A8 := X8.out.at_.only (Only.grown g8) (fun e => (X8.out.nv bk e).2 rfl)
        have ck := A8.c 1 _ rfl
        have hf8 := A8.f
        have HC : CL w8 g off l := hHeld.only (Only.grown g8) (fun hp e => (F2.out hp).1 (.inr (.inl e)))
        clear hHeld
        have hHeld := HC
        clear HC
        obtain ⟨a8, c8, rfl⟩ := slice_len o8
        obtain ⟨n8, hn8⟩ : ∃ n, (newK kp.kn (l.take j) ++ [(⟨0, x.nu, 1⟩ : Kn)]).length = n := ⟨_, rfl⟩
        rw [hn8] at o8 h8 R9 ⊢
        refine hK _ _ hHeld ?_
        clear hK K'
        clear o8 g8 h8 A8
        simp only [Act.put, List.setIfInBounds_toArray, lS0, lS1]
        refine hTk 12 ?_
        simp only [lS0, lS1]
        refine hTk 13 ?_
        simp only [lS0, lS1]
        refine hRun 14 (by kernel_rfl) (by rfl) (by rfl) ?_
        intro K' hK
        go_simp
        refine hK _ _ (hHeld.only (Only.set w8 bk 1 _) (fun hp e => (F2.out hp).1 (.inl e))) ?_
        clear hK K'
        refine wpAnyH_done (by kernel_rfl) ?_ _
        go_wp2
        exact ⟨⟨j + 1, by omega, by go_num, by rw [NK.out]; exact R9.out⟩, by simp [intOf]; omega⟩
      ·have i0 := (cl j hil).1
       have i1 := (cl j hil).2
       rw [HXI.out] at i0 i1
       rw [e0] at i0
       have cD := kx.at_.c 3 _ rfl
       have e4 : ({ kp with kn := newK kp.kn (l.take j) } : Kp).d1 = true := dk
       rw [e4] at cD
       have cK := kx.at_.c 1 _ rfl
       have klt := kx.at_.lt
       have hgj := hg (by omega)
       have glt := hgj.2
       have CC := Hid.mk' (And.intro kx (And.intro ks (And.intro cl hg)))
       rw [e0] at NK
       have n2 : (-1 : Int) < 0 := by omega
       clear kx ks cl hg hK hfn hgj e4 dk
       go_wp2_with fail
       go_quiet (fail)
       have GQ : Hid (w2.grownBy (w2.drewN nq) none) := Hid.mk' (grownBy_drewN (grownBy_refl _ _) nq)
       generalize w2.drewN nq = W2 at GQ ⊢
       have X2 := Hid.mk' (CC.out.1.grown GQ.out)
       have S2 := Hid.mk' (CC.out.2.1.trans (KS.grown GQ.out))
       have C2 := Hid.mk' (CC.out.2.2.1.only (Only.grown GQ.out) (by simp))
       have F2 := Hid.mk' (fun hp => And.intro (CC.out.2.2.2 hp).1 (Nat.lt_of_lt_of_le (CC.out.2.2.2 hp).2 GQ.out.size))
       have q0 := GQ.out.cell i0 (by simp)
       have q1 := GQ.out.cell i1 (by simp)
       clear i0 i1 cD cK CC
       go_wp2_with fail
       refine wp_region_held_drew (S := fun w' => CL w' g off l) (by kernel_rfl) (C2.out.only (Only.grown (grownBy_drew (grownBy_refl W2 none))) (by simp)) (fun hHeld => ?_)
       refine hTk 0 ?_
       simp only [lS0, lS1]
       refine hTk 1 ?_
       simp only [lS0, lS1]
       refine hTk 2 ?_
       simp only [lS0, lS1]
       refine hTk 3 ?_
       simp only [lS0, lS1]
       refine hTk 5 ?_
       simp only [lS0, lS1]
       refine hTk 6 ?_
       simp only [lS0, lS1]
       refine hTk 7 ?_
       simp only [lS0, lS1]
       refine hTy 8 rfl (by intro w hSw; have S0 := (hSw j hil).1; have S1 := (hSw j hil).2; rw [HXI.out] at S0 S1; rw [e0] at S0; go_simp; try with_reducible rfl) ?_
       simp only [lS0, lS1]
       refine hTk 9 ?_
       simp only [lS0, lS1]
       have G8 : Hid (W2.grownBy (W2.alloc (.cells #[.int .i64 1, .int .i64 x.nu, .int .i64 1] 77)).drew none) := Hid.mk' (grownBy_drew (World.grownBy_alloc W2 (.cells #[.int .i64 1, .int .i64 x.nu, .int .i64 1] 77) none))
       have X8 := Hid.mk' (X2.out.grown G8.out)
       have H8 : Hid (CL (W2.alloc (.cells #[.int .i64 1, .int .i64 x.nu, .int .i64 1] 77)).drew g off l) := Hid.mk' (C2.out.only (Only.grown G8.out) (by simp))
       have C8 : Hid (∀ j u, (Kn.cells ⟨1, x.nu, 1⟩)[j]? = some u -> (W2.alloc (.cells #[.int .i64 1, .int .i64 x.nu, .int .i64 1] 77)).drew.cell? ((⟨W2.heap.size, 0, none⟩ : Addr).add j) = some u) := Hid.mk' fun j u hu => (grownBy_drew (grownBy_refl _ none)).cell (cells_new W2 [.int .i64 1, .int .i64 x.nu, .int .i64 1] _ _ rfl j u hu) (by simp)
       have LN : Hid ((newK kp.kn (l.take j)).length + 1 <= 3000000) := Hid.mk' (by have z1 := newK_len kp.kn (l.take j); have z2 := HN.out; rw [List.length_take] at z1; omega)
       refine hTwo 4 10 (by kernel_rfl) ?_ ?_
       ·refine hRunAt 4 (by rfl) (by rfl) ?_
        intro K' hK
        have c1 := X2.out.at_.drew.c 1 _ rfl
        go_simp
        refine hK _ _ hHeld ?_
        clear hK K' c1
        refine hRun 10 (by kernel_rfl) (by rfl) (by rfl) ?_
        intro K' hK
        go_simp
        refine hK _ _ H8.out ?_
        clear hK K' hHeld
        have hHeld := H8.out
        refine hRun 11 (by kernel_rfl) (by rfl) (by rfl) ?_
        intro K' hK
        refine op_appKn (.tmp 77) (.tmp 83) rfl 0 (.slice ka N kc) (newK kp.kn (l.take j)) rfl X8.out.ow ⟨W2.heap.size, 0, none⟩ ⟨1, x.nu, 1⟩ rfl C8.out LN.out (Nat.zero_le _) ?_
        intro v8 w8 o8 g8 h8
        have R9 := Hid.mk' (RL.app X2.out S2.out C2.out F2.out G8.out o8 g8 h8)
        have A8 := X8.out.at_.only (Only.grown g8) (fun e => (X8.out.nv bk e).2 rfl)
        have ck := A8.c 1 _ rfl
        have hf8 := A8.f
        have HC : CL w8 g off l := hHeld.only (Only.grown g8) (fun hp e => (F2.out hp).1 (.inr (.inl e)))
        clear hHeld
        have hHeld := HC
        clear HC
        obtain ⟨a8, c8, rfl⟩ := slice_len o8
        obtain ⟨n8, hn8⟩ : ∃ n, (newK kp.kn (l.take j) ++ [(⟨1, x.nu, 1⟩ : Kn)]).length = n := ⟨_, rfl⟩
        rw [hn8] at o8 h8 R9 ⊢
        refine hK _ _ hHeld ?_
        clear hK K'
        clear o8 g8 h8 A8
        simp only [Act.put, List.setIfInBounds_toArray, lS0, lS1]
        refine hTk 12 ?_
        simp only [lS0, lS1]
        refine hTk 13 ?_
        simp only [lS0, lS1]
        refine hRun 14 (by kernel_rfl) (by rfl) (by rfl) ?_
        intro K' hK
        go_simp
        refine hK _ _ (hHeld.only (Only.set w8 bk 1 _) (fun hp e => (F2.out hp).1 (.inl e))) ?_
        clear hK K'
        refine wpAnyH_done (by kernel_rfl) ?_ _
        go_wp2
        exact ⟨⟨j + 1, by omega, by go_num, by rw [NK.out]; exact R9.out⟩, by simp [intOf]; omega⟩
       ·refine hRunAt 10 (by rfl) (by rfl) ?_
        intro K' hK
        go_simp
        refine hK _ _ H8.out ?_
        clear hK K' hHeld
        have hHeld := H8.out
        refine hRun 4 (by kernel_rfl) (by rfl) (by rfl) ?_
        intro K' hK
        have c1 := X8.out.at_.c 1 _ rfl
        go_simp
        refine hK _ _ hHeld ?_
        clear hK K' c1
        refine hRun 11 (by kernel_rfl) (by rfl) (by rfl) ?_
        intro K' hK
        refine op_appKn (.tmp 77) (.tmp 83) rfl 0 (.slice ka N kc) (newK kp.kn (l.take j)) rfl X8.out.ow ⟨W2.heap.size, 0, none⟩ ⟨1, x.nu, 1⟩ rfl C8.out LN.out (Nat.zero_le _) ?_
        intro v8 w8 o8 g8 h8
        have R9 := Hid.mk' (RL.app X2.out S2.out C2.out F2.out G8.out o8 g8 h8)
        have A8 := X8.out.at_.only (Only.grown g8) (fun e => (X8.out.nv bk e).2 rfl)
        have ck := A8.c 1 _ rfl
        have hf8 := A8.f
        have HC : CL w8 g off l := hHeld.only (Only.grown g8) (fun hp e => (F2.out hp).1 (.inr (.inl e)))
        clear hHeld
        have hHeld := HC
        clear HC
        obtain ⟨a8, c8, rfl⟩ := slice_len o8
        obtain ⟨n8, hn8⟩ : ∃ n, (newK kp.kn (l.take j) ++ [(⟨1, x.nu, 1⟩ : Kn)]).length = n := ⟨_, rfl⟩
        rw [hn8] at o8 h8 R9 ⊢
        refine hK _ _ hHeld ?_
        clear hK K'
        clear o8 g8 h8 A8
        simp only [Act.put, List.setIfInBounds_toArray, lS0, lS1]
        refine hTk 12 ?_
        simp only [lS0, lS1]
        refine hTk 13 ?_
        simp only [lS0, lS1]
        refine hRun 14 (by kernel_rfl) (by rfl) (by rfl) ?_
        intro K' hK
        go_simp
        refine hK _ _ (hHeld.only (Only.set w8 bk 1 _) (fun hp e => (F2.out hp).1 (.inl e))) ?_
        clear hK K'
        refine wpAnyH_done (by kernel_rfl) ?_ _
        go_wp2
        exact ⟨⟨j + 1, by omega, by go_num, by rw [NK.out]; exact R9.out⟩, by simp [intOf]; omega⟩
  ·obtain rfl : i = L := by omega
   have y1 : ¬ (i : Int) < (i : Int) := by omega
   obtain ⟨K1, hK1⟩ : ∃ K1, newK kp.kn l = K1 := ⟨_, rfl⟩
   have R3 : Hid (RL w wr bk bp vk D { kp with kn := knS K1 l 0 } p g off l) := Hid.mk' (by
    have := RI.out
    rw [List.take_of_length_le (by rw [HL.out]; omega), hK1] at this
    rw [knS_zero]
    exact this)
   have HK1 := Hid.mk' hK1
   have TH : Hid (∀ q ∈ K1, q.how = 1 -> hasD l q.sh q.nu = true) := Hid.mk' (by rw [<- hK1]; exact newK_th OK.out)
   obtain ⟨N, hN⟩ : ∃ N, K1.length = N := ⟨_, rfl⟩
   have hN1 : N <= 1000000 := by have z1 := newK_len kp.kn l; have z2 := HN.out; rw [hK1, hN] at z1; omega
   have HN1 := Hid.mk' hN
   clear RI hK1 hN
   go_wp2_with fail
   go_loopw [8] (fun f wq => ∃ n : Nat, n <= N /\ f = .int .i64 n /\ RL w wq bk bp vk D { kp with kn := knS K1 l n } p g off l) (fun f _ => N - (intOf f).toNat)
   case atStart => exact ⟨0, by omega, rfl, R3.out⟩
   case round =>
    clear R3
    obtain ⟨w3, rfl⟩ : ∃ W, W = wr := ⟨_, rfl⟩
    obtain ⟨n, hn', rfl, rn⟩ := hrel
    have RN := Hid.mk' rn
    obtain ⟨v2, E2, kx, ks, cl, hg⟩ := rn
    have hlen : (knS K1 l n).length = N := by rw [knS_len, HN1.out]
    have off0 : ∀ a' n' c', v2 = .slice (some a') n' c' -> a'.off = 0 := fun a' n' c' e => by
     rcases kx.ow.2 with ⟨h', _⟩ | ⟨g', cap, cur, h', _⟩
     ·rw [e] at h'; injection h' with h' _ _; cases h'
     ·rw [e] at h'; injection h' with h' _ _; injection h' with h'; rw [h']
    obtain ⟨ka, kc, rfl, hK⟩ := lies_of kx.ow
    rw [hlen] at kx ks hg hK off0
    have kc1 := kx.at_.c 1 _ rfl
    have klt := kx.at_.lt
    by_cases hnN : n < N
    ·have hnl : n < K1.length := by rw [HN1.out]; exact hnN
     obtain ⟨kg, koff, rfl, hk⟩ := hK (by omega)
     obtain rfl : koff = 0 := off0 _ _ _ rfl
     have n0 : (0 : Int) <= (n : Int) := by omega
     have n1 : (n : Int) < (N : Int) := by omega
     obtain ⟨q, hq⟩ : ∃ q, K1[n] = q := ⟨_, rfl⟩
     have KD : Hid (∀ W, w3.grownBy W none -> W.cell? ⟨kg, n * 3, none⟩ = some (.int .i64 q.sh) /\ W.cell? ⟨kg, n * 3 + 1, none⟩ = some (.int .i64 q.nu) /\ W.cell? ⟨kg, n * 3 + 2, none⟩ = some (.int .i64 q.how)) := Hid.mk' fun W gW => by
      have d : ∀ j (hj : j < 3) u, q.cells[j]? = some u -> W.cell? ⟨kg, n * 3 + j, none⟩ = some u := fun j hj u hu => by
       have := hk (3 * n + j) u (by
        show ((knS K1 l n).flatMap Kn.cells)[3 * n + j]? = _
        rw [flat_at3 (knS K1 l n) n j (by rw [hlen]; exact hnN) hj, knS_at hnl, hq]
        exact hu)
       rw [show 0 + (3 * n + j) = n * 3 + j by omega] at this
       exact gW.cell this (by simp)
      exact ⟨d 0 (by omega) _ rfl, d 1 (by omega) _ rfl, d 2 (by omega) _ rfl⟩
     have HQ := Hid.mk' hq
     have CC := Hid.mk' (And.intro kx (And.intro ks (And.intro cl hg)))
     have GL : Hid (kg < w3.heap.size) := Hid.mk' (World.block_lt_of_cell? w3 _ (KD.out w3 (grownBy_refl _ _)).1)
     clear hk hq kx ks cl hg hK off0
     go_wp2_with fail
     go_loopw [9, 10] (fun b f wx => ∃ j : Nat, j <= i /\ f = .int .i64 j /\ b = .bool (hasD (l.take j) q.sh q.nu) /\ w3.grownBy wx none) (fun _ f _ => i - (intOf f).toNat)
     case atStart => exact ⟨0, by omega, rfl, rfl, grownBy_refl _ _⟩
     case round =>
      obtain ⟨j, hj, rfl, rfl, gj⟩ := hrel
      have GJ := Hid.mk' gj
      have kc2 := (CC.out.1.grown gj).at_.c 1 _ rfl
      have klt2 := (CC.out.1.grown gj).at_.lt
      obtain ⟨q0, q1, q2⟩ := KD.out _ gj
      clear gj kc1
      by_cases hji : j < i
      ·have hjl : j < l.length := by rw [HL.out]; exact hji
       obtain rfl := GA.out (by omega)
       have cl := CC.out.2.2.1
       have j0 := GJ.out.cell (cl j hjl).1 (by simp)
       have j1 := GJ.out.cell (cl j hjl).2 (by simp)
       have z0 : (0 : Int) <= (j : Int) := by omega
       have z1 : (j : Int) < (i : Int) := by omega
       have HT : Hid (hasD (l.take (j + 1)) q.sh q.nu = (hasD (l.take j) q.sh q.nu || decide (l[j].sh = q.sh /\ l[j].nu = q.nu))) := Hid.mk' (by
        unfold hasD
        rw [List.take_succ_eq_append_getElem hjl, List.any_append]
        simp)
       clear cl
       obtain ⟨dj, hdj⟩ : ∃ dj, l[j] = dj := ⟨_, rfl⟩
       rw [hdj] at j0 j1 HT
       clear hdj
       generalize hasD (l.take j) q.sh q.nu = H at HT ⊢
       cases H
       ·by_cases e1 : dj.sh = q.sh
        ·by_cases e2 : dj.nu = q.nu
         ·rw [e1] at j0
          rw [e2] at j1
          go_wp2_with fail
          go_quiet (fail)
          go_wp2
          refine ⟨⟨j + 1, by omega, by go_num, ?_, grownBy_drewN GJ.out nq⟩, by simp [intOf]; omega⟩
          rw [HT.out]; simp [e1, e2]
         ·have e2' : (dj.nu == q.nu) = false := by simpa using e2
          rw [e1] at j0
          go_wp2_with fail
          go_quiet (fail)
          go_wp2
          refine ⟨⟨j + 1, by omega, by go_num, ?_, grownBy_drewN GJ.out nq⟩, by simp [intOf]; omega⟩
          rw [HT.out]; simp [e2]
        ·have e1' : (dj.sh == q.sh) = false := by simpa using e1
         go_wp2_with fail
         go_quiet (fail)
         go_wp2
         refine ⟨⟨j + 1, by omega, by go_num, ?_, grownBy_drewN GJ.out nq⟩, by simp [intOf]; omega⟩
         rw [HT.out]; simp [e1]
       ·go_wp2_with fail
        go_quiet (fail)
        go_wp2
        refine ⟨⟨j + 1, by omega, by go_num, ?_, grownBy_drewN GJ.out nq⟩, by simp [intOf]; omega⟩
        rw [HT.out]; simp
      ·obtain rfl : j = i := by omega
       have z1 : ¬ (j : Int) < (j : Int) := by omega
       have tt : l.take j = l := List.take_of_length_le (by rw [HL.out]; omega)
       have RX := Hid.mk' (RN.out.grown GJ.out)
       rw [tt]
       by_cases w1' : q.how = 1
       ·have th : hasD l q.sh q.nu = true := TH.out q (by rw [<- HQ.out]; exact List.getElem_mem hnl) w1'
        have SM : Hid (knS K1 l (n + 1) = knS K1 l n) := Hid.mk' (knS_same hnl (by rw [HQ.out, w1']; decide))
        rw [th]
        rw [w1'] at q2
        go_wp2
        exact ⟨⟨n + 1, by omega, by go_num, by rw [SM.out]; exact RX.out⟩, by simp [intOf]; omega⟩
       ·have b1 : (q.how == 1) = false := by simpa using w1'
        by_cases w3' : q.how = 3
        ·have hfz : ∀ o, wr.frozen? ⟨kg, o, none⟩ = false := fun o => by
          have := (CC.out.1.grown GJ.out).ow
          unfold OwnK at this
          rw [show ({ kp with kn := knS K1 l n } : Kp).kn.length = N from by show (knS K1 l n).length = N; rw [knS_len, HN1.out]] at this
          exact this.frozenAt o
         have hl0 : ({ kp with kn := knS K1 l n } : Kp).kn.length = N := by show (knS K1 l n).length = N; rw [knS_len, HN1.out]
         have Y := CC.out
         have G1 := GJ.out
         have gg : 0 < l.length -> ¬ kF bk (.slice (some ⟨kg, 0, none⟩) N kc) E2 g /\ g < wr.heap.size := fun hp => ⟨(Y.2.2.2 hp).1, Nat.lt_of_lt_of_le (Y.2.2.2 hp).2 G1.size⟩
         have S1 := Hid.mk' (RL.how (Y.1.grown G1) (Y.2.1.trans (KS.grown G1)) (Y.2.2.1.only (Only.grown G1) (by simp)) gg hl0 n 2 hnN)
         rw [w3'] at q2
         have klt3 : kg < wr.heap.size := by have := GL.out; have := GJ.out.size; omega
         clear Y G1 gg
         cases hh : hasD l q.sh q.nu
         ·have SM : Hid (knS K1 l (n + 1) = (knS K1 l n).modify n (fun q => { q with how := 2 })) := Hid.mk' (knS_how hnl (by rw [HQ.out]; exact w3') 2 (by rw [HQ.out, hh]; rfl))
          go_wp2
          refine ⟨⟨n + 1, by omega, by go_num, ?_⟩, by simp [intOf]; omega⟩
          rw [SM.out]
          exact ⟨_, E2, S1.out⟩
         ·have SM : Hid (knS K1 l (n + 1) = (knS K1 l n).modify n (fun q => { q with how := 1 })) := Hid.mk' (knS_how hnl (by rw [HQ.out]; exact w3') 1 (by rw [HQ.out, hh]; rfl))
          have S2 := Hid.mk' (RL.how S1.out.1 S1.out.2.1 S1.out.2.2.1 S1.out.2.2.2 (by show ((knS K1 l n).modify n _).length = N; rw [List.length_modify, knS_len, HN1.out]) n 1 hnN)
          have ne : ¬ kg = bk := fun e => (CC.out.1.nv kg rfl).2 e
          have ne' : ¬ bk = kg := fun e => (CC.out.1.nv kg rfl).2 e.symm
          go_wp2
          refine ⟨⟨n + 1, by omega, by go_num, ?_⟩, by simp [intOf]; omega⟩
          rw [SM.out]
          have := S2.out
          have em : (({ kp with kn := knS K1 l n } : Kp).how n 2).how n 1 = { kp with kn := (knS K1 l n).modify n (fun q => { q with how := 1 }) } := by
           unfold Kp.how
           congr 1
           apply List.ext_getElem
           ·simp only [List.length_modify]
           ·intro m h1 h2
            simp only [List.getElem_modify]
            split <;> rfl
          rw [em] at this
          exact ⟨_, E2, this⟩
        ·have b3 : (q.how == 3) = false := by simpa using w3'
         have SM : Hid (knS K1 l (n + 1) = knS K1 l n) := Hid.mk' (knS_same hnl (by rw [HQ.out]; exact w3'))
         go_wp2
         exact ⟨⟨n + 1, by omega, by go_num, by rw [SM.out]; exact RX.out⟩, by simp [intOf]; omega⟩
    ·obtain rfl : n = N := by omega
     have n1 : ¬ (n : Int) < (n : Int) := by omega
     have c2 := kx.at_.c 2 _ rfl
     have c3 := kx.at_.c 3 _ rfl
     have fK := kx.at_.f
     have CC := Hid.mk' (And.intro kx ks)
     clear kx ks cl hg hK off0
     go_wp2_with fail
     have X : Hid (KM w ((w3.setCell ⟨bk, 2, none⟩ (.bool false)).setCell ⟨bk, 3, none⟩ (.bool false)) bk bp vk D (.slice ka n kc) ⟨knS K1 l n, false, false, kp.m0, kp.m1⟩ p) :=
      Hid.mk' (((KX.kn1 CC.out.1 CC.out.2).put (k' := ⟨knS K1 l n, false, kp.d1, kp.m0, kp.m1⟩) 2 (.bool false) (by omega) rfl rfl).put (k' := ⟨knS K1 l n, false, false, kp.m0, kp.m1⟩) 3 (.bool false) (by omega) rfl rfl)
     generalize (w3.setCell ⟨bk, 2, none⟩ (.bool false)).setCell ⟨bk, 3, none⟩ (.bool false) = W3 at X ⊢
     obtain ⟨E, hx, hs⟩ := X.out
     have R1 := rises_any bk bp _ E _ p W3 hx UP.out.1 UP.out.2
     rw [RS.out ⟨knS K1 l n, false, false, kp.m0, kp.m1⟩ rfl rfl] at R1
     have HS := Hid.mk' hs
     have R2 := Hid.mk' R1
     clear R1 hx hs X c2 c3 fK kc1
     refine Calls.mono R2.out ?_
     rintro e w4 ⟨rfl, vk', E', x1, x2, x3⟩
     have N4 : Hid (KN w w4 bk bp vk D ⟨knS K1 l n, false, false, p.marks 0, p.marks 1⟩ p) := Hid.mk' (KS.kn (HS.out.trans ⟨x2, x3⟩) x1)
     clear x1 x2 x3
     go_wp2
     go_ret
     have er : kp.right l (p.marks 0) (p.marks 1) = ⟨knS K1 l n, false, false, p.marks 0, p.marks 1⟩ := by
      unfold Kp.right
      rw [HK1.out, <- HN1.out, knS_all]
     rw [er]
     exact ⟨rfl, N4.out⟩
theorem places_down (bk bp : Nat) (vk : Value) (D : Nat -> Prop) (kp : Kp) (p : Pr) (w : World) (h : KX w bk bp vk D kp p) (hd : ¬ (p.upE 0 = 0 /\ p.upE 1 = 0)) :
  Calls Tryz.prog 26 #[.pointer (some ⟨bk, 0, none⟩)] w fun e w' => e = .returned (.tuple #[.slice none 0 0, .bool false]) /\ w.grownBy w' none := by
 have H := Hid.mk' h
 have c0 := h.at_.c 0 _ rfl
 have hlt := h.at_.lt
 have C0 := Hid.mk' fun W (g : w.grownBy W none) => marks_px (h.grown g).pw 0
 have C1 := Hid.mk' fun W (g : w.grownBy W none) => marks_px (h.grown g).pw 1
 unfold mkV at C0 C1
 generalize p.marks 0 = a at C0
 generalize p.marks 1 = b at C1
 generalize p.upE 0 = U0 at C0 hd
 generalize p.upE 1 = U1 at C1 hd
 have G0 := Hid.mk' (World.grownBy_alloc w (.cells #[.int .i64 0, .int .i64 0, .int .i64 0, .int .i64 0, .int .i64 0, .int .i64 0, .int .i64 0, .int .i64 0, .int .i64 0, .int .i64 0] 45) none)
 have A0 := Hid.mk' (At.new w [.int .i64 0, .int .i64 0, .int .i64 0, .int .i64 0, .int .i64 0, .int .i64 0, .int .i64 0, .int .i64 0, .int .i64 0, .int .i64 0] 45)
 clear h
 go_enter Tryz.func26, Tryz.ntmps26
 go_wp2_with fail
 refine wp_loop_rounds 3 ?_
 rw [rounds_succ]
 go_wp2_with fail
 refine Calls.mono (C0.out _ G0.out) ?_
 rintro e w1 ⟨rfl, g1⟩
 have G1 := Hid.mk' (G0.out.trans g1)
 have A1 := Hid.mk' (A0.out.grown g1)
 clear g1
 by_cases u0 : U0 = 0
 ·subst u0
  have u1 : ¬ U1 = 0 := fun e => hd ⟨rfl, e⟩
  have n0 := A1.out.c 0 _ rfl
  have n1 := A1.out.c 1 _ rfl
  have n2 := A1.out.c 2 _ rfl
  have n3 := A1.out.c 3 _ rfl
  have n4 := A1.out.c 4 _ rfl
  have nf := A1.out.f
  have nlt := A1.out.lt
  have nne : ¬ w.heap.size = w1.heap.size := by omega
  have nne' : ¬ w1.heap.size = w.heap.size := by omega
  have P : Hid (w.grownBy (((((((w1.setCell ⟨w.heap.size, 0, none⟩ (.int .i64 a.g)).setCell ⟨w.heap.size, 1, none⟩ (.int .i64 a.m)).setCell ⟨w.heap.size, 2, none⟩ (.int .i64 a.s)).setCell ⟨w.heap.size, 3, none⟩ (.int .i64 a.a)).setCell ⟨w.heap.size, 4, none⟩ (.int .i64 a.n))).alloc (.cells #[.int .i64 a.g, .int .i64 a.m, .int .i64 a.s, .int .i64 a.a, .int .i64 a.n] 44)) none) := by
   have o1 : Only w w1 (fun j => w.heap.size <= j) := (Only.grown G1.out).mono (by simp)
   have o2 := Only.set5 w1 w.heap.size 0 (.int .i64 a.g) (.int .i64 a.m) (.int .i64 a.s) (.int .i64 a.a) (.int .i64 a.n)
   have o3 := (o1.trans (o2.mono (fun j _ e => .inl (by omega)))).trans ((Only.grown (World.grownBy_alloc _ (.cells #[.int .i64 a.g, .int .i64 a.m, .int .i64 a.s, .int .i64 a.a, .int .i64 a.n] 44) none)).mono (by simp))
   exact Hid.mk' (o3.fresh (fun k hk e => by omega))
  go_wp2_with fail
  generalize (((((((w1.setCell ⟨w.heap.size, 0, none⟩ (.int .i64 a.g)).setCell ⟨w.heap.size, 1, none⟩ (.int .i64 a.m)).setCell ⟨w.heap.size, 2, none⟩ (.int .i64 a.s)).setCell ⟨w.heap.size, 3, none⟩ (.int .i64 a.a)).setCell ⟨w.heap.size, 4, none⟩ (.int .i64 a.n))).alloc (.cells #[.int .i64 a.g, .int .i64 a.m, .int .i64 a.s, .int .i64 a.a, .int .i64 a.n] 44)) = w2 at P ⊢
  clear n0 n1 n2 n3 n4 nf nlt nne nne'
  have c2 := (H.out.at_.grown P.out).c 0 _ rfl
  rw [rounds_succ]
  go_wp2_with fail
  refine Calls.mono (C1.out _ P.out) ?_
  rintro e w3 ⟨rfl, g3⟩
  have G3 := Hid.mk' (P.out.trans g3)
  have nb : (U1 == 0) = false := by simpa using u1
  clear g3 u1 hd
  go_wp2
  exact bodyPost_ret (v := .tuple #[.slice none 0 0, .bool false]) (by simp [results, Tryz.results26, go_sem]) rfl ⟨rfl, G3.out.trans (World.grownBy_alloc _ _ none)⟩
 ·have nb : (U0 == 0) = false := by simpa using u0
  clear u0 hd
  go_wp2
  exact bodyPost_ret (v := .tuple #[.slice none 0 0, .bool false]) (by simp [results, Tryz.results26, go_sem]) rfl ⟨rfl, G1.out.trans (World.grownBy_alloc _ _ none)⟩
theorem right_down (bk bp : Nat) (vk : Value) (D : Nat -> Prop) (kp : Kp) (p : Pr) (w : World) (h : KX w bk bp vk D kp p) (hd : ¬ (p.upE 0 = 0 /\ p.upE 1 = 0)) :
  Calls Tryz.prog 25 #[.pointer (some ⟨bk, 0, none⟩)] w fun e w' => e = .returned (.bool true) /\ w.grownBy w' none := by
 have P1 := Hid.mk' (places_down bk bp vk D kp p w h hd)
 clear h hd
 go_enter Tryz.func25, Tryz.ntmps25
 go_wp2_with fail
 refine Calls.mono P1.out ?_
 rintro e w1 ⟨rfl, g1⟩
 have G1 := Hid.mk' g1
 clear g1
 go_wp2
 go_ret
 exact ⟨rfl, G1.out⟩
def KB (l : List Kn) : Prop := ∀ q ∈ l, 0 <= q.nu
structure OI (k : Kp) (p : Pr) : Prop where
 gd : PGd p
 w : WP p 0
 ki : KI k p
 kb : KB k.kn
section
variable {k : Kp} {p : Pr} {i : Int}
theorem mint_lo (gd : PGd p) (i : Int) (pl sp : Nat) : 0 <= (p.mint i pl sp).1.2.1 := by
 unfold Pr.mint
 split
 ·rename_i hu
  obtain ⟨hi, up⟩ := upE_at hu
  obtain ⟨⟨r, g⟩, _⟩ := gd.at hi
  obtain ⟨_, _, _, _, _, has, _⟩ := g.has up
  have m0 : 0 <= (p.sh i).ms.m := has.mo.m0
  unfold Sh.mint
  split
  ·exact Int.le_refl _
  split
  ·exact Int.le_refl _
  split
  ·show 0 <= (p.sh i).ms.m + 1
   omega
  ·exact Int.le_refl _
 ·exact Int.le_refl _
theorem how_kb (h : KB k.kn) (n : Nat) (v : Int) : KB (k.how n v).kn := fun q hq => by
 have hq' : q ∈ k.kn.modify n (fun q => { q with how := v }) := hq
 obtain ⟨j, hj, rfl⟩ := List.getElem_of_mem hq'
 rw [List.length_modify] at hj
 rw [List.getElem_modify]
 have := h k.kn[j] (List.getElem_mem hj)
 split <;> exact this
theorem minted_kb (h : KB k.kn) (i up x y e : Int) (hy : 0 <= y) : KB (k.minted i up x y e).2.kn := by
 unfold Kp.minted
 split
 ·exact h
 split
 ·have e : (k.doubt i).kn = k.kn := by unfold Kp.doubt; split <;> rfl
  show KB (k.doubt i).kn
  rw [e]
  exact h
 split
 ·exact h
 split
 ·exact h
 ·intro q hq
  rcases List.mem_append.1 (show q ∈ k.kn ++ [(⟨x, y, 1⟩ : Kn)] from hq) with hq | hq
  ·exact h q hq
  ·obtain rfl : q = ⟨x, y, 1⟩ := by simpa using hq
   exact hy
theorem destroyed_kb (h : KB k.kn) (n : Nat) (q up e : Int) : KB (k.destroyed n q up e).2.kn := by
 unfold Kp.destroyed
 split
 ·exact h
 split
 ·exact how_kb h n 2
 split
 ·show KB (if q = 1 then k.how n 3 else k).kn
  split
  ·exact how_kb h n 3
  ·exact h
 ·exact h
theorem kAct_kb (gd : PGd p) (h : KB k.kn) (K i n m : Int) (pl sp : Nat) : KB (kAct k p K i n m pl sp).2.1.kn := by
 unfold kAct
 split
 ·exact minted_kb h _ _ _ _ _ (mint_lo gd _ _ _)
 split
 ·split
  ·exact h
  ·exact destroyed_kb h _ _ _ _
 ·exact h
theorem pl_lo (gd : PGd p) : ∀ x ∈ p.pl, 0 <= x.nu := by
 have one : ∀ i, is01 i -> (∀ x ∈ (p.ls i).it, 0 <= x.nu) /\ ∀ e ∈ (p.ls i).ob, 0 <= e.it.nu := fun i hi => by
  obtain ⟨⟨r, g⟩, _⟩ := gd.at hi
  have has := lasts_has g
  refine ⟨fun x hx => ?_, fun e he => ?_⟩
  ·have := idB_ok (it_parts (has.it x hx).1).1
   omega
  ·have := idB_ok (it_parts (has.en e he).1).1
   omega
 have there : ∀ i, is01 i -> ∀ e : Ds, ∀ x ∈ thereD (p.ls i) e, 0 <= x.nu := fun i hi e x hx => by
  unfold thereD cnt at hx
  rcases List.mem_append.1 hx with hx | hx
  ·obtain ⟨y, hy, rfl⟩ := List.mem_map.1 hx
   exact (one i hi).1 y hy
  ·obtain ⟨y, hy, rfl⟩ := List.mem_map.1 hx
   exact (one i hi).2 y (List.mem_filter.1 hy).1
 intro x hx
 rcases List.mem_append.1 (show x ∈ thereD (p.ls 0) (p.ls 1) ++ thereD (p.ls 1) (p.ls 0) from hx) with hx | hx
 ·exact there 0 (.inl rfl) _ x hx
 ·exact there 1 (.inr rfl) _ x hx
theorem OI.top (h : OI k p) : ∀ q ∈ k.kn, is01 q.sh /\ 0 <= q.nu /\ q.nu <= 65535 := fun q hq => by
 obtain ⟨⟨r0, g0⟩, _⟩ := h.gd.at (i := 0) (.inl rfl)
 obtain ⟨⟨r1, g1⟩, _⟩ := h.gd.at (i := 1) (.inr rfl)
 have a0 : (p.ls 0).ms.m <= 65535 := (lasts_has g0).mo.m1
 have a1 : (p.ls 1).ms.m <= 65535 := (lasts_has g1).mo.m1
 rcases h.ki.id q hq with ⟨e, b⟩ | ⟨e, b⟩
 ·exact ⟨.inl e, h.kb q hq, by omega⟩
 ·exact ⟨.inr e, h.kb q hq, by omega⟩
theorem OI.ok (h : OI k p) : KnOk k.kn := fun q hq => by
 obtain ⟨a, b, c⟩ := h.top q hq
 refine ⟨?_, by unfold i64B; omega⟩
 rcases a with e | e <;> rw [e] <;> exact ⟨by decide, by decide⟩
theorem OI.len (h : OI k p) : k.kn.length <= 131072 := by
 have nd : (k.kn.map (fun q => q.sh.toNat * 65536 + q.nu.toNat)).Nodup := by
  unfold List.Nodup
  rw [List.pairwise_map]
  refine List.Pairwise.imp_of_mem (fun {a b} ha hb hab e => ?_) h.ki.nd
  obtain ⟨a1, a2, a3⟩ := h.top a ha
  obtain ⟨b1, b2, b3⟩ := h.top b hb
  refine hab (dd_ext ?_ ?_)
  ·show a.sh = b.sh
   rcases a1 with a1 | a1 <;> rcases b1 with b1 | b1 <;> rw [a1, b1] at e ⊢ <;> simp at e ⊢ <;> omega
  ·show a.nu = b.nu
   rcases a1 with a1 | a1 <;> rcases b1 with b1 | b1 <;> rw [a1, b1] at e <;> simp at e <;> omega
 have := room 131072 _ nd (fun x hx => by
  obtain ⟨q, hq, rfl⟩ := List.mem_map.1 hx
  obtain ⟨a1, a2, a3⟩ := h.top q hq
  rcases a1 with a1 | a1 <;> rw [a1] <;> simp <;> omega)
 rwa [List.length_map] at this
theorem OI.act (h : OI k p) (hi : is01 i) (K n m : Int) (pl sp : Nat) (hm : i64B m) (hp : pl < 4294967296) (hq : sp < 4294967296) : (kAct k p K i n m pl sp).1 = true /\ OI (kAct k p K i n m pl sp).2.1 (kAct k p K i n m pl sp).2.2 := by
 have a := kAct_inv h.gd h.w h.ki hi K n m pl sp hp hq
 have b := kAct_keep (k := k) h.gd h.ok K i n m pl sp hm hp hq
 exact ⟨a.1, b.1.gd, a.2.1, a.2.2, kAct_kb h.gd h.kb K i n m pl sp⟩
theorem OI.quiet {q : Pr} (h : OI k p) (g : QP p q) (gd : PGd q) : OI k q := ⟨gd, g.w, h.ki.quiet g, h.kb⟩
theorem OI.right (h : OI k p) : OI (k.right p.pl (p.ls 0).ms (p.ls 1).ms) p := by
 refine ⟨h.gd, h.w, right_inv h.w h.ki, fun z hz => ?_⟩
 obtain ⟨q, hq, rfl⟩ := List.mem_map.1 (show z ∈ (newK k.kn p.pl).map (settle p.pl) from hz)
 rw [(settle_dd _ q).2.2]
 rcases newK_mem hq with hq | ⟨d, hd, _, rfl⟩
 ·exact h.kb q hq
 ·exact pl_lo h.gd d hd
end
section
variable {w wr : World} {bk bp : Nat} {k : Kp} {p : Pr}
theorem KQ.act (h : KQ w bk bp wr k p) (oi : OI k p) (a : Al) (oka : a.Ok) : Calls Tryz.prog 12 #[.pointer (some ⟨bk, 0, none⟩), acV a.K a.sh a.k a.m a.x a.y a.pl a.sp a.t] wr fun e w' => ∃ k' p', e = .returned (.bool true) /\ KQ w bk bp w' k' p' /\ OI k' p' := by
 obtain ⟨vk, D, hx, gd, hF, ho⟩ := h
 have A := oi.act (pick_is01 a.sh) a.K a.k a.m a.pl a.sp oka.m oka.pl oka.sp
 have ln := oi.len
 refine (kact_any bk bp vk D k p a.K a.sh a.k a.m a.x a.y a.pl a.sp a.t wr hx gd oka.sh oka.k oka.pl oka.sp (by omega) oi.ok).mono ?_
 rintro e w' ⟨rfl, n⟩
 rw [A.1]
 exact ⟨_, _, rfl, KQ.kn A.2.gd hF ho n, A.2⟩
theorem KQ.right (h : KQ w bk bp wr k p) (oi : OI k p) : Calls Tryz.prog 25 #[.pointer (some ⟨bk, 0, none⟩)] wr fun e w' => ∃ k', e = .returned (.bool true) /\ KQ w bk bp w' k' p /\ OI k' p := by
 have h' := h
 obtain ⟨vk, D, hx, gd, hF, ho⟩ := h
 by_cases hu : p.upE 0 = 0 /\ p.upE 1 = 0
 ·obtain ⟨h0, h1⟩ := hu
  obtain ⟨t1, t2, t3⟩ := told_pl gd h0 h1
  have ln := oi.len
  have pn : p.pl.length <= 4000 := by
   rw [<- t1]
   have a := told_ok gd 0
   have b := told_ok gd 1
   unfold Pr.there
   simp only [List.length_append, List.length_map]
   have c := List.length_filter_le (fun e => decide ((p.marks (1 - 0)).n < e.sq)) (p.outbox 0)
   have d := List.length_filter_le (fun e => decide ((p.marks (1 - 1)).n < e.sq)) (p.outbox 1)
   omega
  refine (right_any bk bp vk D k p wr p.pl hx h0 h1 (by omega) (right_ok oi.w oi.ki) (fun K e0 e1 => ?_) (fun W hW => ?_)).mono ?_
  ·have rm := right_marks oi.w oi.ki
   unfold Kp.rises
   rw [t2, t3, e0, e1, if_neg (by rw [rm.1]; simp), if_neg (by rw [rm.2]; simp)]
  ·rw [<- t1]
   exact places_any bk bp vk D k p W hW gd h0 h1 (fun i => ⟨(told_ok gd i).1.1, (told_ok gd i).2.1⟩)
  ·rintro e w' ⟨rfl, n⟩
   rw [t2, t3] at n
   exact ⟨_, rfl, KQ.kn gd hF ho n, oi.right⟩
 ·refine (right_down bk bp vk D k p wr hx hu).mono ?_
  rintro e w' ⟨rfl, g⟩
  exact ⟨k, rfl, h'.grown g, oi⟩
theorem KQ.places (h : KQ w bk bp wr k p) (h0 : p.upE 0 = 0) (h1 : p.upE 1 = 0) : Calls Tryz.prog 26 #[.pointer (some ⟨bk, 0, none⟩)] wr fun e w' => ∃ v, e = .returned (.tuple #[v, .bool true]) /\ (∃ a n c, v = .slice a n c) /\ KQ w bk bp w' k p := by
 have h' := h
 obtain ⟨vk, D, hx, gd, hF, ho⟩ := h
 refine (places_any bk bp vk D k p wr hx gd h0 h1 (fun i => ⟨(told_ok gd i).1.1, (told_ok gd i).2.1⟩)).mono ?_
 rintro e w' ⟨v, rfl, o, g⟩
 obtain ⟨a, c, e⟩ := slice_len o
 exact ⟨v, rfl, ⟨a, _, c, e⟩, h'.grown g⟩
end
section
variable {k : Kp} {p : Pr} {i : Int}
theorem crash_down (hi : is01 i) (n : Int) : ((p.crash i n).2.sh i).up = false /\ ∀ j, is01 j -> j ≠ i -> (p.crash i n).2.sh j = p.sh j := by
 unfold Pr.crash Pr.onUp
 rcases upE_01 (p := p) hi with ⟨hu, up⟩ | ⟨hu, up⟩
 ·rw [if_pos hu]
  dsimp only
  refine ⟨by rw [setSh_sh hi]; rfl, fun j hj ne => ?_⟩
  rcases hi with rfl | rfl <;> rcases hj with rfl | rfl
  ·exact absurd rfl ne
  ·rfl
  ·rfl
  ·exact absurd rfl ne
 ·rw [if_neg (by rw [hu]; decide)]
  exact ⟨up, fun _ _ _ => rfl⟩
theorem rst_up (hi : is01 i) (hd : (p.sh i).up = false) : (p.restart i).1 = 0 /\ (p.restart i).2.upE i = 0 /\ ∀ j, is01 j -> j ≠ i -> (p.restart i).2.sh j = p.sh j := by
 unfold Pr.restart
 rw [if_pos ⟨hi, hd⟩]
 refine ⟨rfl, upE_set hi rfl, fun j hj ne => ?_⟩
 dsimp only
 rcases hi with rfl | rfl <;> rcases hj with rfl | rfl
 ·exact absurd rfl ne
 ·rfl
 ·rfl
 ·exact absurd rfl ne
theorem upE_of {q : Pr} (hi : is01 i) (e : q.sh i = p.sh i) (h : p.upE i = 0) : q.upE i = 0 := by
 have up := (upE_at h).2
 rcases upE_01 (p := q) hi with ⟨a, _⟩ | ⟨_, b⟩
 ·exact a
 ·rw [e, up] at b; cases b
theorem both_up (h : OI k p) : ((p.crash 0 0).2.restart 0).1 = 0 /\ ((((p.crash 0 0).2.restart 0).2.crash 1 0).2.restart 1).1 = 0 /\ ((((p.crash 0 0).2.restart 0).2.crash 1 0).2.restart 1).2.upE 0 = 0 /\ ((((p.crash 0 0).2.restart 0).2.crash 1 0).2.restart 1).2.upE 1 = 0 /\ OI k ((((p.crash 0 0).2.restart 0).2.crash 1 0).2.restart 1).2 := by
 have z0 : is01 0 := .inl rfl
 have z1 : is01 1 := .inr rfl
 have c0 := crash_down (p := p) z0 0
 have r0 := rst_up z0 c0.1
 have c1 := crash_down (p := ((p.crash 0 0).2.restart 0).2) z1 0
 have r1 := rst_up z1 c1.1
 refine ⟨r0.1, r1.1, upE_of z0 ((r1.2.2 0 z0 (by decide)).trans (c1.2 0 z0 (by decide))) r0.2.1, r1.2.1, ?_⟩
 have o1 := h.quiet (crash_q h.gd h.w 0 0) (crash_keep h.gd 0 0).gd
 have o2 := o1.quiet (restart_q o1.gd o1.w 0) (restart_keep o1.gd 0).gd
 have o3 := o2.quiet (crash_q o2.gd o2.w 1 0) (crash_keep o2.gd 1 0).gd
 exact o3.quiet (restart_q o3.gd o3.w 1) (restart_keep o3.gd 1).gd
theorem KI.marks (h : KI k p) {a b : Mk} (ha : mkLe a (p.ls 0).ms) (hb : mkLe b (p.ls 1).ms) : KI ⟨k.kn, k.d0, k.d1, a, b⟩ p := ⟨h.h1, h.h2, h.dd, h.id, h.nd, ha, hb⟩
end
section
variable (cI cO cJ : Int)
theorem new_w (hv : cfgB cI cO cJ) : WP (Pr.new cI cO cJ) 0 /\ KI ⟨[], false, false, mk0, mk0⟩ (Pr.new cI cO cJ) := by
 have gd := new_gd cI cO cJ hv
 have l0 : (Pr.new cI cO cJ).ls 0 = ⟨[], [], base1.mks⟩ := by
  rw [ls_up gd (.inl rfl) (upE_at (new_up cI cO cJ).1).2]
  show (sh1 0 cI cO cJ).ds = _
  rw [sh1_eq]; rfl
 have l1 : (Pr.new cI cO cJ).ls 1 = ⟨[], [], base1.mks⟩ := by
  rw [ls_up gd (.inr rfl) (upE_at (new_up cI cO cJ).2).2]
  show (sh1 1 cI cO cJ).ds = _
  rw [sh1_eq]; rfl
 have pl : (Pr.new cI cO cJ).pl = [] := by unfold Pr.pl; rw [l0, l1]; rfl
 refine ⟨?_, ?_⟩
 ·show WH 0 ((Pr.new cI cO cJ).ls 0) ((Pr.new cI cO cJ).ls 1) [] []
  have e : PL ((Pr.new cI cO cJ).ls 0) ((Pr.new cI cO cJ).ls 1) = [] := pl
  refine ⟨(by rw [e]; exact List.nodup_nil), (by rw [e]; intro x hx; cases hx), (by rw [l0, l1]; decide), (by rw [l0, l1]; decide), (by rw [l0, l1]; decide), (by rw [l0, l1]; decide), fun t ht => (by cases ht), fun t ht => (by cases ht)⟩
 ·refine ⟨fun q hq => (by cases hq), fun q hq => (by cases hq), (by rw [pl]; intro x hx; cases hx), fun q hq => (by cases hq), .nil, (by rw [l0]; unfold mkLe; decide), (by rw [l1]; unfold mkLe; decide)⟩
theorem kept_oi (hv : cfgB cI cO cJ) (hJ : 400 <= cJ) : OI kpK (prK cI cO cJ) := by
 have hI : 1 <= cI := hv.1.1
 have hO : 1 <= cO := hv.2.1.1
 have g0 := new_gd cI cO cJ hv
 have n0 := new_w cI cO cJ hv
 have sf := sideF_ok (x := 1065353216) (by decide) (i := 0) (.inl rfl)
 have sp := speedF_ok (x := 1073741824) (by decide)
 have m1 := mint_inv g0 n0.1 n0.2 (.inl rfl) (sideF 1065353216 0) (speedF 1073741824) sf.1 sp.1 sf.2 (sideF_lt (by decide) 0) sp.2
 have g1 := (mint_keep g0 0 (sideF 1065353216 0) (speedF 1073741824) (sideF_lt (by decide) 0) sp.2).gd
 rw [kept_mint cI cO cJ hI hJ] at m1 g1
 rw [(new_up cI cO cJ).1] at m1
 dsimp only at m1 g1
 rw [kept_known] at m1
 have q2 := tick_q g1 m1.2.1 0
 have g2 := (tick_keep g1 0).gd
 rw [kept_tick cI cO cJ hO hJ] at q2 g2
 have q3 := send_q g2 q2.w 0
 have g3 := (send_keep g2 0).gd
 rw [kept_send cI cO cJ] at q3 g3
 have q4 := deliver_q g3 q3.w 1 0
 have g4 := (deliver_keep g3 1 0).gd
 rw [kept_deliver cI cO cJ hI hJ] at q4 g4
 have q4' : QP _ (prK cI cO cJ) := q4
 have g4' : PGd (prK cI cO cJ) := g4
 have ki := ((m1.2.2.quiet q2).quiet q3).quiet q4'
 obtain ⟨_, t2, t3⟩ := told_pl g4' (kept_up cI cO cJ).1 (kept_up cI cO cJ).2
 have e2 : (prK cI cO cJ).marks 0 = ⟨1, 1, 1, 0, 0⟩ := by kernel_rfl
 have e3 : (prK cI cO cJ).marks 1 = ⟨1, 0, 0, 0, 1⟩ := by kernel_rfl
 refine ⟨g4', q4'.w, ki.marks (by rw [<- t2, e2]; unfold mkLe; decide) (by rw [<- t3, e3]; unfold mkLe; decide), fun q hq => ?_⟩
 obtain rfl : q = ⟨0, 1, 1⟩ := by simpa [kpK] using hq
 decide
end
theorem KQ.base {w W wr : World} {bk bp : Nat} {k : Kp} {p : Pr} (h : KQ W bk bp wr k p) (g : w.grownBy W none) : KQ w bk bp wr k p := by
 obtain ⟨vk, D, hx, gd, hF, ho⟩ := h
 have z := g.size
 exact ⟨vk, D, hx, gd, fun j hj => Nat.le_trans z (hF j hj), ((Only.grown g).mono (by simp)).trans (ho.mono (fun j _ hj => .inl (Nat.le_trans z hj)))⟩
theorem once_any (cI cO cJ : Int) (v : Value) (l : List Al) (w : World) (hI : i64B cI) (hO : i64B cO) (hJ : i64B cJ) (hl : LiesL w v l) (hn : l.length <= 1048576) (ok : ∀ a ∈ l, a.Ok) :
  Calls Tryz.prog 7 #[.agg #[.int .i64 cI, .int .i64 cO, .int .i64 cJ], v] w fun e w' => e = .returned (.bool true) /\ Only w w' (fun j => w.heap.size <= j) := by
 have hsf := run_store_float
 obtain ⟨a, c, rfl, hx⟩ := hl
 obtain ⟨n, hln⟩ : ∃ n, l.length = n := ⟨_, rfl⟩
 rw [hln] at hx hn ⊢
 have HX := Hid.mk' hx
 have HL := Hid.mk' hln
 have OK := Hid.mk' ok
 have G0 := Hid.mk' (World.grownBy_alloc w (.cells #[.int .i64 cI, .int .i64 cO, .int .i64 cJ] 23) none)
 have S1 := Hid.mk' fun W => settings_any cI cO cJ W hI hO hJ
 have K1 := Hid.mk' fun W => kept_any (setI cI) (setO cO) (setJ cJ) W (set_cfg cI cO cJ).1 (set_cfg cI cO cJ).2
 have O1 := Hid.mk' (kept_oi (setI cI) (setO cO) (setJ cJ) (set_cfg cI cO cJ).1 (set_cfg cI cO cJ).2)
 clear hx hln ok hI hO hJ
 generalize setI cI = sI at S1 K1 O1
 generalize setO cO = sO at S1 K1 O1
 generalize setJ cJ = sJ at S1 K1 O1
 go_enter Tryz.func7, Tryz.ntmps7
 go_wp2_with fail
 refine Calls.mono (S1.out _) ?_
 rintro e w1 ⟨rfl, g1⟩
 have G1 := Hid.mk' (G0.out.trans g1)
 clear g1
 go_wp2_with fail
 refine Calls.mono (K1.out _) ?_
 rintro e w2 ⟨bk, bp, rfl, kq⟩
 have L2 : Hid (∃ k p, KQ w bk bp w2 k p /\ OI k p) := Hid.mk' ⟨_, _, kq.base G1.out, O1.out⟩
 clear kq K1 S1 O1
 go_wp2_with fail
 go_loopw [6] (fun f wr => ∃ k : Nat, k <= n /\ f = .int .i64 k /\ ∃ kp p, KQ w bk bp wr kp p /\ OI kp p) (fun f _ => n - (intOf f).toNat)
 case atStart => exact ⟨0, by omega, rfl, L2.out⟩
 case round =>
  clear L2
  obtain ⟨k, hk, rfl, kp, p, kq, oi⟩ := hrel
  have Q1 := Hid.mk' kq
  have I1 := Hid.mk' oi
  clear kq oi
  by_cases hlt : k < n
  ·have hkl : k < l.length := by rw [HL.out]; exact hlt
   obtain ⟨g, off, rfl, hc⟩ := HX.out (by omega)
   obtain ⟨y, hi⟩ : ∃ y, l[k] = y := ⟨_, rfl⟩
   have hgl : g < w.heap.size := World.block_lt_of_cell? w _ (hc (9 * k) _ (by rw [show 9 * k = 9 * k + 0 by omega, flat_atL l k 0 hkl (by omega)]; rfl))
   have D : ∀ j (hj : j < 9) u, y.cells[j]? = some u -> wr.cell? ⟨g, off + k * 9 + j, none⟩ = some u := fun j hj u hu => by
    have := hc (9 * k + j) u (by rw [flat_atL l k j hkl hj, hi]; exact hu)
    rw [show off + (9 * k + j) = off + k * 9 + j by omega] at this
    exact Q1.out.only.cell this (by simp; omega)
   have AC := Hid.mk' (Q1.out.act I1.out y (OK.out y (by rw [<- hi]; exact List.getElem_mem hkl)))
   have d0 := D 0 (by omega) _ rfl
   have d1 := D 1 (by omega) _ rfl
   have d2 := D 2 (by omega) _ rfl
   have d3 := D 3 (by omega) _ rfl
   have d4 := D 4 (by omega) _ rfl
   have d5 := D 5 (by omega) _ rfl
   have d6 := D 6 (by omega) _ rfl
   have d7 := D 7 (by omega) _ rfl
   have d8 := D 8 (by omega) _ rfl
   rw [Nat.add_zero] at d0
   clear hc hi D
   obtain ⟨K, sh, yk, m, x, yy, pl, sp, t⟩ := y
   simp only at d0 d1 d2 d3 d4 d5 d6 d7 d8 AC
   have y0 : (0 : Int) <= (k : Int) := by omega
   have y1 : (k : Int) < (n : Int) := by omega
   go_wp2_with fail
   refine Calls.mono AC.out ?_
   rintro e w3 ⟨k3, p3, rfl, q3, i3⟩
   have C3 := Hid.mk' (q3.right i3)
   clear q3 i3 AC d0 d1 d2 d3 d4 d5 d6 d7 d8
   go_wp2_with fail
   refine Calls.mono C3.out ?_
   rintro e w4 ⟨k4, rfl, q4, i4⟩
   have Q4 := Hid.mk' (And.intro q4 i4)
   clear q4 i4 C3
   go_wp2
   exact ⟨⟨k + 1, by omega, by go_num, k4, p3, Q4.out⟩, by simp [intOf]; omega⟩
  ·obtain rfl : k = n := by omega
   have y1 : ¬ (k : Int) < (k : Int) := by omega
   have BU := Hid.mk' (both_up I1.out)
   have c0 := Q1.out.c0
   have lt0 := Q1.out.lt
   have C0 := Hid.mk' (Q1.out.crash 0 0)
   go_wp2_with fail
   refine wp_loop_rounds 3 ?_
   rw [rounds_succ]
   go_wp2_with fail
   refine Calls.mono C0.out ?_
   rintro e w3 ⟨rfl, q3⟩
   have c3 := q3.c0
   have lt3 := q3.lt
   have C3 := Hid.mk' (q3.restart 0)
   rw [BU.out.1] at C3
   clear q3 c0 C0
   go_wp2_with fail
   refine Calls.mono C3.out ?_
   rintro e w4 ⟨rfl, q4⟩
   have c4 := q4.c0
   have lt4 := q4.lt
   have C4 := Hid.mk' (q4.crash 1 0)
   clear q4 c3 C3
   go_wp2_with fail
   rw [rounds_succ]
   go_wp2_with fail
   refine Calls.mono C4.out ?_
   rintro e w5 ⟨rfl, q5⟩
   have c5 := q5.c0
   have lt5 := q5.lt
   have C5 := Hid.mk' (q5.restart 1)
   rw [BU.out.2.1] at C5
   clear q5 c4 C4
   go_wp2_with fail
   refine Calls.mono C5.out ?_
   rintro e w6 ⟨rfl, q6⟩
   have C6 := Hid.mk' (q6.places BU.out.2.2.1 BU.out.2.2.2.1)
   have lt6 := q6.lt
   clear q6 c5 C5
   go_wp2_with fail
   rw [rounds_succ]
   go_wp2_with fail
   refine Calls.mono C6.out ?_
   rintro e w7 ⟨v7, rfl, ⟨a7, n7, e7, rfl⟩, q7⟩
   have C7 := Hid.mk' (q7.right BU.out.2.2.2.2)
   clear q7 C6
   go_wp2_with fail
   refine Calls.mono C7.out ?_
   rintro e w8 ⟨k8, rfl, q8, _⟩
   have Q8 := Hid.mk' q8.only
   clear q8 C7
   go_wp2
   go_ret
   exact ⟨rfl, Q8.out⟩
end Go.Proofs.YtammnaafdhhjaaaGreat
