import Derived.BigQuiet
import Derived.Test.YtammnaafdhhjaaaGreatRows
import Derived.Test.YtammnaafdhhjaaaGreatJC4
import Derived.Test.YtammnaafdhhjaaaGreatJS2
import Derived.Test.YtammnaafdhhjaaaGreatJF3
import Derived.Test.YtammnaafdhhjaaaGreatR8
import Derived.Test.YtammnaafdhhjaaaGreatR96
import Derived.Test.YtammnaafdhhjaaaGreatJG7
import Derived.Test.YtammnaafdhhjaaaGreatJG16
import Derived.Test.YtammnaafdhhjaaaGreatJG22
import Derived.Test.YtammnaafdhhjaaaGreatJG26
import Derived.Test.YtammnaafdhhjaaaGreatC9
set_option maxHeartbeats 16000000
set_option maxRecDepth 100000
namespace Go.Proofs.YtammnaafdhhjaaaGreat
open Go.RowKit
def base1 : Rc := ⟨6, 0, it0, ⟨1, 0, 0, 0, 0⟩, [], []⟩
theorem told1 : Told base1 := ⟨by decide, ⟨by decide, by decide⟩, by simp [base1], by simp [base1]⟩
def dk1 : Dk := ⟨frm base1, (frm base1).length, [], 0, 0, 0⟩
def Sh.init (no : Nat) (cI cO cJ : Int) : Sh := ⟨no, cI, cO, cJ, dk1, false, 0, [], [], mk0⟩
theorem frm1_len : (frm base1).length <= 1200 := by
 have := (enc_len base1 told1.m).2
 rw [frm_length]; omega
theorem dk1_ok : dk1.Ok := ⟨Nat.le_refl _, Nat.le_refl _, by have := frm1_len; show (frm base1).length <= 10000; omega, by decide, by decide, by decide⟩
theorem scan1 : scanL (frm base1) = [base1] /\ (scanC (frm base1)).2 = (frm base1).length := by
 have := scan_whole (rs := [base1]) (by simp [told1])
 simpa [frms] using this
theorem choice1 : dk1.choice = 0 := by
 unfold Dk.choice dk1
 simp only
 rw [scan1.1, scan_nil.1]
 rfl
theorem jnl1 (no : Nat) (cI cO cJ : Int) : Jnl (Sh.init no cI cO cJ).begun (scanL ((Sh.init no cI cO cJ).dk.file (Sh.init no cI cO cJ).dk.choice)) := by
 have e : scanL ((Sh.init no cI cO cJ).dk.file (Sh.init no cI cO cJ).dk.choice) = [base1] := by
  show scanL (dk1.file dk1.choice) = _
  rw [choice1]
  exact scan1.1
 rw [e]
 exact ⟨by simp, fun _ => ⟨rfl, by simp [base1], by simp [base1]⟩, fun _ => trivial, by simp⟩
theorem shNew_any (no : Nat) (cI cO cJ : Int) (w : World) :
  Calls Tryz.prog 77 #[.int .i64 no, .agg #[.int .i64 cI, .int .i64 cO, .int .i64 cJ]] w fun e w' => ∃ b, e = .returned (.pointer (some ⟨b, 0, none⟩)) /\ PS w' b (Sh.init no cI cO cJ).restart (fun j => w.heap.size <= j /\ j < w'.heap.size) /\ w.grownBy w' none := by
 have hsf := run_store_float
 have g0 := grownBy_drew ((World.grownBy_alloc w (.cells #[.int .i64 cI, .int .i64 cO, .int .i64 cJ] 23) none).trans (World.grownBy_alloc _ (.cells #[.int .i64 6, .int .i64 0, .int .i64 0, .int .i64 0, .float .f32 0, .float .f32 0, .int .i64 1, .int .i64 0, .int .i64 0, .int .i64 0, .int .i64 0, .slice none 0 0, .slice none 0 0] 139) none))
 have G0 := Hid.mk' g0
 have A0 := Hid.mk' (((At.new w [.int .i64 cI, .int .i64 cO, .int .i64 cJ] 23).grown (World.grownBy_alloc _ (.cells #[.int .i64 6, .int .i64 0, .int .i64 0, .int .i64 0, .float .f32 0, .float .f32 0, .int .i64 1, .int .i64 0, .int .i64 0, .int .i64 0, .int .i64 0, .slice none 0 0, .slice none 0 0] 139) none)).drew)
 have R0 := Hid.mk' (At.new (w.alloc (.cells #[.int .i64 cI, .int .i64 cO, .int .i64 cJ] 23)) [.int .i64 6, .int .i64 0, .int .i64 0, .int .i64 0, .float .f32 0, .float .f32 0, .int .i64 1, .int .i64 0, .int .i64 0, .int .i64 0, .int .i64 0, .slice none 0 0, .slice none 0 0] 139).drew
 have FR : Hid (∀ W : World, Calls Tryz.prog 122 #[rv 6 0 it0 ⟨1, 0, 0, 0, 0⟩ (.slice none 0 0) (.slice none 0 0)] W fun e w' => e = .returned (.string (S (frm base1))) /\ W.grownBy w' none) := Hid.mk' fun W => framed_yes base1 _ _ W (lies_nil W) (liesE_nil W) told1.m told1.wf
 unfold rv it0 at FR
 clear g0
 go_enter Tryz.func77, Tryz.ntmps77
 go_wp2_with fail
 refine wp_region_held_drew (S := fun w' => At w' w.heap.size [.int .i64 cI, .int .i64 cO, .int .i64 cJ] /\ At w' (w.heap.size + 1) [.int .i64 6, .int .i64 0, .int .i64 0, .int .i64 0, .float .f32 0, .float .f32 0, .int .i64 1, .int .i64 0, .int .i64 0, .int .i64 0, .int .i64 0, .slice none 0 0, .slice none 0 0]) (by kernel_rfl) (⟨A0.out, by have := R0.out; simpa using this⟩) (fun hHeld => ?_)
 refine hTk 0 ?_
 simp only [lS0, lS1]
 refine hTy 1 rfl (by intro w hSw; have S0 := hSw.1.c 0 _ rfl; have S1 := hSw.1.c 1 _ rfl; have S2 := hSw.1.c 2 _ rfl; go_simp; try with_reducible rfl) ?_
 simp only [lS0, lS1]
 refine hTy 2 rfl (by intro w hSw; have S0 := hSw.2.c 0 _ rfl; have S1 := hSw.2.c 1 _ rfl; have S2 := hSw.2.c 2 _ rfl; have S3 := hSw.2.c 3 _ rfl; have S4 := hSw.2.c 4 _ rfl; have S5 := hSw.2.c 5 _ rfl; have S6 := hSw.2.c 6 _ rfl; have S7 := hSw.2.c 7 _ rfl; have S8 := hSw.2.c 8 _ rfl; have S9 := hSw.2.c 9 _ rfl; have S10 := hSw.2.c 10 _ rfl; have S11 := hSw.2.c 11 _ rfl; have S12 := hSw.2.c 12 _ rfl; go_simp; try with_reducible rfl) ?_
 simp only [lS0, lS1]
 refine hCall 3 (f := 122) (args := #[.agg #[.int .i64 6, .int .i64 0, .int .i64 0, .int .i64 0, .float .f32 0, .float .f32 0, .int .i64 1, .int .i64 0, .int .i64 0, .int .i64 0, .int .i64 0, .slice none 0 0, .slice none 0 0]]) (by kernel_rfl) (by rfl) (by rfl) (by go_simp) ?_
 refine Calls.mono (FR.out _) ?_
 rintro e w1 ⟨rfl, g1⟩
 have G1 := Hid.mk' (G0.out.trans g1)
 have h1 := And.intro (hHeld.1.grown g1) (hHeld.2.grown g1)
 clear hHeld
 have hHeld := h1
 clear g1 h1
 refine ⟨_, rfl, hHeld, ?_⟩
 simp only [lS0, lS1]
 refine hCall 4 (f := 133) (args := #[.string (S (frm base1))]) (by kernel_rfl) (by rfl) (by rfl) (by go_simp) ?_
 refine Calls.mono (dkNew_any (frm base1) _) ?_
 rintro e w2 ⟨bd, rfl, hbd, ad, g2⟩
 have G2 := Hid.mk' (G1.out.trans g2)
 have h2 := And.intro (hHeld.1.grown g2) (hHeld.2.grown g2)
 clear hHeld
 have hHeld := h2
 have AD := Hid.mk' ad
 have zb : w.heap.size <= bd := by have := G1.out.size; omega
 clear h2 ad g2
 refine ⟨_, rfl, hHeld, ?_⟩
 simp only [lS0, lS1]
 refine hTk 5 ?_
 simp only [lS0, lS1]
 refine hRun 6 (by kernel_rfl) (by rfl) (by rfl) ?_
 intro K hK
 go_simp
 refine hK _ _ ⟨hHeld.1.alloc _, hHeld.2.alloc _⟩ ?_
 replace hHeld := And.intro (hHeld.1.alloc (.cells #[.int .i64 no, .int .i64 cI, .int .i64 cO, .int .i64 cJ, .pointer (some ⟨bd, 0, none⟩), .bool false, .int .i64 0, .map none, .slice none 0 0, .int .i64 0, .int .i64 0, .int .i64 0, .int .i64 0, .int .i64 0] 132)) (hHeld.2.alloc (.cells #[.int .i64 no, .int .i64 cI, .int .i64 cO, .int .i64 cJ, .pointer (some ⟨bd, 0, none⟩), .bool false, .int .i64 0, .map none, .slice none 0 0, .int .i64 0, .int .i64 0, .int .i64 0, .int .i64 0, .int .i64 0] 132))
 refine hTk 7 ?_
 simp only [lS0, lS1]
 refine wpAnyH_done (by kernel_rfl) ?_ _
 have g3 := World.grownBy_alloc w2 (.cells #[.int .i64 no, .int .i64 cI, .int .i64 cO, .int .i64 cJ, .pointer (some ⟨bd, 0, none⟩), .bool false, .int .i64 0, .map none, .slice none 0 0, .int .i64 0, .int .i64 0, .int .i64 0, .int .i64 0, .int .i64 0] 132) none
 have bl := AD.out.lt
 have z2 := G2.out.size
 have RS := Hid.mk' (restart_ps w2.heap.size (Sh.init no cI cO cJ) (fun j => w.heap.size <= j /\ j < w2.heap.size + 1) _ ⟨bd, .inr ⟨rfl, At.new w2 [.int .i64 no, .int .i64 cI, .int .i64 cO, .int .i64 cJ, .pointer (some ⟨bd, 0, none⟩), .bool false, .int .i64 0, .map none, .slice none 0 0, .int .i64 0, .int .i64 0, .int .i64 0, .int .i64 0, .int .i64 0] 132, AD.out.grown g3, dk1_ok, by omega, ⟨z2, by omega⟩, ⟨zb, by omega⟩, rfl, rfl, rfl⟩⟩ rfl (jnl1 no cI cO cJ))
 have G3 := Hid.mk' (G2.out.trans g3)
 clear g3 hHeld
 go_wp2_with fail
 refine Calls.mono RS.out ?_
 rintro e w4 ⟨rfl, ps, on⟩
 go_wp2
 go_ret
 refine ⟨_, rfl, ps.mono (fun j hj h => ⟨?_, hj⟩), ?_⟩
 ·rcases h.1 with h | h
  ·exact h.1
  ·have := G3.out.size; omega
 ·exact grown_of_only G3.out on (fun k hk => hk.1)
end Go.Proofs.YtammnaafdhhjaaaGreat
namespace Go.Proofs.YtammnaafdhhjaaaGreat
open Go.RowKit
structure Fl (no : Nat) (cI cO : Int) (d : Dk) (c : Nat) (rs : List Rc) : Prop where
 told : ∀ r ∈ rs, Told r
 rp : Rp no cI cO rs (dsOf no cO rs)
 file : ∃ t, d.file c = frms rs ++ t /\ scanL t = [] /\ (scanC t).2 = 0
 oth : genOf (scanL (d.file (1 - c))) < genOf rs
structure Good (s : Sh) (r : Rs) : Prop where
 no : s.no < 2
 i0 : 1 <= s.cI
 i1 : s.cI <= 16
 o0 : 1 <= s.cO
 o1 : s.cO <= 8
 j1 : s.cJ <= 2000
 ct : s.ct < 2
 up : r.up = s.up
 rct : r.ct = s.ct
 dk : DkEq s.dk r.d
 ok : s.dk.Ok
 w0 : s.dk.l0 = s.dk.f0.length
 w1 : s.dk.l1 = s.dk.f1.length
 kb : -9223372036854775808 <= r.d.kp /\ r.d.kp <= 9223372036854775807
 jn : ∃ c rs, c < 2 /\ Fl s.no s.cI s.cO s.dk c rs /\ (s.up = true -> c = s.ct /\ s.dk.file c = frms rs /\ s.ds = dsOf s.no s.cO rs)
theorem Good.has {s : Sh} {r : Rs} (h : Good s r) (hu : s.up = true) : ∃ rs, (∀ r ∈ rs, Told r) /\ s.dk.file s.ct = frms rs /\ s.ds = dsOf s.no s.cO rs /\ Rp s.no s.cI s.cO rs s.ds /\ HasD s.no s.cI s.cO s.ds /\ genOf rs = s.ms.g /\ genOf (scanL (s.dk.file (1 - s.ct))) < s.ms.g := by
 obtain ⟨c, rs, hc, fl, hx⟩ := h.jn
 obtain ⟨rfl, h1, h2⟩ := hx hu
 have rp := fl.rp
 rw [<- h2] at rp
 have f := rp.facts
 have g : genOf rs = s.ms.g := f.2.2.2
 exact ⟨rs, fl.told, h1, h2, rp, f.2.2.1, g, by rw [<- g]; exact fl.oth⟩
def Rs.jrn (cJ : Int) (r : Rs) (p : Rc) : Int × Rs :=
 if cJ < ((r.d.file r.ct).length : Int) + ((frm p).length : Int) then (5, r)
 else if (r.put (r.d.append r.ct (frm p))).2 = false then (3, (r.put (r.d.append r.ct (frm p))).1)
 else if ((r.put (r.d.append r.ct (frm p))).1.put ((r.put (r.d.append r.ct (frm p))).1.d.sync r.ct)).2 = false then (3, ((r.put (r.d.append r.ct (frm p))).1.put ((r.put (r.d.append r.ct (frm p))).1.d.sync r.ct)).1)
 else (0, ((r.put (r.d.append r.ct (frm p))).1.put ((r.put (r.d.append r.ct (frm p))).1.d.sync r.ct)).1)
theorem Rs.put_yes (r : Rs) {a : Dk × Bool} (h : a.2 = true) : r.put a = (⟨r.up, a.1, r.ct⟩, true) := if_pos h
theorem Rs.put_no (r : Rs) {a : Dk × Bool} (h : a.2 = false) : r.put a = (⟨false, { a.1 with kp := r.d.kp }, r.ct⟩, false) := if_neg (by rw [h]; simp)
theorem act_kp (d : Dk) : d.act.1.kp = d.kp ∨ d.act.1.kp = 0 := by
 unfold Dk.act
 split
 ·exact .inl rfl
 split
 ·exact .inr rfl
 ·exact .inl rfl
theorem append_kp (d : Dk) (c : Nat) (p : List UInt8) : (d.append c p).1.kp = d.kp ∨ (d.append c p).1.kp = 0 := by
 unfold Dk.append
 split
 ·exact act_kp _
 ·exact act_kp _
theorem put_kp (d : Dk) (c : Nat) (p : List UInt8) (m : Nat) : (d.put c p m).kp = d.kp := by
 unfold Dk.put; split <;> rfl
theorem sync_kp (d : Dk) (c : Nat) : (d.sync c).1.kp = d.kp ∨ (d.sync c).1.kp = 0 := by
 unfold Dk.sync
 split
 ·rw [put_kp]; exact act_kp d
 ·exact act_kp d
theorem cut_kp (d : Dk) (c : Nat) : (d.cut c).1.kp = d.kp ∨ (d.cut c).1.kp = 0 := by
 unfold Dk.cut
 split
 ·rw [put_kp]; exact act_kp d
 ·exact act_kp d
def kpB (k : Int) : Prop := -9223372036854775808 <= k /\ k <= 9223372036854775807
theorem kpB_or {k m : Int} (h : kpB k) (hm : m = k ∨ m = 0) : kpB m := by
 unfold kpB at *; omega
theorem frms_snoc (rs : List Rc) (p : Rc) : frms (rs ++ [p]) = frms rs ++ frm p := by simp [frms]
theorem genOf_snoc {rs : List Rc} (h : 0 < rs.length) (p : Rc) : genOf (rs ++ [p]) = genOf rs := by
 cases rs with
 | nil => simp at h
 | cons b t => rfl
theorem fl_part {no : Nat} {cI cO : Int} {d : Dk} {c : Nat} {rs : List Rc} {G : List UInt8} {p : Rc} {j : Nat} (told : ∀ r ∈ rs, Told r) (rp : Rp no cI cO rs (dsOf no cO rs)) (ho : genOf (scanL G) < genOf rs) (tp : Told p) (ok : DOk no cI (dsOf no cO rs) p) (hj : j <= (frm p).length) (h : Wh d c (frms rs ++ (frm p).take j) G) : ∃ rs', Fl no cI cO d c rs' := by
 by_cases hk : j < (frm p).length
 ·obtain ⟨a1, a2⟩ := scan_cut tp j hk
  exact ⟨rs, told, rp, ⟨_, h.f, a1, a2⟩, by rw [h.g]; exact ho⟩
 ·have e : j = (frm p).length := by omega
  subst e
  have pos := rp.facts.1
  refine ⟨rs ++ [p], ?_, ?_, ⟨[], ?_, scan_nil.1, scan_nil.2⟩, ?_⟩
  ·intro x hx
   rcases List.mem_append.1 hx with hx | hx
   ·exact told x hx
   ·rw [List.mem_singleton.1 hx]; exact tp
  ·rw [dsOf_snoc pos]
   exact .snoc p rp ok
  ·rw [h.f, List.take_length, frms_snoc, List.append_nil]
  ·rw [h.g, genOf_snoc pos]; exact ho
theorem jrn_good {s : Sh} {r : Rs} {p : Rc} (h : Good s r) (hu : s.up = true) (tp : Told p) (ok : DOk s.no s.cI s.ds p) : (r.jrn s.cJ p).1 = (s.jrn p).1 /\ Good (s.jrn p).2 (r.jrn s.cJ p).2 := by
 obtain ⟨rs, told, hf, hds, rp, has, hg, ho⟩ := h.has hu
 have wh : Wh s.dk s.ct (frms rs) (s.dk.file (1 - s.ct)) := ⟨hf, rfl, h.w0, h.w1⟩
 rw [<- hg] at ho
 have ap := wh.appended h.ct (frm p)
 have rp' := rp
 rw [hds] at rp'
 have ok' := ok
 rw [hds] at ok'
 unfold Rs.jrn Sh.jrn
 rw [h.dk.file, h.rct]
 split
 ·exact ⟨rfl, h⟩
 rename_i hc
 have hlen : (s.dk.file s.ct).length + (frm p).length <= 10000 := by have := h.j1; omega
 have okA := (h.ok.append s.ct (frm p) hlen).act
 obtain ⟨e1, e2, e3⟩ := h.dk.append s.ct (frm p) r.d.kp
 have dn : ∀ (D E : Dk), DkEq D E -> D.Ok -> kpB E.kp -> (∃ j, j <= (frm p).length /\ Wh D s.ct (frms rs ++ (frm p).take j) (s.dk.file (1 - s.ct))) -> Good (s.down.on D) ⟨false, E, s.ct⟩ := by
  rintro D E he hk kb ⟨j, hj, hw⟩
  obtain ⟨rs', fl⟩ := fl_part told rp' ho tp ok' hj hw
  exact ⟨h.no, h.i0, h.i1, h.o0, h.o1, h.j1, h.ct, rfl, rfl, he, hk, hw.l0, hw.l1, kb, s.ct, rs', h.ct, fl, fun h => absurd h (by simp [Sh.on, Sh.down])⟩
 cases ha : (s.dk.append s.ct (frm p)).2
 ·rw [Rs.put_no r (e1.trans ha)]
  simp only [if_true]
  exact ⟨trivial, by rw [h.rct]; exact dn _ _ (e3 ha) okA h.kb (ap.1 ha)⟩
 rw [Rs.put_yes r (e1.trans ha)]
 simp only [Bool.true_eq_false, if_false]
 have kA : kpB (r.d.append s.ct (frm p)).1.kp := kpB_or h.kb (append_kp _ _ _)
 obtain ⟨g1, g2, g3⟩ := (e2 ha).sync s.ct (r.d.append s.ct (frm p)).1.kp
 have okB := Dk.Ok.sync okA s.ct
 obtain ⟨ap1, ap2⟩ := ap.2 ha
 cases hb : ((s.dk.append s.ct (frm p)).1.sync s.ct).2
 ·rw [Rs.put_no _ (g1.trans hb)]
  simp only [if_true]
  exact ⟨trivial, by rw [h.rct]; exact dn _ _ (g3 hb) okB kA (ap1 hb)⟩
 rw [Rs.put_yes _ (g1.trans hb)]
 simp only [Bool.true_eq_false, if_false]
 refine ⟨trivial, ?_⟩
 have hw := ap2 hb
 have up := doR_up (s.on ((s.dk.append s.ct (frm p)).1.sync s.ct).1) p
 obtain ⟨u1, u2, u3, u4, u5, u6, u7⟩ := up
 have nd : s.th.Pairwise (fun a b => ¬ a.same b) := nd_perm (srtTh_perm _).symm (has.ord.imp lt_ne)
 have dd := (doR_nd nd has ok).2
 have dd' : ((s.on ((s.dk.append s.ct (frm p)).1.sync s.ct).1).doR p).ds = s.ds.doR s.no s.cO p := by
  rw [doR_on]; exact dd
 have pos := rp.facts.1
 have e : dsOf s.no s.cO (rs ++ [p]) = s.ds.doR s.no s.cO p := by rw [dsOf_snoc pos, <- hds]
 refine ⟨by rw [u4]; exact h.no, by rw [u5]; exact h.i0, by rw [u5]; exact h.i1, by rw [u6]; exact h.o0, by rw [u6]; exact h.o1, by rw [u7]; exact h.j1, by rw [u3]; exact h.ct, by rw [u1]; exact h.up, by rw [u3]; exact h.rct, by rw [u2]; exact g2 hb, by rw [u2]; exact okB, by rw [u2]; exact hw.l0, by rw [u2]; exact hw.l1, kpB_or kA (sync_kp _ _), s.ct, rs ++ [p], h.ct, ?_, fun _ => ?_⟩
 ·rw [u2, u4, u5, u6]
  refine ⟨?_, ?_, ⟨[], ?_, scan_nil.1, scan_nil.2⟩, ?_⟩
  ·intro x hx
   rcases List.mem_append.1 hx with hx | hx
   ·exact told x hx
   ·rw [List.mem_singleton.1 hx]; exact tp
  ·show Rp s.no s.cI s.cO (rs ++ [p]) (dsOf s.no s.cO (rs ++ [p]))
   rw [e]
   exact .snoc p rp ok
  ·show Dk.file _ s.ct = _
   rw [List.append_nil, frms_snoc]
   exact hw.f
  ·show genOf (scanL (Dk.file _ (1 - s.ct))) < _
   rw [genOf_snoc pos]
   have := hw.g
   simp only [Sh.on] at *
   rw [this]
   exact ho
 ·rw [u2, u3, u4, u6]
  refine ⟨rfl, ?_, ?_⟩
  ·rw [frms_snoc]; exact hw.f
  ·rw [dd']; exact e.symm
end Go.Proofs.YtammnaafdhhjaaaGreat
namespace Go.Proofs.YtammnaafdhhjaaaGreat
open Go.RowKit
def destRec (x y : Int) : Rc := ⟨2, 0, ⟨x, y, 0, 0⟩, mk0, [], []⟩
def tickRec : Rc := ⟨3, 0, it0, mk0, [], []⟩
def mintRc (no : Nat) (m : Int) (pl sp : Nat) : Rc := ⟨1, 0, ⟨no, m + 1, pl, sp⟩, mk0, [], []⟩
def baseRc (d : Ds) : Rc := ⟨6, 0, it0, { d.ms with g := d.ms.g + 1 }, d.it, d.ob⟩
theorem told_tick : Told tickRec := ⟨by decide, ⟨by decide, by decide⟩, by simp [tickRec], by simp [tickRec]⟩
theorem told_dest {x y : Int} (h : idB x y = true) : Told (destRec x y) :=
 ⟨by show ((0 : Int) == 0 && idB x y && stB ⟨x, y, 0, 0⟩ && nobB (destRec x y)) = true; rw [h]; rfl, ⟨by show (0 : Nat) < _; decide, by show (0 : Nat) < _; decide⟩, by simp [destRec], by simp [destRec]⟩
theorem told_mint {no : Nat} {m : Int} {pl sp : Nat} (hn : no < 2) (h0 : 0 <= m) (h1 : m < 65535) (hp : nearB pl = true) (hq : nearB sp = true) (wp : pl < 4294967296) (wq : sp < 4294967296) : itB ⟨no, m + 1, pl, sp⟩ = true /\ Told (mintRc no m pl sp) := by
 have hi : itB ⟨no, m + 1, pl, sp⟩ = true := by
  simp only [itB, idB]
  rw [hp, hq, decide_eq_true (by omega : 1 <= m + 1), decide_eq_true (by omega : m + 1 <= 65535)]
  rcases (by omega : no = 0 ∨ no = 1) with rfl | rfl <;> rfl
 refine ⟨hi, ?_, ⟨wp, wq⟩, by simp [mintRc], by simp [mintRc]⟩
 show ((0 : Int) == 0 && itB ⟨no, m + 1, pl, sp⟩ && nobB (mintRc no m pl sp)) = true
 rw [hi]; rfl
theorem chk_ord : ∀ (l : List It) (p : Option It), (∀ q, p = some q -> ∀ x ∈ l, lt q x) -> Ord l -> (∀ x ∈ l, itB x = true) -> chk p l = true
 | [], _, _, _, _ => rfl
 | i :: t, p, hp, ho, hi => by
  have h' := List.pairwise_cons.1 ho
  show (itB i && prevOk p i && chk (some i) t) = true
  rw [hi i (.head _), chk_ord t (some i) (fun q hq x hx => by injection hq with hq; subst hq; exact h'.1 x hx) h'.2 (fun x hx => hi x (.tail _ hx))]
  cases p with
  | none => rfl
  | some q =>
   have : prevOk (some q) i = true := decide_eq_true ((cmpID_lt q i).2 (hp q rfl i (.head _)))
   rw [this]; rfl
theorem told_base {no : Nat} {cI cO : Int} {d : Ds} (h : HasD no cI cO d) (hI : cI <= 16) (hO : cO <= 8) (hg : d.ms.g < 65535) : Told (baseRc d) := by
 have m := h.mo
 have tl := h.tl
 have ol := h.ol
 refine ⟨?_, ⟨by show (0 : Nat) < _; decide, by show (0 : Nat) < _; decide⟩, fun i hi => (h.it i hi).2, fun e he => (h.en e he).2.1⟩
 show ((0 : Int) == 0 && noIt it0 && (mkB { d.ms with g := d.ms.g + 1 } && (decide (d.it.length <= 16) && chk none d.it) && (decide (d.ob.length <= 8) && chkE 0 d.ob))) = true
 rw [h.oc, chk_ord d.it none (fun q hq => by simp at hq) h.ord (fun x hx => (h.it x hx).1), decide_eq_true (by omega : d.it.length <= 16), decide_eq_true (by omega : d.ob.length <= 8)]
 have e : mkB { d.ms with g := d.ms.g + 1 } = true := by
  have g0 := m.g0; have m0 := m.m0; have m1 := m.m1; have s0 := m.s0; have s1 := m.s1; have a0 := m.a0; have a1 := m.a1; have n0 := m.n0; have n1 := m.n1
  simp [mkB, isN]
  omega
 rw [e]; rfl
theorem HasD.base {no : Nat} {cI cO : Int} {d : Ds} (h : HasD no cI cO d) (hg : d.ms.g < 65535) : HasD no cI cO ⟨d.it, d.ob, { d.ms with g := d.ms.g + 1 }⟩ :=
 ⟨h.ord, h.it, h.tl, h.ol, h.en, h.oc, ⟨by have := h.mo.g0; show 0 <= d.ms.g + 1; omega, by show d.ms.g + 1 <= 65535; omega, h.mo.m0, h.mo.m1, h.mo.s0, h.mo.s1, h.mo.a0, h.mo.a1, h.mo.n0, h.mo.n1⟩, h.mi⟩
theorem has_th {s : Sh} (x y : Int) : hasTh s.th x y = true ↔ ∃ i ∈ s.ds.it, i.sh = x /\ i.nu = y := by
 unfold hasTh
 rw [List.any_eq_true]
 constructor
 ·rintro ⟨i, hi, e⟩
  exact ⟨i, (srtTh_perm s.th).mem_iff.2 hi, of_decide_eq_true e⟩
 ·rintro ⟨i, hi, e⟩
  exact ⟨i, (srtTh_perm s.th).mem_iff.1 hi, decide_eq_true e⟩
def Rs.mint (no : Nat) (cI cJ : Int) (d : Ds) (r : Rs) (pl sp : Nat) : (Int × Int × Int) × Rs :=
 if (nearB pl && nearB sp) = false ∨ ¬ sideB pl = (no : Int) then ((0, 0, 2), r)
 else if cI <= (d.it.length : Int) ∨ 65535 <= d.ms.m then ((0, 0, 6), r)
 else if (r.jrn cJ (mintRc no d.ms.m pl sp)).1 = 0 then ((no, d.ms.m + 1, 0), (r.jrn cJ (mintRc no d.ms.m pl sp)).2) else ((0, 0, (r.jrn cJ (mintRc no d.ms.m pl sp)).1), (r.jrn cJ (mintRc no d.ms.m pl sp)).2)
theorem mint_good {s : Sh} {r : Rs} (h : Good s r) (hu : s.up = true) (pl sp : Nat) (wp : pl < 4294967296) (wq : sp < 4294967296) : (r.mint s.no s.cI s.cJ s.ds pl sp).1 = (s.mint pl sp).1 /\ Good (s.mint pl sp).2 (r.mint s.no s.cI s.cJ s.ds pl sp).2 := by
 obtain ⟨rs, _, _, _, _, has, _, _⟩ := h.has hu
 have len : s.ds.it.length = s.th.length := (srtTh_perm s.th).length_eq
 have m0 : 0 <= s.ms.m := has.mo.m0
 have m1 : s.ms.m <= 65535 := has.mo.m1
 have em : s.ds.ms = s.ms := rfl
 unfold Rs.mint Sh.mint
 split
 ·exact ⟨rfl, h⟩
 rename_i c1
 by_cases c2 : s.cI <= (s.th.length : Int) ∨ s.ms.m = 65535
 ·rw [if_pos c2, if_pos (by rw [len, em]; omega)]
  exact ⟨rfl, h⟩
 rw [if_neg c2, if_neg (by rw [len, em]; omega)]
 have hn : nearB pl = true /\ nearB sp = true := by
  have : ¬ (nearB pl && nearB sp) = false := fun e => c1 (.inl e)
  simpa using this
 obtain ⟨hi, ht⟩ := told_mint (no := s.no) (m := s.ms.m) h.no m0 (by omega) hn.1 hn.2 wp wq
 have e : s.mintRec pl sp = mintRc s.no s.ds.ms.m pl sp := rfl
 rw [e]
 have no2 := h.no
 have jg := jrn_good h hu (p := mintRc s.no s.ds.ms.m pl sp) ht ⟨.inl rfl, fun _ => ⟨rfl, rfl, by rw [em]; omega, by rw [len]; omega, hi, wp, wq⟩, fun h => absurd h (by simp [mintRc]), ⟨by show i64B (s.no : Int); unfold i64B; omega, by show i64B (s.ms.m + 1); unfold i64B; omega⟩, fun h => absurd h (by simp [mintRc]), fun h => absurd h (by simp [mintRc])⟩
 obtain ⟨j1, j2⟩ := jg
 rw [j1]
 split
 ·exact ⟨rfl, j2⟩
 ·exact ⟨rfl, j2⟩
theorem dest_good {s : Sh} {r : Rs} (h : Good s r) (hu : s.up = true) (x y : Int) (hh : hasTh s.th x y = true) : idB x y = true /\ (r.jrn s.cJ (destRec x y)).1 = (s.jrn (destRec x y)).1 /\ Good (s.jrn (destRec x y)).2 (r.jrn s.cJ (destRec x y)).2 := by
 obtain ⟨rs, _, _, _, _, has, _, _⟩ := h.has hu
 obtain ⟨i, hi, rfl, rfl⟩ := (has_th x y).1 hh
 have hb := (it_parts (has.it i hi).1).1
 exact ⟨hb, jrn_good h hu (told_dest hb) ⟨.inr (.inl rfl), fun h => absurd h (by simp [destRec]), fun _ => ⟨i, hi, rfl, rfl⟩, id_i64 hb, fun h => absurd h (by simp [destRec]), fun h => absurd h (by simp [destRec])⟩⟩
theorem tick_good {s : Sh} {r : Rs} (h : Good s r) (hu : s.up = true) : (r.jrn s.cJ tickRec).1 = (s.jrn tickRec).1 /\ Good (s.jrn tickRec).2 (r.jrn s.cJ tickRec).2 :=
 jrn_good h hu told_tick ⟨.inr (.inr (.inl rfl)), fun h => absurd h (by simp [tickRec]), fun h => absurd h (by simp [tickRec]), by unfold i64B tickRec it0; decide, fun h => absurd h (by simp [tickRec]), fun h => absurd h (by simp [tickRec])⟩
def arrRec (q : Int) (i : It) : Rc := ⟨4, q, i, mk0, [], []⟩
def ackedRec (q : Int) : Rc := ⟨5, q, it0, mk0, [], []⟩
theorem told_arr {q : Int} {i : It} (h0 : 1 <= q) (h1 : q <= 65535) (hi : itB i = true) (wf : WfIt i) : Told (arrRec q i) := by
 refine ⟨?_, wf, by simp [arrRec], by simp [arrRec]⟩
 show (decide (1 <= q) && isN q && itB i && nobB (arrRec q i)) = true
 have : isN q = true := by simp [isN]; omega
 rw [decide_eq_true h0, this, hi]; rfl
theorem told_acked {q : Int} (h0 : 0 <= q) (h1 : q <= 65535) : Told (ackedRec q) := by
 refine ⟨?_, ⟨by show (0 : Nat) < _; decide, by show (0 : Nat) < _; decide⟩, by simp [ackedRec], by simp [ackedRec]⟩
 show (isN q && noIt it0 && nobB (ackedRec q)) = true
 have : isN q = true := by simp [isN]; omega
 rw [this]; rfl
def Ds.mayArr (no : Nat) (cI : Int) (d : Ds) (i : It) : Prop := sideB i.pl = (no : Int) /\ ¬ (i.sh = (no : Int) /\ d.ms.m < i.nu) /\ (∀ x ∈ d.it, ¬ x.same i) /\ (d.it.length : Int) < cI
theorem arr_good {s : Sh} {r : Rs} (h : Good s r) (hu : s.up = true) {i : It} (hn : s.ms.n < 65535) (hi : itB i = true) (wf : WfIt i) (ma : s.ds.mayArr s.no s.cI i) : (r.jrn s.cJ (arrRec (s.ms.n + 1) i)).1 = (s.jrn (arrRec (s.ms.n + 1) i)).1 /\ Good (s.jrn (arrRec (s.ms.n + 1) i)).2 (r.jrn s.cJ (arrRec (s.ms.n + 1) i)).2 := by
 obtain ⟨rs, _, _, _, _, has, _, _⟩ := h.has hu
 have n0 : 0 <= s.ms.n := has.mo.n0
 obtain ⟨m1, m2, m3, m4⟩ := ma
 have e : s.ds.ms = s.ms := rfl
 exact jrn_good h hu (told_arr (by omega) (by omega) hi wf) ⟨.inr (.inr (.inr (.inl rfl))), fun h => absurd h (by simp [arrRec]), fun h => absurd h (by simp [arrRec]), id_i64 (it_parts hi).1, fun _ => ⟨rfl, by rw [e]; exact hn, m4, hi, wf, m3, fun hs => by rw [e] at m2 ⊢; have : ¬ s.ms.m < i.nu := fun hx => m2 ⟨hs, hx⟩; show i.nu <= s.ms.m; omega⟩, fun h => absurd h (by simp [arrRec])⟩
theorem acked_good {s : Sh} {r : Rs} (h : Good s r) (hu : s.up = true) {q : Int} (h1 : s.ms.a < q) (h2 : q <= s.ms.s) : (r.jrn s.cJ (ackedRec q)).1 = (s.jrn (ackedRec q)).1 /\ Good (s.jrn (ackedRec q)).2 (r.jrn s.cJ (ackedRec q)).2 := by
 obtain ⟨rs, _, _, _, _, has, _, _⟩ := h.has hu
 have a0 : 0 <= s.ms.a := has.mo.a0
 have s1 : s.ms.s <= 65535 := has.mo.s1
 exact jrn_good h hu (told_acked (by omega) (by omega)) ⟨.inr (.inr (.inr (.inr rfl))), fun h => absurd h (by simp [ackedRec]), fun h => absurd h (by simp [ackedRec]), by unfold i64B ackedRec it0; simp, fun h => absurd h (by simp [ackedRec]), fun _ => ⟨h1, h2⟩⟩
def Rs.snap (cJ : Int) (d : Ds) (r : Rs) : Int × Rs :=
 if 65535 <= d.ms.g then (5, r)
 else if cJ < ((frm (baseRc d)).length : Int) then (5, r)
 else if (r.put (r.d.cut (1 - r.ct))).2 = false then (3, (r.put (r.d.cut (1 - r.ct))).1)
 else if ((r.put (r.d.cut (1 - r.ct))).1.put ((r.put (r.d.cut (1 - r.ct))).1.d.append (1 - r.ct) (frm (baseRc d)))).2 = false then (3, ((r.put (r.d.cut (1 - r.ct))).1.put ((r.put (r.d.cut (1 - r.ct))).1.d.append (1 - r.ct) (frm (baseRc d)))).1)
 else
  let q := ((r.put (r.d.cut (1 - r.ct))).1.put ((r.put (r.d.cut (1 - r.ct))).1.d.append (1 - r.ct) (frm (baseRc d)))).1
  if (q.put (q.d.sync (1 - r.ct))).2 = false then (3, (q.put (q.d.sync (1 - r.ct))).1) else (0, { (q.put (q.d.sync (1 - r.ct))).1 with ct := 1 - r.ct })
theorem snap_good {s : Sh} {r : Rs} (h : Good s r) (hu : s.up = true) : (r.snap s.cJ s.ds).1 = s.snap.1 /\ Good s.snap.2 (r.snap s.cJ s.ds).2 := by
 obtain ⟨rs, told, hf, hds, rp, has, hg, ho⟩ := h.has hu
 have hct := h.ct
 have g0 : 0 <= s.ms.g := has.mo.g0
 have g1 : s.ms.g <= 65535 := has.mo.g1
 have eg : s.ds.ms.g = s.ms.g := rfl
 unfold Rs.snap Sh.snap
 by_cases c1 : s.ms.g = 65535
 ·rw [if_pos c1, if_pos (by omega)]
  exact ⟨rfl, h⟩
 rw [if_neg c1, if_neg (by omega)]
 have e : s.snapRec = baseRc s.ds := rfl
 rw [e]
 split
 ·exact ⟨rfl, h⟩
 rename_i c2
 have hlt : s.ds.ms.g < 65535 := by omega
 have tb := told_base has h.i1 h.o1 hlt
 have hb := has.base hlt
 have wh : Wh s.dk (1 - s.ct) (s.dk.file (1 - s.ct)) (frms rs) := ⟨rfl, by rw [show 1 - (1 - s.ct) = s.ct by omega]; exact hf, h.w0, h.w1⟩
 have hc1 : 1 - s.ct < 2 := by omega
 have hfl : (frm (baseRc s.ds)).length <= 2000 := by have := h.j1; omega
 rw [h.rct]
 have old : ∀ (D : Dk) (l : List UInt8), scanL l = [] -> Wh D (1 - s.ct) l (frms rs) -> Fl s.no s.cI s.cO D s.ct rs := fun D l hl hw => by
  refine ⟨told, by rw [<- hds]; exact rp, ⟨[], by rw [List.append_nil]; have := hw.g; rwa [show 1 - (1 - s.ct) = s.ct by omega] at this, scan_nil.1, scan_nil.2⟩, ?_⟩
  rw [hw.f, hl, hg]
  show (-1 : Int) < _
  omega
 have new : ∀ (D : Dk), Wh D (1 - s.ct) (frm (baseRc s.ds)) (frms rs) -> Fl s.no s.cI s.cO D (1 - s.ct) [baseRc s.ds] /\ D.file (1 - s.ct) = frms [baseRc s.ds] := fun D hw => by
  have e1 : D.file (1 - s.ct) = frms [baseRc s.ds] := by rw [hw.f]; simp [frms]
  refine ⟨⟨by intro x hx; rw [List.mem_singleton.1 hx]; exact tb, .base (baseRc s.ds) rfl hb, ⟨[], by rw [List.append_nil]; exact e1, scan_nil.1, scan_nil.2⟩, ?_⟩, e1⟩
  rw [hw.g, (scan_whole told).1, hg]
  show s.ms.g < s.ms.g + 1
  omega
 have dn : ∀ (D E : Dk), DkEq D E -> D.Ok -> kpB E.kp -> (∃ c rs', c < 2 /\ Fl s.no s.cI s.cO D c rs') -> D.l0 = D.f0.length -> D.l1 = D.f1.length -> Good (s.down.on D) ⟨false, E, s.ct⟩ := by
  rintro D E he hk kb ⟨c, rs', hc, fl⟩ w0 w1
  exact ⟨h.no, h.i0, h.i1, h.o0, h.o1, h.j1, h.ct, rfl, rfl, he, hk, w0, w1, kb, c, rs', hc, fl, fun h => absurd h (by simp [Sh.on, Sh.down])⟩
 have part : ∀ (D : Dk) (j : Nat), j <= (frm (baseRc s.ds)).length -> Wh D (1 - s.ct) ([] ++ (frm (baseRc s.ds)).take j) (frms rs) -> ∃ c rs', c < 2 /\ Fl s.no s.cI s.cO D c rs' := fun D j hj hw => by
  rw [List.nil_append] at hw
  by_cases hk : j < (frm (baseRc s.ds)).length
  ·exact ⟨s.ct, rs, hct, old D _ (scan_cut tb j hk).1 hw⟩
  ·rw [List.take_of_length_le (by omega)] at hw
   exact ⟨1 - s.ct, _, hc1, (new D hw).1⟩
 obtain ⟨e1, e2, e3⟩ := h.dk.cut (1 - s.ct) r.d.kp
 obtain ⟨cu1, cu2⟩ := wh.cut hc1
 have okC := h.ok.cut (1 - s.ct)
 cases ha : (s.dk.cut (1 - s.ct)).2
 ·rw [Rs.put_no r (e1.trans ha)]
  simp only [if_true]
  have hw := cu1 ha
  refine ⟨trivial, ?_⟩
  rw [h.rct]
  refine dn _ _ (e3 ha) okC h.kb ⟨s.ct, rs, hct, told, by rw [<- hds]; exact rp, ⟨[], ?_, scan_nil.1, scan_nil.2⟩, ?_⟩ hw.l0 hw.l1
  ·have := hw.g
   rw [show 1 - (1 - s.ct) = s.ct by omega] at this
   rw [List.append_nil]; exact this
  ·rw [hw.f, hg]; exact ho
 rw [Rs.put_yes r (e1.trans ha)]
 simp only [Bool.true_eq_false, if_false]
 have hwC := cu2 ha
 have kC : kpB (r.d.cut (1 - s.ct)).1.kp := kpB_or h.kb (cut_kp _ _)
 obtain ⟨f1, f2, f3⟩ := (e2 ha).append (1 - s.ct) (frm (baseRc s.ds)) (r.d.cut (1 - s.ct)).1.kp
 obtain ⟨ap1, ap2⟩ := hwC.appended hc1 (frm (baseRc s.ds))
 have hl0 : ((s.dk.cut (1 - s.ct)).1.file (1 - s.ct)).length + (frm (baseRc s.ds)).length <= 10000 := by rw [hwC.f]; simp; omega
 have okA := (okC.append (1 - s.ct) (frm (baseRc s.ds)) hl0).act
 cases hb2 : ((s.dk.cut (1 - s.ct)).1.append (1 - s.ct) (frm (baseRc s.ds))).2
 ·rw [Rs.put_no _ (f1.trans hb2)]
  simp only [if_true]
  obtain ⟨j, hj, hw⟩ := ap1 hb2
  refine ⟨trivial, ?_⟩
  rw [h.rct]
  exact dn _ _ (f3 hb2) okA kC (part _ j hj hw) hw.l0 hw.l1
 rw [Rs.put_yes _ (f1.trans hb2)]
 simp only [Bool.true_eq_false, if_false]
 have kA : kpB ((r.d.cut (1 - s.ct)).1.append (1 - s.ct) (frm (baseRc s.ds))).1.kp := kpB_or kC (append_kp _ _ _)
 obtain ⟨y1, y2, y3⟩ := (f2 hb2).sync (1 - s.ct) ((r.d.cut (1 - s.ct)).1.append (1 - s.ct) (frm (baseRc s.ds))).1.kp
 obtain ⟨sy1, sy2⟩ := ap2 hb2
 have okB := Dk.Ok.sync okA (1 - s.ct)
 cases hb3 : (((s.dk.cut (1 - s.ct)).1.append (1 - s.ct) (frm (baseRc s.ds))).1.sync (1 - s.ct)).2
 ·rw [Rs.put_no _ (y1.trans hb3)]
  simp only [if_true]
  obtain ⟨j, hj, hw⟩ := sy1 hb3
  refine ⟨trivial, ?_⟩
  rw [h.rct]
  exact dn _ _ (y3 hb3) okB kA (part _ j hj hw) hw.l0 hw.l1
 rw [Rs.put_yes _ (y1.trans hb3)]
 simp only [Bool.true_eq_false, if_false]
 have hw := sy2 hb3
 rw [List.nil_append] at hw
 refine ⟨trivial, h.no, h.i0, h.i1, h.o0, h.o1, h.j1, hc1, h.up, rfl, y2 hb3, okB, hw.l0, hw.l1, kpB_or kA (sync_kp _ _), 1 - s.ct, [baseRc s.ds], hc1, (new _ hw).1, fun _ => ⟨rfl, (new _ hw).2, rfl⟩⟩
theorem crash_good {s : Sh} {r : Rs} (h : Good s r) (keep : Int) : Good (s.down.on (s.dk.crash keep)) (r.lost keep) := by
 obtain ⟨c, rs, hc, fl, _⟩ := h.jn
 have wh : Wh s.dk c (s.dk.file c) (s.dk.file (1 - c)) := ⟨rfl, rfl, h.w0, h.w1⟩
 have hw := wh.crash hc keep
 refine ⟨h.no, h.i0, h.i1, h.o0, h.o1, h.j1, h.ct, rfl, h.rct, h.dk.crash keep r.d.kp, h.ok.crash keep, hw.l0, hw.l1, h.kb, c, rs, hc, ⟨fl.told, fl.rp, ?_, ?_⟩, fun h => absurd h (by simp [Sh.on, Sh.down])⟩
 ·obtain ⟨t, h1, h2⟩ := fl.file
  exact ⟨t, by rw [show (s.down.on (s.dk.crash keep)).dk = s.dk.crash keep from rfl, hw.f]; exact h1, h2⟩
 ·rw [show (s.down.on (s.dk.crash keep)).dk = s.dk.crash keep from rfl, hw.g]; exact fl.oth
theorem break_good {s : Sh} {r : Rs} (h : Good s r) (k keep : Int) (h0 : 0 <= k) (h1 : k <= 9223372036854775807) (hk : kpB keep) : Good (s.on { s.dk with un := k, kp := keep }) ⟨r.up, { r.d with un := k, kp := keep }, r.ct⟩ :=
 ⟨h.no, h.i0, h.i1, h.o0, h.o1, h.j1, h.ct, h.up, h.rct, ⟨h.dk.f0, h.dk.l0, h.dk.f1, h.dk.l1, rfl, fun _ => rfl⟩, ⟨h.ok.a0, h.ok.a1, h.ok.b0, h.ok.b1, h0, h1⟩, h.w0, h.w1, hk, by
  obtain ⟨c, rs, hc, fl, hx⟩ := h.jn
  exact ⟨c, rs, hc, ⟨fl.told, fl.rp, fl.file, fl.oth⟩, hx⟩⟩
theorem leg_snoc : ∀ (l : List Rc) (s : Sh) (r : Rc), Leg s l -> DoOk (l.foldl Sh.doR s) r -> Leg s (l ++ [r])
 | [], _, _, _, h => ⟨h, trivial⟩
 | x :: l, s, r, h, h' => ⟨h.1, leg_snoc l (s.doR x) r h.2 h'⟩
theorem Rp.runs {no : Nat} {cI cO : Int} {rs : List Rc} {d : Ds} (h : Rp no cI cO rs d) (hI : cI <= 16) (hO : cO <= 8) (s : Sh) (h1 : s.no = no) (h2 : s.cI = cI) (h3 : s.cO = cO) : (rs.foldl Sh.doR s).ds = d /\ (∀ hp : 0 < rs.length, (rs[0]).kind = 6 /\ (rs[0]).items.length <= 1000 /\ (∀ x ∈ (rs[0]).items, i64B x.sh /\ i64B x.nu) /\ Leg (s.doR rs[0]) rs.tail) := by
 refine Rp.ind (motive := fun rs d => (rs.foldl Sh.doR s).ds = d /\ (∀ hp : 0 < rs.length, (rs[0]).kind = 6 /\ (rs[0]).items.length <= 1000 /\ (∀ x ∈ (rs[0]).items, i64B x.sh /\ i64B x.nu) /\ Leg (s.doR rs[0]) rs.tail)) ?_ ?_ h
 ·intro b hk hh
  refine ⟨?_, fun _ => ⟨hk, ?_, fun x hx => id_i64 (it_parts (hh.it x hx).1).1, trivial⟩⟩
  ·show (s.doR b).ds = _
   unfold Sh.doR
   rw [if_pos hk]
   show (⟨srtTh (b.items.foldl putTh []), _, _⟩ : Ds) = _
   rw [puts_ord b.items [] (by simpa using hh.ord.imp lt_ne), List.nil_append, srtTh_id hh.ord]
   rfl
  ·have := hh.tl
   show b.items.length <= 1000
   simp only at this
   omega
 ·intro rs d r h ok ih
  obtain ⟨i1, i2⟩ := ih
  have f := h.facts
  have up := dos_up rs s
  have e1 : (rs.foldl Sh.doR s).no = no := up.2.2.2.1.trans h1
  have e2 : (rs.foldl Sh.doR s).cI = cI := up.2.2.2.2.1.trans h2
  have e3 : (rs.foldl Sh.doR s).cO = cO := up.2.2.2.2.2.1.trans h3
  have has : HasD (rs.foldl Sh.doR s).no (rs.foldl Sh.doR s).cI (rs.foldl Sh.doR s).cO (rs.foldl Sh.doR s).ds := by rw [e1, e2, e3, i1]; exact f.2.2.1
  have ok' : DOk (rs.foldl Sh.doR s).no (rs.foldl Sh.doR s).cI (rs.foldl Sh.doR s).ds r := by rw [e1, e2, i1]; exact ok
  have nd : (rs.foldl Sh.doR s).th.Pairwise (fun a b => ¬ a.same b) := nd_perm (srtTh_perm _).symm (has.ord.imp lt_ne)
  constructor
  ·rw [List.foldl_append]
   show ((rs.foldl Sh.doR s).doR r).ds = _
   rw [(doR_nd nd has ok').2, e1, e3, i1]
  ·intro _
   have g := ok'.sh has (by rw [e2]; exact hI) (by rw [e3]; exact hO)
   obtain ⟨b, t, rfl, _⟩ := h.head
   obtain ⟨j1, j2, j3, j4⟩ := i2 (by simp)
   exact ⟨j1, j2, j3, leg_snoc t _ r j4 g⟩
def Rs.pick (r : Rs) : Nat := if (if -1 < genOf (scanL r.d.f0) then genOf (scanL r.d.f0) else -1) < genOf (scanL r.d.f1) then 1 else (if -1 < genOf (scanL r.d.f0) then 0 else r.ct)
def Rs.restart (r : Rs) : Rs := ⟨true, r.d.shorten r.pick (scanC (r.d.file r.pick)).2, r.pick⟩
theorem restart_good {s : Sh} {r : Rs} (h : Good s r) : Jnl s.begun (scanL (s.dk.file s.dk.choice)) /\ Good s.restart r.restart := by
 obtain ⟨c, rs, hc, fl, _⟩ := h.jn
 obtain ⟨t, ht, hs, hn⟩ := fl.file
 have e1 : scanL (s.dk.file c) = rs := by rw [ht, (scan_frms fl.told t).1, hs, List.append_nil]
 have e2 : (scanC (s.dk.file c)).2 = (frms rs).length := by rw [ht, (scan_frms fl.told t).2, hn, Nat.add_zero]
 have e3 : (s.dk.file c).take (frms rs).length = frms rs := by rw [ht, List.take_left]
 have f := fl.rp.facts
 have g0 : 0 <= genOf rs := by rw [f.2.2.2]; exact f.2.2.1.mo.g0
 have oth := fl.oth
 have ch : s.dk.choice = c := by
  unfold Dk.choice
  rcases (by omega : c = 0 ∨ c = 1) with rfl | rfl
  ·have a1 : scanL s.dk.f0 = rs := e1
   have a2 : genOf (scanL s.dk.f1) < genOf rs := oth
   rw [a1, if_neg (by omega)]
  ·have a1 : scanL s.dk.f1 = rs := e1
   have a2 : genOf (scanL s.dk.f0) < genOf rs := oth
   rw [a1, if_pos a2]
 have pk : r.pick = c := by
  unfold Rs.pick
  rw [h.dk.f0, h.dk.f1]
  rcases (by omega : c = 0 ∨ c = 1) with rfl | rfl
  ·have a1 : scanL s.dk.f0 = rs := e1
   have a2 : genOf (scanL s.dk.f1) < genOf rs := oth
   rw [a1, if_pos (by omega : -1 < genOf rs), if_neg (by omega), if_pos (by omega)]
  ·have a1 : scanL s.dk.f1 = rs := e1
   have a2 : genOf (scanL s.dk.f0) < genOf rs := oth
   rw [a1]
   refine if_pos ?_
   split <;> omega
 have hd : s.begun.dk = s.dk.shorten c (frms rs).length := by unfold Sh.begun; rw [ch, e2]; rfl
 have rn := fl.rp.runs h.i1 h.o1 s.begun rfl rfl rfl
 rw [ch, e1]
 refine ⟨⟨f.1, fun hp => ⟨(rn.2 hp).1, (rn.2 hp).2.1, (rn.2 hp).2.2.1⟩, fun hp => (rn.2 hp).2.2.2, ?_⟩, ?_⟩
 ·have := scanL_len' (s.dk.file c)
  rw [e1] at this
  have : (s.dk.file c).length <= 10000 := by
   unfold Dk.file
   split
   ·exact h.ok.b0
   ·exact h.ok.b1
  omega
 ·have up := dos_up rs s.begun
  obtain ⟨u1, u2, u3, u4, u5, u6, u7⟩ := up
  have er : s.restart = { rs.foldl Sh.doR s.begun with up := true } := by unfold Sh.restart; rw [ch, e1]
  have d1 : s.restart.dk = s.dk.shorten c (frms rs).length := by rw [er]; exact u2.trans hd
  have d2 : s.restart.ct = c := by rw [er]; exact u3.trans (by show s.dk.choice = c; exact ch)
  have d3 : s.restart.no = s.no := by rw [er]; exact u4
  have d4 : s.restart.cI = s.cI := by rw [er]; exact u5
  have d5 : s.restart.cO = s.cO := by rw [er]; exact u6
  have d6 : s.restart.cJ = s.cJ := by rw [er]; exact u7
  have d7 : s.restart.ds = dsOf s.no s.cO rs := by rw [er]; exact rn.1
  have d8 : s.restart.up = true := rfl
  have rr : r.restart = ⟨true, r.d.shorten c (frms rs).length, c⟩ := by
   unfold Rs.restart
   rw [pk, h.dk.file, e2]
  have le : (frms rs).length <= (s.dk.file c).length := by rw [ht, List.length_append]; omega
  have sh : s.dk.shorten c (frms rs).length = s.dk.put c (frms rs) (frms rs).length := by unfold Dk.shorten; rw [e3]
  have sf : (s.dk.shorten c (frms rs).length).file c = frms rs /\ (s.dk.shorten c (frms rs).length).file (1 - c) = s.dk.file (1 - c) /\ (s.dk.shorten c (frms rs).length).l0 = (s.dk.shorten c (frms rs).length).f0.length /\ (s.dk.shorten c (frms rs).length).l1 = (s.dk.shorten c (frms rs).length).f1.length := by
   rw [sh]
   rcases (by omega : c = 0 ∨ c = 1) with rfl | rfl
   ·exact ⟨rfl, rfl, rfl, h.w1⟩
   ·exact ⟨rfl, rfl, h.w0, rfl⟩
  rw [rr]
  refine ⟨by rw [d3]; exact h.no, by rw [d4]; exact h.i0, by rw [d4]; exact h.i1, by rw [d5]; exact h.o0, by rw [d5]; exact h.o1, by rw [d6]; exact h.j1, by rw [d2]; exact hc, d8.symm, d2.symm, ?_, ?_, by rw [d1]; exact sf.2.2.1, by rw [d1]; exact sf.2.2.2, ?_, c, rs, hc, ?_, fun _ => ⟨d2.symm, by rw [d1]; exact sf.1, by rw [d3, d5]; exact d7⟩⟩
  ·rw [d1]
   unfold Dk.shorten
   rw [h.dk.file]
   exact h.dk.put _ _ _
  ·rw [d1]
   exact h.ok.shorten c _ le
  ·show kpB (Dk.put _ _ _ _).kp
   rw [put_kp]
   exact h.kb
  ·rw [d1, d3, d4, d5]
   refine ⟨fl.told, fl.rp, ⟨[], by rw [sf.1, List.append_nil], scan_nil.1, scan_nil.2⟩, ?_⟩
   rw [sf.2.1]
   exact oth
theorem init_good (no : Nat) (cI cO cJ : Int) (hn : no < 2) (i0 : 1 <= cI) (i1 : cI <= 16) (o0 : 1 <= cO) (o1 : cO <= 8) (j1 : cJ <= 2000) : Good (Sh.init no cI cO cJ).restart ⟨true, dk1, 0⟩ := by
 have hb : HasD no cI cO ⟨[], [], ⟨1, 0, 0, 0, 0⟩⟩ := ⟨.nil, by simp, by simp; omega, by simp; omega, by simp, rfl, ⟨by decide, by decide, by decide, by decide, by decide, by decide, by decide, by decide, by decide, by decide⟩, by simp⟩
 have g : Good (Sh.init no cI cO cJ) ⟨false, dk1, 0⟩ := by
  refine ⟨hn, i0, i1, o0, o1, j1, by show 0 < 2; decide, rfl, rfl, ⟨rfl, rfl, rfl, rfl, rfl, fun _ => rfl⟩, dk1_ok, rfl, rfl, by decide, 0, [base1], by decide, ⟨by intro x hx; rw [List.mem_singleton.1 hx]; exact told1, .base base1 rfl hb, ⟨[], by show frm base1 = _; simp [frms], scan_nil.1, scan_nil.2⟩, ?_⟩, fun h => absurd h (by simp [Sh.init])⟩
  show genOf (scanL []) < genOf [base1]
  rw [scan_nil.1]
  decide
 have := (restart_good g).2
 have e : (⟨false, dk1, 0⟩ : Rs).restart = ⟨true, dk1, 0⟩ := by
  have pk : (⟨false, dk1, 0⟩ : Rs).pick = 0 := by
   unfold Rs.pick
   show (if (if -1 < genOf (scanL (frm base1)) then genOf (scanL (frm base1)) else -1) < genOf (scanL []) then 1 else (if -1 < genOf (scanL (frm base1)) then 0 else 0)) = 0
   rw [scan1.1, scan_nil.1]
   rfl
  unfold Rs.restart
  rw [pk]
  show (⟨true, dk1.shorten 0 (scanC (frm base1)).2, 0⟩ : Rs) = _
  rw [scan1.2]
  unfold Dk.shorten Dk.put dk1 Dk.file
  simp
 rw [e] at this
 exact this
end Go.Proofs.YtammnaafdhhjaaaGreat
namespace Go.Proofs.YtammnaafdhhjaaaGreat
open Go.RowKit
theorem pMint_w (bp b0 b1 : Nat) (f0 f1 : Value) (u0 u1 : Bool) (i : Int) (pl sp : Nat) (w : World) (h : At (w.alloc (.cells #[.int .i64 0, .int .i64 0] 32)) bp (ppC b0 b1 f0 f1)) (h0 : Calls Tryz.prog 74 #[.pointer (some ⟨b0, 0, none⟩)] (w.alloc (.cells #[.int .i64 0, .int .i64 0] 32)) fun e w' => e = .returned (.bool u0) /\ w' = (w.alloc (.cells #[.int .i64 0, .int .i64 0] 32))) (h1 : Calls Tryz.prog 74 #[.pointer (some ⟨b1, 0, none⟩)] (w.alloc (.cells #[.int .i64 0, .int .i64 0] 32)) fun e w' => e = .returned (.bool u1) /\ w' = (w.alloc (.cells #[.int .i64 0, .int .i64 0] 32))) (Q : Ending -> World -> Prop)
  (hno : upE u0 u1 i ≠ 0 -> ∀ w', Only (w.alloc (.cells #[.int .i64 0, .int .i64 0] 32)) w' (fun j => j = w.heap.size) -> Q (.returned (.tuple #[.agg #[.int .i64 0, .int .i64 0], .int .i64 (upE u0 u1 i)])) w')
  (hok : upE u0 u1 i = 0 -> Calls Tryz.prog 93 #[.pointer (some ⟨pick01 b0 b1 i, 0, none⟩), .float .f32 pl, .float .f32 sp] (w.alloc (.cells #[.int .i64 0, .int .i64 0] 32)) fun e w' => ∃ x y z : Int, e = .returned (.tuple #[.agg #[.int .i64 x, .int .i64 y], .int .i64 z]) /\ At w' w.heap.size [.int .i64 0, .int .i64 0] /\ (∀ w'', Only w' w'' (fun j => j = w.heap.size) -> Q (.returned (.tuple #[.agg #[.int .i64 x, .int .i64 y], .int .i64 z])) w'')) :
  Calls Tryz.prog 46 #[.pointer (some ⟨bp, 0, none⟩), .int .i64 i, .float .f32 pl, .float .f32 sp] w Q := by
 have U := Hid.mk' (upAt_any bp b0 b1 f0 f1 u0 u1 i (w.alloc (.cells #[.int .i64 0, .int .i64 0] 32)) h h0 h1)
 clear h h0 h1
 by_cases c : upE u0 u1 i = 0
 ·have OK := Hid.mk' (hok c)
  rw [c, if_pos rfl] at U
  clear hno hok c
  go_enter Tryz.func46, Tryz.ntmps46
  go_wp2_with fail
  refine Calls.mono U.out ?_
  rintro e w1 ⟨rfl, rfl⟩
  go_wp2_with fail
  refine Calls.mono OK.out ?_
  rintro e w2 ⟨x, y, z, rfl, at2, q⟩
  have A3 := at2.all [.int .i64 x, .int .i64 y] rfl
  have QQ := Hid.mk' (q _ (putL_only w.heap.size [.int .i64 x, .int .i64 y] w2 0))
  have hf := at2.f
  have c0 := at2.c 0 _ rfl
  have c1 := at2.c 1 _ rfl
  have k0 := A3.c 0 _ rfl
  have k1 := A3.c 1 _ rfl
  simp only [putL, Nat.reduceAdd] at k0 k1 QQ
  clear at2 q A3
  go_wp2
  exact bodyPost_ret (v := .tuple #[.agg #[.int .i64 x, .int .i64 y], .int .i64 z]) (by simp [results, Tryz.results46, go_sem, *]) rfl QQ.out
 ·have NO := Hid.mk' (hno c)
  rw [if_neg c] at U
  have cb : (upE u0 u1 i != 0) = true := by simpa using c
  have QQ := Hid.mk' (NO.out _ (Only.refl _ _))
  generalize upE u0 u1 i = z at *
  clear hno hok NO
  go_enter Tryz.func46, Tryz.ntmps46
  go_wp2_with fail
  refine Calls.mono U.out ?_
  rintro e w1 ⟨rfl, rfl⟩
  go_wp2
  exact bodyPost_ret (v := .tuple #[.agg #[.int .i64 0, .int .i64 0], .int .i64 z]) (by simp [results, Tryz.results46, go_sem]) rfl QQ.out
theorem pMarks_w (bp b0 b1 : Nat) (f0 f1 : Value) (u0 u1 : Bool) (i : Int)  (w : World) (h : At (w.alloc (.cells #[.int .i64 0, .int .i64 0, .int .i64 0, .int .i64 0, .int .i64 0] 44)) bp (ppC b0 b1 f0 f1)) (h0 : Calls Tryz.prog 74 #[.pointer (some ⟨b0, 0, none⟩)] (w.alloc (.cells #[.int .i64 0, .int .i64 0, .int .i64 0, .int .i64 0, .int .i64 0] 44)) fun e w' => e = .returned (.bool u0) /\ w' = (w.alloc (.cells #[.int .i64 0, .int .i64 0, .int .i64 0, .int .i64 0, .int .i64 0] 44))) (h1 : Calls Tryz.prog 74 #[.pointer (some ⟨b1, 0, none⟩)] (w.alloc (.cells #[.int .i64 0, .int .i64 0, .int .i64 0, .int .i64 0, .int .i64 0] 44)) fun e w' => e = .returned (.bool u1) /\ w' = (w.alloc (.cells #[.int .i64 0, .int .i64 0, .int .i64 0, .int .i64 0, .int .i64 0] 44))) (Q : Ending -> World -> Prop)
  (hno : upE u0 u1 i ≠ 0 -> ∀ w', Only (w.alloc (.cells #[.int .i64 0, .int .i64 0, .int .i64 0, .int .i64 0, .int .i64 0] 44)) w' (fun j => j = w.heap.size) -> Q (.returned (.tuple #[.agg #[.int .i64 0, .int .i64 0, .int .i64 0, .int .i64 0, .int .i64 0], .int .i64 (upE u0 u1 i)])) w')
  (hok : upE u0 u1 i = 0 -> Calls Tryz.prog 41 #[.pointer (some ⟨pick01 b0 b1 i, 0, none⟩)] (w.alloc (.cells #[.int .i64 0, .int .i64 0, .int .i64 0, .int .i64 0, .int .i64 0] 44)) fun e w' => ∃ g m s a n : Int, e = .returned (.agg #[.int .i64 g, .int .i64 m, .int .i64 s, .int .i64 a, .int .i64 n]) /\ At w' w.heap.size [.int .i64 0, .int .i64 0, .int .i64 0, .int .i64 0, .int .i64 0] /\ (∀ w'', Only w' w'' (fun j => j = w.heap.size) -> Q (.returned (.tuple #[.agg #[.int .i64 g, .int .i64 m, .int .i64 s, .int .i64 a, .int .i64 n], .int .i64 0])) w'')) :
  Calls Tryz.prog 16 #[.pointer (some ⟨bp, 0, none⟩), .int .i64 i] w Q := by
 have U := Hid.mk' (upAt_any bp b0 b1 f0 f1 u0 u1 i (w.alloc (.cells #[.int .i64 0, .int .i64 0, .int .i64 0, .int .i64 0, .int .i64 0] 44)) h h0 h1)
 clear h h0 h1
 by_cases c : upE u0 u1 i = 0
 ·have OK := Hid.mk' (hok c)
  rw [c, if_pos rfl] at U
  clear hno hok c
  go_enter Tryz.func16, Tryz.ntmps16
  go_wp2_with fail
  refine Calls.mono U.out ?_
  rintro e w1 ⟨rfl, rfl⟩
  go_wp2_with fail
  refine Calls.mono OK.out ?_
  rintro e w2 ⟨g, m, s, a, n, rfl, at2, q⟩
  have A3 := at2.all [.int .i64 g, .int .i64 m, .int .i64 s, .int .i64 a, .int .i64 n] rfl
  have QQ := Hid.mk' (q _ (putL_only w.heap.size [.int .i64 g, .int .i64 m, .int .i64 s, .int .i64 a, .int .i64 n] w2 0))
  have hf := at2.f
  have c0 := at2.c 0 _ rfl
  have c1 := at2.c 1 _ rfl
  have c2 := at2.c 2 _ rfl
  have c3 := at2.c 3 _ rfl
  have c4 := at2.c 4 _ rfl
  have k0 := A3.c 0 _ rfl
  have k1 := A3.c 1 _ rfl
  have k2 := A3.c 2 _ rfl
  have k3 := A3.c 3 _ rfl
  have k4 := A3.c 4 _ rfl
  simp only [putL, Nat.reduceAdd] at k0 k1 k2 k3 k4 QQ
  clear at2 q A3
  go_wp2
  exact bodyPost_ret (v := .tuple #[.agg #[.int .i64 g, .int .i64 m, .int .i64 s, .int .i64 a, .int .i64 n], .int .i64 0]) (by simp [results, Tryz.results16, go_sem, *]) rfl QQ.out
 ·have NO := Hid.mk' (hno c)
  rw [if_neg c] at U
  have cb : (upE u0 u1 i != 0) = true := by simpa using c
  have QQ := Hid.mk' (NO.out _ (Only.refl _ _))
  generalize upE u0 u1 i = z at *
  clear hno hok NO
  go_enter Tryz.func16, Tryz.ntmps16
  go_wp2_with fail
  refine Calls.mono U.out ?_
  rintro e w1 ⟨rfl, rfl⟩
  go_wp2
  exact bodyPost_ret (v := .tuple #[.agg #[.int .i64 0, .int .i64 0, .int .i64 0, .int .i64 0, .int .i64 0], .int .i64 z]) (by simp [results, Tryz.results16, go_sem]) rfl QQ.out
end Go.Proofs.YtammnaafdhhjaaaGreat
namespace Go.Proofs.YtammnaafdhhjaaaGreat
open Go.RowKit
structure PGd (p : Pr) : Prop where
 g0 : ∃ r, Good p.s0 r
 g1 : ∃ r, Good p.s1 r
 n0 : p.s0.no = 0
 n1 : p.s1.no = 1
theorem PGd.at {p : Pr} (h : PGd p) {i : Int} (hi : is01 i) : (∃ r, Good (p.sh i) r) /\ ((p.sh i).no : Int) = i := by
 rcases hi with rfl | rfl
 ·exact ⟨h.g0, by show (p.s0.no : Int) = 0; rw [h.n0]; rfl⟩
 ·exact ⟨h.g1, by show (p.s1.no : Int) = 1; rw [h.n1]; rfl⟩
theorem PGd.set {p : Pr} (h : PGd p) {i : Int} (hi : is01 i) {s : Sh} (g : ∃ r, Good s r) (hn : s.no = (p.sh i).no) : PGd (p.setSh i s) := by
 rcases hi with rfl | rfl
 ·exact ⟨g, h.g1, hn.trans h.n0, h.n1⟩
 ·exact ⟨h.g0, g, h.n0, hn.trans h.n1⟩
theorem upE_at {p : Pr} {i : Int} (h : p.upE i = 0) : is01 i /\ (p.sh i).up = true := by
 have h' : YtammnaafdhhjaaaGreat.upE p.s0.up p.s1.up i = 0 := h
 unfold YtammnaafdhhjaaaGreat.upE at h'
 by_cases hi : is01 i
 ·rw [if_pos hi] at h'
  refine ⟨hi, ?_⟩
  by_cases hu : pick01 p.s0.up p.s1.up i = true
  ·rcases hi with rfl | rfl <;> exact hu
  ·rw [if_neg hu] at h'; cases h'
 ·rw [if_neg hi] at h'; cases h'
theorem set_pick {p : Pr} {i : Int} (hi : is01 i) : p.setSh i (p.sh i) = p := by
 rcases hi with rfl | rfl <;> rfl
def Pr.onUp (p : Pr) (i : Int) (f : Sh -> Int × Sh) : Int × Pr := if p.upE i = 0 then ((f (p.sh i)).1, p.setSh i (f (p.sh i)).2) else (p.upE i, p)
def Pr.tick (p : Pr) (i : Int) : Int × Pr := p.onUp i (fun s => s.jrn tickRec)
def Pr.snap (p : Pr) (i : Int) : Int × Pr := p.onUp i Sh.snap
def Sh.dest (s : Sh) (x y : Int) : Int × Sh := if hasTh s.th x y = true then s.jrn (destRec x y) else (4, s)
def Pr.destroy (p : Pr) (i x y : Int) : Int × Pr := p.onUp i (fun s => s.dest x y)
def Pr.crash (p : Pr) (i k : Int) : Int × Pr := p.onUp i (fun s => (0, s.down.on (s.dk.crash k)))
def Pr.mint (p : Pr) (i : Int) (pl sp : Nat) : (Int × Int × Int) × Pr := if p.upE i = 0 then (((p.sh i).mint pl sp).1, p.setSh i ((p.sh i).mint pl sp).2) else ((0, 0, p.upE i), p)
def Pr.brk (p : Pr) (i k m : Int) : Int × Pr := if is01 i /\ 0 <= k then (0, p.setSh i ((p.sh i).on { (p.sh i).dk with un := k, kp := m })) else (2, p)
def Pr.restart (p : Pr) (i : Int) : Int × Pr := if is01 i /\ (p.sh i).up = false then (0, p.setSh i (p.sh i).restart) else (2, p)
section
variable {w : World} {bp : Nat} {A : Nat -> Prop} {p : Pr}
theorem tick_px (h : PW w bp A p) (gd : PGd p) (i : Int) : Calls Tryz.prog 33 #[.pointer (some ⟨bp, 0, none⟩), .int .i64 i] w fun e w' => e = .returned (.int .i64 (p.tick i).1) /\ PN w w' bp A (p.tick i).2 := by
 have h0 := h
 obtain ⟨b0, b1, v0, v1, F0, F1, hx, hA⟩ := h
 unfold Pr.tick Pr.onUp
 refine pTick_w bp b0 b1 v0 v1 p.s0.up p.s1.up i w hx.fx.at_ (up_ps b0 p.s0 F0 w hx.p0) (up_ps b1 p.s1 F1 w hx.p1) _ (fun hu => ?_) (fun hu => ?_)
 ·rw [if_neg (show ¬ p.upE i = 0 from hu)]
  exact ⟨rfl, h0.same⟩
 ·rw [if_pos (show p.upE i = 0 from hu)]
  obtain ⟨hi, up⟩ := upE_at hu
  obtain ⟨⟨r, g⟩, _⟩ := gd.at hi
  obtain ⟨_, _, _, _, _, has, _⟩ := g.has up
  obtain ⟨d1, d2, d3, _⟩ := has.sh g.i1 g.o1
  refine (tick_ps (pick01 b0 b1 i) (p.sh i) (pick01 F0 F1 i) w (hx.at hi) up g.ct (by have := g.j1; omega) ⟨d1, d2, d3⟩).mono ?_
  rintro e w1 ⟨rfl, p1, o1⟩
  exact ⟨_, rfl, rfl, hx.turn hA hi p1 o1⟩
theorem snap_px (h : PW w bp A p) (gd : PGd p) (i : Int) : Calls Tryz.prog 28 #[.pointer (some ⟨bp, 0, none⟩), .int .i64 i] w fun e w' => e = .returned (.int .i64 (p.snap i).1) /\ PN w w' bp A (p.snap i).2 := by
 have h0 := h
 obtain ⟨b0, b1, v0, v1, F0, F1, hx, hA⟩ := h
 unfold Pr.snap Pr.onUp
 refine pSnapshot_w bp b0 b1 v0 v1 p.s0.up p.s1.up i w hx.fx.at_ (up_ps b0 p.s0 F0 w hx.p0) (up_ps b1 p.s1 F1 w hx.p1) _ (fun hu => ?_) (fun hu => ?_)
 ·rw [if_neg (show ¬ p.upE i = 0 from hu)]
  exact ⟨rfl, h0.same⟩
 ·rw [if_pos (show p.upE i = 0 from hu)]
  obtain ⟨hi, up⟩ := upE_at hu
  obtain ⟨⟨r, g⟩, _⟩ := gd.at hi
  obtain ⟨_, _, _, _, _, has, _⟩ := g.has up
  obtain ⟨d1, d2, d3, _⟩ := has.sh g.i1 g.o1
  have tb := fun hg => told_base has g.i1 g.o1 hg
  refine (snap_ps (pick01 b0 b1 i) (p.sh i) (pick01 F0 F1 i) w (hx.at hi) up d2 d1.l g.ct has.mo.g0 has.mo.g1 (fun hg => (tb hg).m) ⟨⟨by show (0 : Nat) < _; decide, by show (0 : Nat) < _; decide⟩, fun x hx => (has.it x hx).2, fun x hx => (has.en x hx).2.1⟩).mono ?_
  rintro e w1 ⟨rfl, p1, o1⟩
  exact ⟨_, rfl, rfl, hx.turn hA hi p1 o1⟩
theorem crash_px (h : PW w bp A p) (i k : Int) : Calls Tryz.prog 18 #[.pointer (some ⟨bp, 0, none⟩), .int .i64 i, .int .i64 k] w fun e w' => e = .returned (.int .i64 (p.crash i k).1) /\ PN w w' bp A (p.crash i k).2 := by
 have h0 := h
 obtain ⟨b0, b1, v0, v1, F0, F1, hx, hA⟩ := h
 unfold Pr.crash Pr.onUp
 refine pCrash_w bp b0 b1 v0 v1 p.s0.up p.s1.up i k w hx.fx.at_ (up_ps b0 p.s0 F0 w hx.p0) (up_ps b1 p.s1 F1 w hx.p1) _ (fun hu => ?_) (fun hu => ?_)
 ·rw [if_neg (show ¬ p.upE i = 0 from hu)]
  exact ⟨rfl, h0.same⟩
 ·rw [if_pos (show p.upE i = 0 from hu)]
  obtain ⟨hi, up⟩ := upE_at hu
  refine (crash_ps (pick01 b0 b1 i) (p.sh i) (pick01 F0 F1 i) k w (hx.at hi)).mono ?_
  rintro e w1 ⟨rfl, p1, o1⟩
  exact ⟨_, rfl, rfl, hx.turn hA hi p1 o1⟩
theorem break_px (h : PW w bp A p) (i k m : Int) (hk : k <= 9223372036854775807) : Calls Tryz.prog 27 #[.pointer (some ⟨bp, 0, none⟩), .int .i64 i, .int .i64 k, .int .i64 m] w fun e w' => e = .returned (.int .i64 (p.brk i k m).1) /\ PN w w' bp A (p.brk i k m).2 := by
 have h0 := h
 obtain ⟨b0, b1, v0, v1, F0, F1, hx, hA⟩ := h
 unfold Pr.brk
 refine pBreak_w bp b0 b1 v0 v1 i k m w hx.fx.at_ _ (fun hu => ?_) (fun hi => ?_)
 ·rw [if_neg (fun e => hu e.1)]
  exact ⟨rfl, h0.same⟩
 ·refine (break_ps (pick01 b0 b1 i) (p.sh i) (pick01 F0 F1 i) k m w (hx.at hi) hk).mono ?_
  rintro e w1 (⟨hk0, rfl, rfl⟩ | ⟨hk0, rfl, p1, o1⟩)
  ·rw [if_neg (fun e => by omega)]
   exact ⟨_, rfl, rfl, h0.same⟩
  ·rw [if_pos ⟨hi, hk0⟩]
   exact ⟨_, rfl, rfl, hx.turn hA hi p1 o1⟩
theorem restart_px (h : PW w bp A p) (gd : PGd p) (i : Int) : Calls Tryz.prog 17 #[.pointer (some ⟨bp, 0, none⟩), .int .i64 i] w fun e w' => e = .returned (.int .i64 (p.restart i).1) /\ PN w w' bp A (p.restart i).2 := by
 have h0 := h
 obtain ⟨b0, b1, v0, v1, F0, F1, hx, hA⟩ := h
 unfold Pr.restart
 refine pRestart_w bp b0 b1 v0 v1 i w hx.fx.at_ _ (fun hu => ?_) (fun hi => ?_)
 ·rw [if_neg (fun e => hu e.1)]
  exact ⟨rfl, h0.same⟩
 ·cases hu : (p.sh i).up
  ·rw [if_pos ⟨hi, rfl⟩]
   obtain ⟨⟨r, g⟩, _⟩ := gd.at hi
   obtain ⟨j1, _⟩ := restart_good g
   refine (restart_ps (pick01 b0 b1 i) (p.sh i) (pick01 F0 F1 i) w (hx.at hi) hu j1).mono ?_
   rintro e w1 ⟨rfl, p1, o1⟩
   exact ⟨_, rfl, rfl, hx.turn hA hi p1 o1⟩
  ·rw [if_neg (fun e => by simp at e)]
   refine (restart_up (pick01 b0 b1 i) (p.sh i) (pick01 F0 F1 i) w (hx.at hi) hu).mono ?_
   rintro e w1 ⟨rfl, rfl⟩
   exact ⟨_, rfl, rfl, h0.same⟩
theorem destroy_px (h : PW w bp A p) (gd : PGd p) (i x y : Int) (hx' : i64B x) (hy : i64B y) : Calls Tryz.prog 48 #[.pointer (some ⟨bp, 0, none⟩), .int .i64 i, .agg #[.int .i64 x, .int .i64 y]] w fun e w' => e = .returned (.int .i64 (p.destroy i x y).1) /\ PN w w' bp A (p.destroy i x y).2 := by
 have g0 := World.grownBy_alloc w (.cells #[.int .i64 x, .int .i64 y] 32) none
 have h0 := h.grown g0
 have h1 := h0
 obtain ⟨b0, b1, v0, v1, F0, F1, hx, hA⟩ := h0
 unfold Pr.destroy Pr.onUp
 refine pDestroy_w bp b0 b1 v0 v1 p.s0.up p.s1.up i x y w hx.fx.at_ (up_ps b0 p.s0 F0 _ hx.p0) (up_ps b1 p.s1 F1 _ hx.p1) _ (fun hu => ?_) (fun hu => ?_)
 ·rw [if_neg (show ¬ p.upE i = 0 from hu)]
  exact ⟨rfl, PN.grown g0 h1.same⟩
 ·rw [if_pos (show p.upE i = 0 from hu)]
  obtain ⟨hi, up⟩ := upE_at hu
  obtain ⟨⟨r, g⟩, _⟩ := gd.at hi
  refine (destroy_ps (pick01 b0 b1 i) (p.sh i) (pick01 F0 F1 i) x y _ (hx.at hi) up g.ct (by have := g.j1; omega) hx' hy (fun hh => (dest_good g up x y hh).1)).mono ?_
  rintro e w1 ⟨d1, d2⟩
  cases hh : hasTh (p.sh i).th x y
  ·obtain ⟨rfl, p1, o1⟩ := d1 hh
   have e : (p.sh i).dest x y = (4, p.sh i) := if_neg (by rw [hh]; simp)
   simp only [e]
   exact ⟨_, rfl, rfl, PN.grown g0 (hx.turn hA hi p1 o1)⟩
  ·obtain ⟨rfl, p1, o1⟩ := d2 hh
   have e : (p.sh i).dest x y = (p.sh i).jrn (destRec x y) := if_pos hh
   simp only [e]
   exact ⟨_, rfl, rfl, PN.grown g0 (hx.turn hA hi p1 o1)⟩
theorem mint_px (h : PW w bp A p) (gd : PGd p) (i : Int) (pl sp : Nat) (hp : pl < 4294967296) (hq : sp < 4294967296) : Calls Tryz.prog 46 #[.pointer (some ⟨bp, 0, none⟩), .int .i64 i, .float .f32 pl, .float .f32 sp] w fun e w' => e = .returned (.tuple #[.agg #[.int .i64 (p.mint i pl sp).1.1, .int .i64 (p.mint i pl sp).1.2.1], .int .i64 (p.mint i pl sp).1.2.2]) /\ PN w w' bp A (p.mint i pl sp).2 := by
 have g0 := World.grownBy_alloc w (.cells #[.int .i64 0, .int .i64 0] 32) none
 obtain ⟨b0, b1, v0, v1, F0, F1, hw, hA⟩ := h
 have hx := hw.only (Only.grown g0) (by simp)
 have nb : ∀ j, pxF bp v0 v1 F0 F1 j -> j ≠ w.heap.size := fun j hj e => by have := hw.lt hj; omega
 have zA : (w.alloc (.cells #[.int .i64 0, .int .i64 0] 32)).heap.size = w.heap.size + 1 := by simp
 unfold Pr.mint
 refine pMint_w bp b0 b1 v0 v1 p.s0.up p.s1.up i pl sp w hx.fx.at_ (up_ps b0 p.s0 F0 _ hx.p0) (up_ps b1 p.s1 F1 _ hx.p1) _ (fun hu w1 o1 => ?_) (fun hu => ?_)
 ·rw [if_neg (show ¬ p.upE i = 0 from hu)]
  exact ⟨rfl, ⟨b0, b1, v0, v1, F0, F1, hx.only o1 nb, fun j hj => .inl (hA j hj)⟩, ((Only.grown g0).mono (by simp)).trans (o1.mono (fun j _ e => .inr (by omega)))⟩
 ·rw [if_pos (show p.upE i = 0 from hu)]
  obtain ⟨hi, up⟩ := upE_at hu
  obtain ⟨⟨r, g⟩, hno⟩ := gd.at hi
  obtain ⟨_, _, _, _, _, has, _⟩ := g.has up
  have pl' : ∀ j, pick01 F0 F1 i j -> j < (w.alloc (.cells #[.int .i64 0, .int .i64 0] 32)).heap.size := fun j hj => by
   rcases hi with rfl | rfl
   ·exact hx.l0 j hj
   ·exact hx.l1 j hj
  have pn : ∀ j, pick01 F0 F1 i j -> j ≠ w.heap.size := fun j hj => by
   rcases hi with rfl | rfl
   ·exact nb j (.inr (.inl hj))
   ·exact nb j (.inr (.inr hj))
  refine (mint_ps (pick01 b0 b1 i) (p.sh i) (pick01 F0 F1 i) pl sp _ (hx.at hi) pl' up g.ct (by have := g.j1; omega) g.no has.mo.m0 has.mo.m1 hp hq).mono ?_
  rintro e w2 ⟨rfl, p1, o1⟩
  obtain ⟨q1, q2⟩ := hx.turn (fun j hj => hj) hi p1 o1
  refine ⟨_, _, _, rfl, (At.new w [.int .i64 0, .int .i64 0] 32).only o1 (fun e => pn _ e rfl), fun w3 o3 => ⟨rfl, (q1.only o3 (fun j _ e => ?_)).mono (fun j _ e => ?_), ?_⟩⟩
  ·rcases e with e | e
   ·exact nb j e
   ·show ¬ j = w.heap.size
    omega
  ·rcases e with e | e
   ·exact .inl (hA j e)
   ·exact .inr (by omega)
  ·refine ((Only.grown g0).mono (by simp)).trans ((q2.mono (fun j _ e => .inl (hA j e))).trans (o3.mono (fun j _ e => .inl (.inr (by omega)))))
end
end Go.Proofs.YtammnaafdhhjaaaGreat
namespace Go.Proofs.YtammnaafdhhjaaaGreat
open Go.RowKit
theorem crossB_len (e : En) : (crossB e).length = 16 := by
 unfold crossB enc body crossRc
 simp [n2, eIt, n4]
theorem ackB_len (n : Int) : (ackB n).length = 5 := by
 unfold ackB enc body ackRc
 simp [n2]
theorem ackB_ne (n : Int) : ackB n ≠ [] := fun e => by
 have := ackB_len n
 rw [e] at this
 cases this
def Pr.drop (p : Pr) (i k : Int) : Int × Pr := (unE p.f0 p.f1 i k, ⟨p.s0, p.s1, (on01 p.f0 p.f1 (dropK · k) i).1, (on01 p.f0 p.f1 (dropK · k) i).2⟩)
def Pr.double (p : Pr) (i k : Int) : Int × Pr := (unE p.f0 p.f1 i k, ⟨p.s0, p.s1, (on01 p.f0 p.f1 (doubleK · k) i).1, (on01 p.f0 p.f1 (doubleK · k) i).2⟩)
def Pr.spoil (p : Pr) (i k n : Int) : Int × Pr := (unE p.f0 p.f1 i k, ⟨p.s0, p.s1, (on01 p.f0 p.f1 (spoilK · k n) i).1, (on01 p.f0 p.f1 (spoilK · k n) i).2⟩)
def Pr.send (p : Pr) (i : Int) : Int × Pr := if p.upE i = 0 then (0, ⟨p.s0, p.s1, (sendF p.f0 p.f1 (p.sh i).ob i).1, (sendF p.f0 p.f1 (p.sh i).ob i).2⟩) else (p.upE i, p)
def Pr.reply (p : Pr) (i : Int) (t : List UInt8) : Pr := if t = [] then p else ⟨p.s0, p.s1, (set01 p.f0 p.f1 (putT (pick01 p.f0 p.f1 (1 - i)) t) (1 - i)).1, (set01 p.f0 p.f1 (putT (pick01 p.f0 p.f1 (1 - i)) t) (1 - i)).2⟩
def Pr.deliver (p : Pr) (i k : Int) : Int × Pr :=
 if unE p.f0 p.f1 i k ≠ 0 then (unE p.f0 p.f1 i k, p)
 else if (p.sh i).up = false then (0, (p.drop i k).2)
 else (((p.sh i).hear (atK (p.fl i) k)).1.1, (((p.drop i k).2.setSh i ((p.sh i).hear (atK (p.fl i) k)).2).reply i ((p.sh i).hear (atK (p.fl i) k)).1.2))
section
variable {w : World} {bp : Nat} {A : Nat -> Prop} {p : Pr}
theorem drop_px (h : PW w bp A p) (i k : Int) : Calls Tryz.prog 35 #[.pointer (some ⟨bp, 0, none⟩), .int .i64 i, .int .i64 k] w fun e w' => e = .returned (.int .i64 (p.drop i k).1) /\ PN w w' bp A (p.drop i k).2 := by
 obtain ⟨b0, b1, v0, v1, F0, F1, hx, hA⟩ := h
 refine (pDrop_any hx.fx i k).mono ?_
 rintro e w' ⟨rfl, hn⟩
 exact ⟨rfl, hx.flown hA hn⟩
theorem double_px (h : PW w bp A p) (i k : Int) : Calls Tryz.prog 36 #[.pointer (some ⟨bp, 0, none⟩), .int .i64 i, .int .i64 k] w fun e w' => e = .returned (.int .i64 (p.double i k).1) /\ PN w w' bp A (p.double i k).2 := by
 obtain ⟨b0, b1, v0, v1, F0, F1, hx, hA⟩ := h
 refine (pDouble_any hx.fx i k).mono ?_
 rintro e w' ⟨rfl, hn⟩
 exact ⟨rfl, hx.flown hA hn⟩
theorem spoil_px (h : PW w bp A p) (i k n : Int) : Calls Tryz.prog 37 #[.pointer (some ⟨bp, 0, none⟩), .int .i64 i, .int .i64 k, .int .i64 n] w fun e w' => e = .returned (.int .i64 (p.spoil i k n).1) /\ PN w w' bp A (p.spoil i k n).2 := by
 obtain ⟨b0, b1, v0, v1, F0, F1, hx, hA⟩ := h
 refine (pSpoil_any hx.fx i k n).mono ?_
 rintro e w' ⟨rfl, hn⟩
 exact ⟨rfl, hx.flown hA hn⟩
theorem cross_ok {no : Nat} {cI cO : Int} {d : Ds} (h : HasD no cI cO d) : ∀ e ∈ d.ob, mayB (crossRc e) = true /\ WfIt e.it := by
 intro e he
 obtain ⟨h1, h2, h3⟩ := h.en e he
 refine ⟨?_, h2⟩
 have key : ∀ (es : List En) (l : Int), 0 <= l -> chkE l es = true -> ∀ x ∈ es, 1 <= x.sq /\ isN x.sq = true := by
  intro es
  induction es with
  | nil => intro l _ _ x hx; simp at hx
  | cons y t ih =>
   intro l hl hc x hx
   have h' : (decide (l < y.sq) && isN y.sq && itB y.it && chkE y.sq t) = true := hc
   simp only [Bool.and_eq_true] at h'
   have hy := of_decide_eq_true h'.1.1.1
   rcases List.mem_cons.1 hx with rfl | hx
   ·exact ⟨by omega, h'.1.1.2⟩
   ·exact ih y.sq (by omega) h'.2 x hx
 obtain ⟨k1, k2⟩ := key d.ob 0 (by omega) h.oc e he
 show (decide (1 <= e.sq) && isN e.sq && itB e.it && nobB (crossRc e)) = true
 rw [decide_eq_true k1, k2, h1]
 rfl
theorem send_px (h : PW w bp A p) (gd : PGd p) (i : Int) : Calls Tryz.prog 29 #[.pointer (some ⟨bp, 0, none⟩), .int .i64 i] w fun e w' => e = .returned (.int .i64 (p.send i).1) /\ PN w w' bp A (p.send i).2 := by
 have h0 := h
 obtain ⟨b0, b1, v0, v1, F0, F1, hx, hA⟩ := h
 unfold Pr.send sendF
 have cr : p.upE i = 0 -> (p.sh i).ob.length <= 1000 /\ ∀ e ∈ (p.sh i).ob, mayB (crossRc e) = true /\ WfIt e.it := fun hu => by
  obtain ⟨hi, up⟩ := upE_at hu
  obtain ⟨⟨r, g⟩, _⟩ := gd.at hi
  obtain ⟨_, _, _, _, _, has, _⟩ := g.has up
  exact ⟨by have := has.sh g.i1 g.o1; exact this.1.l, cross_ok has⟩
 by_cases hu : p.upE i = 0
 ·rw [if_pos hu]
  obtain ⟨c1, c2⟩ := cr hu
  refine (pSend_w bp b0 b1 v0 v1 p.s0.up p.s1.up p.f0 p.f1 i ((p.sh i).ob.map crossB) w hx.fx (up_ps b0 p.s0 F0 w hx.p0) (up_ps b1 p.s1 F1 w hx.p1) (fun hu => ?_) (by simpa using c1) (fun t ht => ?_)).mono ?_
  ·obtain ⟨hi, up⟩ := upE_at hu
   exact crosses_ps (pick01 b0 b1 i) (p.sh i) (pick01 F0 F1 i) w (hx.at hi) up c1 c2
  ·obtain ⟨e, _, rfl⟩ := List.mem_map.1 ht
   rw [crossB_len]
   decide
  ·rintro e w' ⟨rfl, _, hn⟩
   exact ⟨by rw [show YtammnaafdhhjaaaGreat.upE p.s0.up p.s1.up i = 0 from hu], hx.flown hA (hn hu)⟩
 ·rw [if_neg hu]
  refine (pSend_w bp b0 b1 v0 v1 p.s0.up p.s1.up p.f0 p.f1 i [] w hx.fx (up_ps b0 p.s0 F0 w hx.p0) (up_ps b1 p.s1 F1 w hx.p1) (fun h => absurd h hu) (by simp) (by simp)).mono ?_
  rintro e w' ⟨rfl, hn, _⟩
  obtain rfl := hn hu
  exact ⟨rfl, h0.same⟩
theorem hear_pw (h : PW w bp A p) (gd : PGd p) {i : Int} (hi : is01 i) (l : List UInt8) : ∃ b, w.cell? ⟨bp, i.toNat, none⟩ = some (.pointer (some ⟨b, 0, none⟩)) /\ Calls Tryz.prog 74 #[.pointer (some ⟨b, 0, none⟩)] w (fun e w' => e = .returned (.bool (p.sh i).up) /\ w' = w) /\ ((p.sh i).up = true -> Calls Tryz.prog 75 #[.pointer (some ⟨b, 0, none⟩), .string (S l)] w fun e w' => e = .returned (.tuple #[.string (S ((p.sh i).hear l).1.2), .int .i64 ((p.sh i).hear l).1.1]) /\ PN w w' bp A (p.setSh i ((p.sh i).hear l).2)) := by
 obtain ⟨b0, b1, v0, v1, F0, F1, hx, hA⟩ := h
 refine ⟨pick01 b0 b1 i, ?_, up_ps (pick01 b0 b1 i) (p.sh i) (pick01 F0 F1 i) w (hx.at hi), fun up => ?_⟩
 ·rcases hi with rfl | rfl
  ·exact hx.fx.at_.c 0 _ rfl
  ·exact hx.fx.at_.c 1 _ rfl
 ·obtain ⟨⟨r, g⟩, _⟩ := gd.at hi
  obtain ⟨_, _, _, _, _, has, _⟩ := g.has up
  refine (hear_ps (pick01 b0 b1 i) (p.sh i) (pick01 F0 F1 i) l w (hx.at hi) ⟨up, g.ct, by have := g.j1; omega, (has.sh g.i1 g.o1).1.l, has.mo.n0, has.mo.n1⟩).mono ?_
  rintro e w' ⟨rfl, p1, o1⟩
  exact ⟨rfl, hx.turn hA hi p1 o1⟩
theorem put_pw (h : PW w bp A p) {i : Int} (hi : is01 i) (t : List UInt8) (ht : t.length <= 100) : Calls Tryz.prog 71 #[.pointer (some ⟨bp, pick01 2 3 i, none⟩), .string (S t)] w fun e w' => e = .returned (.tuple #[]) /\ PN w w' bp A ⟨p.s0, p.s1, (set01 p.f0 p.f1 (putT (pick01 p.f0 p.f1 i) t) i).1, (set01 p.f0 p.f1 (putT (pick01 p.f0 p.f1 i) t) i).2⟩ := by
 obtain ⟨b0, b1, v0, v1, F0, F1, hx, hA⟩ := h
 refine (put_fx hx.fx hi t ht).mono ?_
 rintro e w' ⟨rfl, hn⟩
 exact ⟨rfl, hx.flown hA hn⟩
theorem take_pw (h : PW w bp A p) {i : Int} (hi : is01 i) (k : Int) : Calls Tryz.prog 73 #[.pointer (some ⟨bp, pick01 2 3 i, none⟩), .int .i64 k] w fun e w' => e = .returned (.tuple #[.string (S (atK (p.fl i) k)), .int .i64 (eK (p.fl i) k)]) /\ PN w w' bp A (p.drop i k).2 := by
 obtain ⟨b0, b1, v0, v1, F0, F1, hx, hA⟩ := h
 obtain ⟨h1, h2, h3, h4, h5⟩ := hx.fx.at hi
 refine (take_any bp (pick01 2 3 i) _ 0 (pick01 v0 v1 i) (pick01 p.f0 p.f1 i) k w hx.fx.at_ h1 h2 h3 h4).mono ?_
 rintro e w' ⟨rfl, v', a1, a2, a3, a4⟩
 refine ⟨rfl, ?_⟩
 have := hx.flown hA (hx.fx.put hi a1 a2 a3 (fun j hj => .inl (a4 j hj)) (dropK_len h4) (dropK_tx h5))
 unfold Pr.drop on01
 rw [if_pos hi]
 exact this
theorem hear_len (s : Sh) (l : List UInt8) : (s.hear l).1.2.length <= 100 := by
 unfold Sh.hear Sh.hearCross
 repeat' split
 all_goals simp [ackB_len]
theorem PGd.flown {p : Pr} (h : PGd p) {q : Pr} (e0 : q.s0 = p.s0) (e1 : q.s1 = p.s1) : PGd q := ⟨by rw [e0]; exact h.g0, by rw [e1]; exact h.g1, by rw [e0]; exact h.n0, by rw [e1]; exact h.n1⟩
theorem deliver_px (h : PW w bp A p) (gd : PGd p) (i k : Int) : Calls Tryz.prog 30 #[.pointer (some ⟨bp, 0, none⟩), .int .i64 i, .int .i64 k] w fun e w' => e = .returned (.int .i64 (p.deliver i k).1) /\ PN w w' bp A (p.deliver i k).2 := by
 unfold Pr.deliver
 by_cases hi : is01 i
 ·have eu : unE p.f0 p.f1 i k = eK (p.fl i) k := if_pos hi
  rw [eu]
  have FT : Hid (Calls Tryz.prog 72 #[.pointer (some ⟨bp, 0, none⟩), .int .i64 i] w fun e w' => e = .returned (.tuple #[.pointer (some ⟨bp, pick01 2 3 i, none⟩), .int .i64 0]) /\ w' = w) := by
   obtain ⟨b0, b1, v0, v1, F0, F1, hx, hA⟩ := h
   exact flightTo_yes bp b0 b1 v0 v1 i w hx.fx.at_ hi
  have TK := Hid.mk' (take_pw h hi k)
  by_cases hk : isK (p.fl i) k
  ·have ek : eK (p.fl i) k = 0 := if_pos hk
   rw [ek] at TK ⊢
   rw [if_neg (by simp)]
   have gq : PGd (p.drop i k).2 := gd.flown rfl rfl
   have HR : Hid (∀ W, PN w W bp A (p.drop i k).2 -> _) := Hid.mk' fun W (hW : PN w W bp A (p.drop i k).2) => hear_pw hW.1 gq hi (atK (p.fl i) k)
   have es : (p.drop i k).2.sh i = p.sh i := by rcases hi with rfl | rfl <;> rfl
   rw [es] at HR
   have HL := Hid.mk' (hear_len (p.sh i) (atK (p.fl i) k))
   generalize (p.drop i k).2 = q at *
   generalize atK (p.fl i) k = l at *
   clear gq es ek hk eu h gd
   have i0 : (0 : Int) <= i := by rcases hi with rfl | rfl <;> decide
   have i1 : i < 2 := by rcases hi with rfl | rfl <;> decide
   cases hu : (p.sh i).up
   ·rw [if_pos rfl]
    rw [hu] at HR
    generalize pick01 2 3 i = kk at *
    go_enter Tryz.func30, Tryz.ntmps30
    go_wp2_with fail
    refine Calls.mono FT.out ?_
    rintro e w0 ⟨rfl, rfl⟩
    go_wp2_with fail
    refine Calls.mono TK.out ?_
    rintro e w1 ⟨rfl, q1⟩
    obtain ⟨b, cb, up, _⟩ := HR.out _ q1
    have UP := Hid.mk' up
    clear up
    go_wp2_with fail
    refine Calls.mono UP.out ?_
    rintro e w2 ⟨rfl, rfl⟩
    go_wp2
    go_ret
    exact ⟨rfl, q1⟩
   ·rw [if_neg (by simp)]
    rw [hu] at HR
    have FF := Hid.mk' fun W => flightFrom_any bp i W hi
    rw [pick_other hi] at FF
    have PT := Hid.mk' fun (W : World) (A' : Nat -> Prop) (q' : Pr) (hW : PW W bp A' q') (t : List UInt8) (ht : t.length <= 100) => put_pw hW (is01_other hi) t ht
    generalize (p.sh i).hear l = hh at *
    obtain ⟨⟨z, t⟩, s'⟩ := hh
    simp only at *
    generalize pick01 2 3 (1 - i) = k2 at *
    generalize pick01 2 3 i = kk at *
    by_cases ht : t = []
    ·subst ht
     have er : (q.setSh i s').reply i [] = q.setSh i s' := if_pos rfl
     rw [er]
     have e5 : S [] = ⟨#[]⟩ := rfl
     rw [e5] at HR
     clear PT FF HL e5 er
     go_enter Tryz.func30, Tryz.ntmps30
     go_wp2_with fail
     refine Calls.mono FT.out ?_
     rintro e w0 ⟨rfl, rfl⟩
     go_wp2_with fail
     refine Calls.mono TK.out ?_
     rintro e w1 ⟨rfl, q1⟩
     obtain ⟨b, cb, up, he⟩ := HR.out _ q1
     have UP := Hid.mk' up
     have HE := Hid.mk' (he trivial)
     clear up he
     go_wp2_with fail
     refine Calls.mono UP.out ?_
     rintro e w2 ⟨rfl, rfl⟩
     go_wp2_with fail
     refine Calls.mono HE.out ?_
     rintro e w3 ⟨rfl, q3⟩
     go_wp2
     go_ret
     exact ⟨rfl, PN.trans q1.2 q3⟩
    ·have er : (q.setSh i s').reply i t = ⟨(q.setSh i s').s0, (q.setSh i s').s1, (set01 (q.setSh i s').f0 (q.setSh i s').f1 (putT (pick01 (q.setSh i s').f0 (q.setSh i s').f1 (1 - i)) t) (1 - i)).1, (set01 (q.setSh i s').f0 (q.setSh i s').f1 (putT (pick01 (q.setSh i s').f0 (q.setSh i s').f1 (1 - i)) t) (1 - i)).2⟩ := if_neg ht
     rw [er]
     have ne : (S t).toList.isEmpty = false := by
      rw [S_toList]
      cases t with
      | nil => exact absurd rfl ht
      | cons a b => rfl
     have PQ := Hid.mk' fun (W : World) (A' : Nat -> Prop) (q' : Pr) (hW : PW W bp A' q') => PT.out W A' q' hW t HL.out
     generalize q.setSh i s' = q' at *
     clear PT er ht
     go_enter Tryz.func30, Tryz.ntmps30
     go_wp2_with fail
     refine Calls.mono FT.out ?_
     rintro e w0 ⟨rfl, rfl⟩
     go_wp2_with fail
     refine Calls.mono TK.out ?_
     rintro e w1 ⟨rfl, q1⟩
     obtain ⟨b, cb, up, he⟩ := HR.out _ q1
     have UP := Hid.mk' up
     have HE := Hid.mk' (he trivial)
     clear up he
     go_wp2_with fail
     refine Calls.mono UP.out ?_
     rintro e w2 ⟨rfl, rfl⟩
     go_wp2_with fail
     refine Calls.mono HE.out ?_
     rintro e w3 ⟨rfl, q3⟩
     go_wp2_with fail
     refine Calls.mono (FF.out _) ?_
     rintro e w4 ⟨rfl, rfl⟩
     go_wp2_with fail
     refine Calls.mono (PQ.out _ _ _ q3.1) ?_
     rintro e w5 ⟨rfl, q5⟩
     go_wp2
     go_ret
     exact ⟨rfl, PN.trans q1.2 (PN.trans q3.2 q5)⟩
  ·have ek : eK (p.fl i) k = 4 := if_neg hk
   rw [ek] at TK ⊢
   rw [if_pos (by simp)]
   have ed : (p.drop i k).2 = p := by
    unfold Pr.drop on01
    rw [if_pos hi]
    have : dropK (pick01 p.f0 p.f1 i) k = pick01 p.f0 p.f1 i := if_neg hk
    simp only [this, set01_pick _ _ hi]
   rw [ed] at TK
   generalize atK (p.fl i) k = l at *
   generalize pick01 2 3 i = kk at *
   clear ed ek hk eu h gd hi
   go_enter Tryz.func30, Tryz.ntmps30
   go_wp2_with fail
   refine Calls.mono FT.out ?_
   rintro e w0 ⟨rfl, rfl⟩
   go_wp2_with fail
   refine Calls.mono TK.out ?_
   rintro e w1 ⟨rfl, q1⟩
   go_wp2
   go_ret
   exact ⟨rfl, q1⟩
 ·have eu : unE p.f0 p.f1 i k = 2 := if_neg hi
  rw [eu, if_pos (by simp)]
  have FT := Hid.mk' (flightTo_no bp i w hi)
  have H0 := Hid.mk' h.same
  clear h gd hi eu
  go_enter Tryz.func30, Tryz.ntmps30
  go_wp2_with fail
  refine Calls.mono FT.out ?_
  rintro e w1 ⟨rfl, rfl⟩
  go_wp2
  go_ret
  exact ⟨rfl, H0.out⟩
end
end Go.Proofs.YtammnaafdhhjaaaGreat
namespace Go.Proofs.YtammnaafdhhjaaaGreat
open Go.RowKit
def ryC (cI cO cJ : Int) (b0 b1 : Nat) (f0 f1 : Value) : List Value := [.int .i64 cI, .int .i64 cO, .int .i64 cJ, .pointer (some ⟨b0, 0, none⟩), .pointer (some ⟨b1, 0, none⟩), f0, f1]
end Go.Proofs.YtammnaafdhhjaaaGreat
namespace Go.Proofs.YtammnaafdhhjaaaGreat
open Go.RowKit
structure RY (w : World) (bp b0 b1 : Nat) (cI cO cJ : Int) (r0 r1 : Rs) : Prop where
 at_ : At w bp (ryC cI cO cJ b0 b1 (.slice none 0 0) (.slice none 0 0))
 a0 : At w b0 r0.cells
 a1 : At w b1 r1.cells
 d01 : b0 ≠ b1
 dp0 : bp ≠ b0
 dp1 : bp ≠ b1
theorem RY.at {w : World} {bp b0 b1 : Nat} {cI cO cJ : Int} {r0 r1 : Rs} (h : RY w bp b0 b1 cI cO cJ r0 r1) {i : Int} (hi : is01 i) : At w (pick01 b0 b1 i) (pick01 r0 r1 i).cells /\ bp ≠ pick01 b0 b1 i := by
 rcases hi with rfl | rfl
 ·exact ⟨h.a0, h.dp0⟩
 ·exact ⟨h.a1, h.dp1⟩
theorem RY.only {w w' : World} {bp b0 b1 : Nat} {cI cO cJ : Int} {r0 r1 : Rs} {A : Nat -> Prop} (h : RY w bp b0 b1 cI cO cJ r0 r1) (o : Only w w' A) (n : ¬ A bp) (n0 : ¬ A b0) (n1 : ¬ A b1) : RY w' bp b0 b1 cI cO cJ r0 r1 :=
 ⟨h.at_.only o n, h.a0.only o n0, h.a1.only o n1, h.d01, h.dp0, h.dp1⟩
theorem RY.grown {w w' : World} {bp b0 b1 : Nat} {cI cO cJ : Int} {r0 r1 : Rs} (h : RY w bp b0 b1 cI cO cJ r0 r1) (g : w.grownBy w' none) : RY w' bp b0 b1 cI cO cJ r0 r1 := h.only (Only.grown g) (by simp) (by simp) (by simp)
def put01 {α : Type} (x y z : α) (i : Int) : α × α := if i = 0 then (z, y) else (x, z)
theorem RY.put {w w' : World} {bp b0 b1 : Nat} {cI cO cJ : Int} {r0 r1 r : Rs} (h : RY w bp b0 b1 cI cO cJ r0 r1) {i : Int} (hi : is01 i) (o : Only w w' (fun j => j = pick01 b0 b1 i)) (a : At w' (pick01 b0 b1 i) r.cells) : RY w' bp b0 b1 cI cO cJ (put01 r0 r1 r i).1 (put01 r0 r1 r i).2 := by
 rcases hi with rfl | rfl
 ·exact ⟨h.at_.only o h.dp0, a, h.a1.only o h.d01.symm, h.d01, h.dp0, h.dp1⟩
 ·exact ⟨h.at_.only o h.dp1, h.a0.only o h.d01, a, h.d01, h.dp0, h.dp1⟩
end Go.Proofs.YtammnaafdhhjaaaGreat
namespace Go.Proofs.YtammnaafdhhjaaaGreat
open Go.RowKit
@[reducible] def cfgB (cI cO cJ : Int) : Prop := (1 <= cI /\ cI <= 16) /\ (1 <= cO /\ cO <= 8) /\ (1 <= cJ /\ cJ <= 2000)
def rs1 : Rs := ⟨true, dk1, 0⟩
end Go.Proofs.YtammnaafdhhjaaaGreat
namespace Go.Proofs.YtammnaafdhhjaaaGreat
open Go.RowKit
theorem within_any (n m : Int) (w : World) : Calls Tryz.prog 132 #[.int .i64 n, .int .i64 m] w fun e w' => e = .returned (.bool (decide (1 <= n /\ n <= m))) /\ w' = w := by
 by_cases h1 : 1 <= n
 ·by_cases h2 : n <= m
  ·rw [decide_eq_true ⟨h1, h2⟩]
   go_enter Tryz.func132, Tryz.ntmps132
   go_wp2
   go_ret
   exact ⟨rfl, rfl⟩
  ·rw [decide_eq_false (fun h => h2 h.2)]
   go_enter Tryz.func132, Tryz.ntmps132
   go_wp2
   go_ret
   exact ⟨rfl, rfl⟩
 ·rw [decide_eq_false (fun h => h1 h.1)]
  go_enter Tryz.func132, Tryz.ntmps132
  go_wp2
  go_ret
  exact ⟨rfl, rfl⟩
theorem cfg_any (cI cO cJ : Int) (w : World) : Calls Tryz.prog 76 #[.agg #[.int .i64 cI, .int .i64 cO, .int .i64 cJ]] w fun e w' => e = .returned (.bool (decide (cfgB cI cO cJ))) /\ w.grownBy w' none := by
 have G0 := Hid.mk' (World.grownBy_alloc w (.cells #[.int .i64 cI, .int .i64 cO, .int .i64 cJ] 23) none)
 have W1 := Hid.mk' fun W => within_any cI 16 W
 have W2 := Hid.mk' fun W => within_any cO 8 W
 have W3 := Hid.mk' fun W => within_any cJ 2000 W
 by_cases h1 : 1 <= cI /\ cI <= 16
 ·rw [decide_eq_true h1] at W1
  by_cases h2 : 1 <= cO /\ cO <= 8
  ·rw [decide_eq_true h2] at W2
   have e : decide (cfgB cI cO cJ) = decide (1 <= cJ /\ cJ <= 2000) := by unfold cfgB; simp [h1, h2]
   rw [e]
   generalize decide (1 <= cJ /\ cJ <= 2000) = z at *
   clear h1 h2 e
   go_enter Tryz.func76, Tryz.ntmps76
   go_wp2_with fail
   refine Calls.mono (W1.out _) ?_
   rintro e w1 ⟨rfl, rfl⟩
   go_wp2_with fail
   refine Calls.mono (W2.out _) ?_
   rintro e w1 ⟨rfl, rfl⟩
   go_wp2_with fail
   refine Calls.mono (W3.out _) ?_
   rintro e w1 ⟨rfl, rfl⟩
   go_wp2
   go_ret
   exact ⟨rfl, G0.out⟩
  ·rw [decide_eq_false h2] at W2
   rw [decide_eq_false (fun h => h2 h.2.1)]
   clear h1 h2
   go_enter Tryz.func76, Tryz.ntmps76
   go_wp2_with fail
   refine Calls.mono (W1.out _) ?_
   rintro e w1 ⟨rfl, rfl⟩
   go_wp2_with fail
   refine Calls.mono (W2.out _) ?_
   rintro e w1 ⟨rfl, rfl⟩
   go_wp2
   go_ret
   exact ⟨rfl, G0.out⟩
 ·rw [decide_eq_false h1] at W1
  rw [decide_eq_false (fun h => h1 h.1)]
  clear h1
  go_enter Tryz.func76, Tryz.ntmps76
  go_wp2_with fail
  refine Calls.mono (W1.out _) ?_
  rintro e w1 ⟨rfl, rfl⟩
  go_wp2
  go_ret
  exact ⟨rfl, G0.out⟩
structure PP (w : World) (bp b0 b1 : Nat) (s0 s1 : Sh) (F0 F1 : Nat -> Prop) : Prop where
 at_ : At w bp (ppC b0 b1 (.slice none 0 0) (.slice none 0 0))
 p0 : PS w b0 s0 F0
 p1 : PS w b1 s1 F1
 n0 : ¬ F0 bp
 n1 : ¬ F1 bp
 dj : ∀ j, F0 j -> ¬ F1 j
 l0 : ∀ j, F0 j -> j < w.heap.size
 l1 : ∀ j, F1 j -> j < w.heap.size
def sh1 (no : Nat) (cI cO cJ : Int) : Sh := (Sh.init no cI cO cJ).restart
def PMade (w wr : World) (bp k : Nat) (cI cO cJ : Int) : Prop :=
 w.heap.size < bp /\ w.grownBy wr none /\ At wr w.heap.size [.int .i64 cI, .int .i64 cO, .int .i64 cJ] /\ ((k = 0 /\ At wr bp [.pointer none, .pointer none, .slice none 0 0, .slice none 0 0]) ∨
  (k = 1 /\ ∃ b0 F0, At wr bp [.pointer (some ⟨b0, 0, none⟩), .pointer none, .slice none 0 0, .slice none 0 0] /\ PS wr b0 (sh1 0 cI cO cJ) F0 /\ (∀ j, F0 j -> bp < j /\ j < wr.heap.size)) ∨
  (k = 2 /\ ∃ b0 b1 F0 F1, PP wr bp b0 b1 (sh1 0 cI cO cJ) (sh1 1 cI cO cJ) F0 F1 /\ (∀ j, F0 j -> w.heap.size <= j) /\ (∀ j, F1 j -> w.heap.size <= j)))
theorem pNew_yes (cI cO cJ : Int) (w : World) (hv : cfgB cI cO cJ) :
  Calls Tryz.prog 31 #[.agg #[.int .i64 cI, .int .i64 cO, .int .i64 cJ]] w fun e w' => ∃ bp b0 b1 F0 F1, e = .returned (.tuple #[.pointer (some ⟨bp, 0, none⟩), .int .i64 0]) /\ PP w' bp b0 b1 (sh1 0 cI cO cJ) (sh1 1 cI cO cJ) F0 F1 /\ w.heap.size <= bp /\ (∀ j, F0 j -> w.heap.size <= j) /\ (∀ j, F1 j -> w.heap.size <= j) /\ w.grownBy w' none := by
 have G0 := Hid.mk' (World.grownBy_alloc w (.cells #[.int .i64 cI, .int .i64 cO, .int .i64 cJ] 23) none)
 have C := Hid.mk' fun W => cfg_any cI cO cJ W
 rw [decide_eq_true hv] at C
 have SN0 := Hid.mk' fun W => shNew_any 0 cI cO cJ W
 have SN1 := Hid.mk' fun W => shNew_any 1 cI cO cJ W
 clear hv
 go_enter Tryz.func31, Tryz.ntmps31
 go_wp2_with fail
 refine Calls.mono (C.out _) ?_
 rintro e w1 ⟨rfl, g1⟩
 have z1 := g1.size
 have M0 : Hid (PMade w (w1.alloc (.cells #[.pointer none, .pointer none, .slice none 0 0, .slice none 0 0] 121)) w1.heap.size 0 cI cO cJ) := by
  refine ⟨by simp at z1; omega, grownBy_alloc' (G0.out.trans g1) _, ((At.new w [.int .i64 cI, .int .i64 cO, .int .i64 cJ] 23).grown g1).alloc _, .inl ⟨rfl, At.new w1 _ _⟩⟩
 clear g1
 generalize hbp : w1.heap.size = bp at *
 go_wp2_with fail
 go_loopw [10] (fun f wr => ∃ k : Nat, k <= 2 /\ f = .int .i64 k /\ PMade w wr bp k cI cO cJ) (fun f _ => 2 - (intOf f).toNat)
 case atStart => rw [<- hbp]; rw [<- hbp] at M0; exact ⟨0, by omega, rfl, M0.out⟩
 case round =>
  clear M0
  obtain ⟨k, hk, rfl, h1, g1, ac, hm⟩ := hrel
  have G1 := Hid.mk' g1
  have AC := Hid.mk' ac
  have zr := g1.size
  clear g1 ac
  rcases hm with ⟨rfl, at0⟩ | ⟨rfl, b0, F0, at0, ps, hF⟩ | ⟨rfl, b0, b1, F0, F1, pp, hF0, hF1⟩
  ·have A0 := Hid.mk' at0
   have x0 := at0.c 0 _ rfl
   have q0 := AC.out.c 0 _ rfl
   have bpl := at0.lt
   clear at0
   go_wp2_with fail
   refine wp_region_held_drew (S := fun w' => At w' w.heap.size [.int .i64 cI, .int .i64 cO, .int .i64 cJ]) (by kernel_rfl) (AC.out.drew) (fun hHeld => ?_)
   refine hTk 0 ?_
   simp only [lS0, lS1]
   refine hTk 1 ?_
   simp only [lS0, lS1]
   refine hTk 2 ?_
   simp only [lS0, lS1]
   refine hTy 3 rfl (by intro w hSw; have S0 := hSw.c 0 _ rfl; have S1 := hSw.c 1 _ rfl; have S2 := hSw.c 2 _ rfl; go_simp; try with_reducible rfl) ?_
   simp only [lS0, lS1]
   refine hTk 5 ?_
   simp only [lS0, lS1]
   refine hTk 6 ?_
   simp only [lS0, lS1]
   refine hCall 4 (f := 77) (args := #[.int .i64 0, .agg #[.int .i64 cI, .int .i64 cO, .int .i64 cJ]]) (by kernel_rfl) (by rfl) (by rfl) (by go_simp) ?_
   refine Calls.mono (SN0.out _) ?_
   rintro e w2 ⟨bn, rfl, ps, g2⟩
   have PSN := Hid.mk' ps
   have G2 : Hid (wr.grownBy w2 none) := (grownBy_drew (grownBy_refl _ _)).trans g2
   have h2 : At w2 w.heap.size [.int .i64 cI, .int .i64 cO, .int .i64 cJ] := hHeld.grown g2
   clear hHeld g2 ps
   have hHeld := h2
   refine ⟨_, rfl, hHeld, ?_⟩
   simp only [lS0, lS1]
   refine hTk 7 ?_
   simp only [lS0, lS1]
   refine hRun 8 (by kernel_rfl) (by rfl) (by rfl) ?_
   intro K hK
   have A2 := Hid.mk' (A0.out.grown G2.out)
   have t3 := A2.out.c 0 _ rfl
   have tf := A2.out.f
   have HH := Hid.mk' hHeld
   clear hHeld h2
   go_simp
   refine hK _ _ (HH.out.only (Only.set w2 bp 0 _) (fun e => by omega)) ?_
   clear hK K
   refine wpAnyH_done (by kernel_rfl) ?_ _
   have z2 := G2.out.size
   go_wp2
   refine ⟨⟨1, by omega, rfl, h1, ?_, HH.out.only (Only.set w2 bp 0 _) (fun e => by omega), .inr (.inl ⟨rfl, bn, _, A2.out.put 0 _ (by simp), PSN.out.only (Only.set w2 bp 0 _) (fun j hj e => by have := hj.1; simp at this; omega), fun j hj => ⟨by have := hj.1; simp at this; omega, by have := hj.2; simpa using this⟩⟩)⟩, by simp [intOf]⟩
   exact grownBy_store (G1.out.trans G2.out) (k := bp) (by omega) 0 _
  ·have A0 := Hid.mk' at0
   have P0 := Hid.mk' ps
   have HF := Hid.mk' hF
   have bpl := at0.lt
   clear at0 ps hF
   go_wp2_with fail
   refine wp_region_held_drew (S := fun w' => At w' w.heap.size [.int .i64 cI, .int .i64 cO, .int .i64 cJ]) (by kernel_rfl) (AC.out.drew) (fun hHeld => ?_)
   refine hTk 0 ?_
   simp only [lS0, lS1]
   refine hTk 1 ?_
   simp only [lS0, lS1]
   refine hTk 2 ?_
   simp only [lS0, lS1]
   refine hTy 3 rfl (by intro w hSw; have S0 := hSw.c 0 _ rfl; have S1 := hSw.c 1 _ rfl; have S2 := hSw.c 2 _ rfl; go_simp; try with_reducible rfl) ?_
   simp only [lS0, lS1]
   refine hTk 5 ?_
   simp only [lS0, lS1]
   refine hTk 6 ?_
   simp only [lS0, lS1]
   refine hCall 4 (f := 77) (args := #[.int .i64 1, .agg #[.int .i64 cI, .int .i64 cO, .int .i64 cJ]]) (by kernel_rfl) (by rfl) (by rfl) (by go_simp) ?_
   refine Calls.mono (SN1.out _) ?_
   rintro e w2 ⟨bn, rfl, ps, g2⟩
   have PSN := Hid.mk' ps
   have G2 : Hid (wr.grownBy w2 none) := (grownBy_drew (grownBy_refl _ _)).trans g2
   have h2 : At w2 w.heap.size [.int .i64 cI, .int .i64 cO, .int .i64 cJ] := hHeld.grown g2
   clear hHeld g2 ps
   have hHeld := h2
   refine ⟨_, rfl, hHeld, ?_⟩
   simp only [lS0, lS1]
   refine hTk 7 ?_
   simp only [lS0, lS1]
   refine hRun 8 (by kernel_rfl) (by rfl) (by rfl) ?_
   intro K hK
   have A2 := Hid.mk' (A0.out.grown G2.out)
   have t3 := A2.out.c 1 _ rfl
   have tf := A2.out.f
   have HH := Hid.mk' hHeld
   clear hHeld h2
   go_simp
   refine hK _ _ (HH.out.only (Only.set w2 bp 1 _) (fun e => by omega)) ?_
   clear hK K
   refine wpAnyH_done (by kernel_rfl) ?_ _
   have z2 := G2.out.size
   go_wp2
   have P0' := P0.out.only ((Only.grown G2.out).mono (A' := fun _ => False) (by simp)) (fun _ _ h => h)
   refine ⟨⟨2, by omega, rfl, h1, ?_, HH.out.only (Only.set w2 bp 1 _) (fun e => by omega), .inr (.inr ⟨rfl, b0, bn, F0, _, ⟨A2.out.put 1 _ (by simp), P0'.only (Only.set w2 bp 1 _) (fun j hj e => by have := (HF.out j hj).1; omega), PSN.out.only (Only.set w2 bp 1 _) (fun j hj e => by have := hj.1; simp at this; omega), fun h => by have := (HF.out _ h).1; omega, fun h => by have := h.1; simp at this; omega, fun j hj h => by have h2 := (HF.out j hj).2; have h3 := h.1; simp at h3; omega, fun j hj => by have := (HF.out j hj).2; simp; omega, fun j hj => by have := hj.2; simpa using this⟩, fun j hj => by have := (HF.out j hj).1; omega, fun j hj => by have := hj.1; simp at this; omega⟩)⟩, by simp [intOf]⟩
   exact grownBy_store (G1.out.trans G2.out) (k := bp) (by omega) 1 _
  ·have R := Hid.mk' pp
   have HF0 := Hid.mk' hF0
   have HF1 := Hid.mk' hF1
   clear pp hF0 hF1
   go_wp2
   go_ret2
   exact ⟨_, b0, b1, F0, F1, rfl, R.out, by omega, HF0.out, HF1.out, G1.out⟩
end Go.Proofs.YtammnaafdhhjaaaGreat
namespace Go.Proofs.YtammnaafdhhjaaaGreat
open Go.RowKit
def Pr.marks (p : Pr) (i : Int) : Mk := if p.upE i = 0 then (p.sh i).ms else mk0
def Pr.world (p : Pr) (i : Int) : List It := if p.upE i = 0 then srtTh (p.sh i).th else []
def Pr.outbox (p : Pr) (i : Int) : List En := if p.upE i = 0 then (p.sh i).ob else []
def mkV (m : Mk) : Value := .agg #[.int .i64 m.g, .int .i64 m.m, .int .i64 m.s, .int .i64 m.a, .int .i64 m.n]
section
variable {w : World} {bp : Nat} {A : Nat -> Prop} {p : Pr}
theorem marks_px (h : PW w bp A p) (i : Int) : Calls Tryz.prog 16 #[.pointer (some ⟨bp, 0, none⟩), .int .i64 i] w fun e w' => e = .returned (.tuple #[mkV (p.marks i), .int .i64 (p.upE i)]) /\ w.grownBy w' none := by
 have g0 := World.grownBy_alloc w (.cells #[.int .i64 0, .int .i64 0, .int .i64 0, .int .i64 0, .int .i64 0] 44) none
 obtain ⟨b0, b1, v0, v1, F0, F1, hx, hA⟩ := h.grown g0
 unfold Pr.marks mkV
 refine pMarks_w bp b0 b1 v0 v1 p.s0.up p.s1.up i w hx.fx.at_ (up_ps b0 p.s0 F0 _ hx.p0) (up_ps b1 p.s1 F1 _ hx.p1) _ (fun hu w1 o1 => ?_) (fun hu => ?_)
 ·rw [if_neg (show ¬ p.upE i = 0 from hu)]
  exact ⟨rfl, (((Only.grown g0).mono (A' := fun j => w.heap.size <= j) (by simp)).trans (o1.mono (fun j _ e => .inl (by omega)))).fresh (fun k hk e => by omega)⟩
 ·rw [if_pos (show p.upE i = 0 from hu)]
  obtain ⟨hi, up⟩ := upE_at hu
  refine (marks_ps (pick01 b0 b1 i) (p.sh i) (pick01 F0 F1 i) _ (hx.at hi)).mono ?_
  rintro e w1 ⟨rfl, g1⟩
  refine ⟨_, _, _, _, _, rfl, (At.new w [.int .i64 0, .int .i64 0, .int .i64 0, .int .i64 0, .int .i64 0] 44).grown g1, fun w2 o2 => ⟨by rw [show p.upE i = 0 from hu], ?_⟩⟩
  exact ((((Only.grown (g0.trans g1)).mono (A' := fun j => w.heap.size <= j) (by simp)).trans (o2.mono (fun j _ e => .inl (by omega))))).fresh (fun k hk e => by omega)
theorem world_px (h : PW w bp A p) (gd : PGd p) (i : Int) : Calls Tryz.prog 14 #[.pointer (some ⟨bp, 0, none⟩), .int .i64 i] w fun e w' => ∃ v, e = .returned (.tuple #[v, .int .i64 (p.upE i)]) /\ OwnI w.heap.size w' v (p.world i) /\ (p.upE i ≠ 0 -> v = .slice none 0 0) /\ w.grownBy w' none := by
 obtain ⟨b0, b1, v0, v1, F0, F1, hx, hA⟩ := h
 unfold Pr.world
 refine pWorld_w bp b0 b1 v0 v1 p.s0.up p.s1.up i w hx.fx.at_ (up_ps b0 p.s0 F0 w hx.p0) (up_ps b1 p.s1 F1 w hx.p1) _ (fun hu => ?_) (fun hu => ?_)
 ·rw [if_neg (show ¬ p.upE i = 0 from hu)]
  exact ⟨_, rfl, OwnI.nil _ _, fun _ => rfl, grownBy_refl _ _⟩
 ·rw [if_pos (show p.upE i = 0 from hu)]
  obtain ⟨hi, up⟩ := upE_at hu
  obtain ⟨⟨r, g⟩, _⟩ := gd.at hi
  obtain ⟨_, _, _, _, _, has, _⟩ := g.has up
  obtain ⟨d1, d2, d3, _⟩ := has.sh g.i1 g.o1
  refine (world_ps (pick01 b0 b1 i) (p.sh i) (pick01 F0 F1 i) w (hx.at hi) up d2).mono ?_
  rintro e w1 ⟨v, rfl, o1, g1⟩
  exact ⟨_, rfl, v, by rw [show p.upE i = 0 from hu], o1, fun hn => absurd hu hn, g1⟩
theorem outbox_px (h : PW w bp A p) (gd : PGd p) (i : Int) : Calls Tryz.prog 15 #[.pointer (some ⟨bp, 0, none⟩), .int .i64 i] w fun e w' => ∃ v, e = .returned (.tuple #[v, .int .i64 (p.upE i)]) /\ OwnE w.heap.size w' v (p.outbox i) /\ (p.upE i ≠ 0 -> v = .slice none 0 0) /\ w.grownBy w' none := by
 obtain ⟨b0, b1, v0, v1, F0, F1, hx, hA⟩ := h
 unfold Pr.outbox
 refine pOutbox_w bp b0 b1 v0 v1 p.s0.up p.s1.up i w hx.fx.at_ (up_ps b0 p.s0 F0 w hx.p0) (up_ps b1 p.s1 F1 w hx.p1) _ (fun hu => ?_) (fun hu => ?_)
 ·rw [if_neg (show ¬ p.upE i = 0 from hu)]
  exact ⟨_, rfl, OwnE.nil _ _, fun _ => rfl, grownBy_refl _ _⟩
 ·rw [if_pos (show p.upE i = 0 from hu)]
  obtain ⟨hi, up⟩ := upE_at hu
  obtain ⟨⟨r, g⟩, _⟩ := gd.at hi
  obtain ⟨_, _, _, _, _, has, _⟩ := g.has up
  obtain ⟨d1, d2, d3, _⟩ := has.sh g.i1 g.o1
  refine (outbox_ps (pick01 b0 b1 i) (p.sh i) (pick01 F0 F1 i) w (hx.at hi) up d1.l).mono ?_
  rintro e w1 ⟨v, rfl, o1, g1⟩
  exact ⟨_, rfl, v, by rw [show p.upE i = 0 from hu], o1, fun hn => absurd hu hn, g1⟩
end
def Pr.new (cI cO cJ : Int) : Pr := ⟨sh1 0 cI cO cJ, sh1 1 cI cO cJ, [], []⟩
theorem new_px (cI cO cJ : Int) (w : World) (hv : cfgB cI cO cJ) :
  Calls Tryz.prog 31 #[.agg #[.int .i64 cI, .int .i64 cO, .int .i64 cJ]] w fun e w' => ∃ bp, e = .returned (.tuple #[.pointer (some ⟨bp, 0, none⟩), .int .i64 0]) /\ PW w' bp (fun j => w.heap.size <= j) (Pr.new cI cO cJ) /\ w.heap.size <= bp /\ w.grownBy w' none := by
 refine (pNew_yes cI cO cJ w hv).mono ?_
 rintro e w' ⟨bp, b0, b1, F0, F1, rfl, pp, hb, h0, h1, g⟩
 have nf : ∀ j, fxF bp (.slice none 0 0) (.slice none 0 0) j -> j = bp := fun j hj => by
  rcases hj with e | e | e
  ·exact e
  ·cases e
  ·cases e
 refine ⟨bp, rfl, ⟨b0, b1, .slice none 0 0, .slice none 0 0, F0, F1, ⟨⟨pp.at_, World.ownsRow_nil _ _ _ _, World.ownsRow_nil _ _ _ _, fun e => (by cases e), fun e => (by cases e), fun j hj => (by cases hj), (by simp [Pr.new]), (by simp [Pr.new]), (by simp [Pr.new]), (by simp [Pr.new])⟩, pp.p0, pp.p1, fun j hj e => ?_, fun j hj e => ?_, pp.dj, pp.l0, pp.l1⟩, fun j hj => ?_⟩, hb, g⟩
 ·rw [nf j hj] at e; exact pp.n0 e
 ·rw [nf j hj] at e; exact pp.n1 e
 ·rcases hj with hj | hj | hj
  ·rw [nf j hj]; exact hb
  ·exact h0 j hj
  ·exact h1 j hj
end Go.Proofs.YtammnaafdhhjaaaGreat
namespace Go.Proofs.YtammnaafdhhjaaaGreat
def Sh.cfg (s t : Sh) : Prop := s.no = t.no /\ s.cI = t.cI /\ s.cO = t.cO /\ s.cJ = t.cJ
theorem cfg_refl (s : Sh) : s.cfg s := ⟨rfl, rfl, rfl, rfl⟩
theorem jrn_cfg (s : Sh) (p : Rc) : (s.jrn p).2.cfg s := by
 unfold Sh.jrn
 split
 ·exact cfg_refl s
 split
 ·exact ⟨rfl, rfl, rfl, rfl⟩
 split
 ·exact ⟨rfl, rfl, rfl, rfl⟩
 ·have := doR_up (s.on ((s.dk.append s.ct (frm p)).1.sync s.ct).1) p
  exact ⟨this.2.2.2.1, this.2.2.2.2.1, this.2.2.2.2.2.1, this.2.2.2.2.2.2⟩
theorem mint_cfg (s : Sh) (pl sp : Nat) : (s.mint pl sp).2.cfg s := by
 unfold Sh.mint
 split
 ·exact cfg_refl s
 split
 ·exact cfg_refl s
 split
 ·exact jrn_cfg s _
 ·exact jrn_cfg s _
theorem snap_cfg (s : Sh) : s.snap.2.cfg s := by
 unfold Sh.snap
 split
 ·exact cfg_refl s
 split
 ·exact cfg_refl s
 split
 ·exact ⟨rfl, rfl, rfl, rfl⟩
 split
 ·exact ⟨rfl, rfl, rfl, rfl⟩
 split <;> exact ⟨rfl, rfl, rfl, rfl⟩
theorem restart_cfg (s : Sh) : s.restart.cfg s := by
 have := dos_up (scanL (s.dk.file s.dk.choice)) s.begun
 exact ⟨this.2.2.2.1, this.2.2.2.2.1, this.2.2.2.2.2.1, this.2.2.2.2.2.2⟩
theorem cfg_trans {s t u : Sh} (h : s.cfg t) (h' : t.cfg u) : s.cfg u := ⟨h.1.trans h'.1, h.2.1.trans h'.2.1, h.2.2.1.trans h'.2.2.1, h.2.2.2.trans h'.2.2.2⟩
end Go.Proofs.YtammnaafdhhjaaaGreat
namespace Go.Proofs.YtammnaafdhhjaaaGreat
theorem mayArr_ds {s : Sh} {i : It} (h : s.mayArr i = true) : s.ds.mayArr s.no s.cI i := by
 unfold Sh.mayArr at h
 simp only [Bool.and_eq_true, decide_eq_true_eq, Bool.not_eq_true', Bool.and_eq_false_imp, decide_eq_false_iff_not] at h
 obtain ⟨⟨⟨h1, h2⟩, h3⟩, h4⟩ := h
 have len : s.ds.it.length = s.th.length := (srtTh_perm s.th).length_eq
 refine ⟨h1, fun e => h2 e.1 e.2, fun x hx e => ?_, by rw [len]; omega⟩
 have : hasTh s.th i.sh i.nu = true := (has_th i.sh i.nu).2 ⟨x, hx, e⟩
 rw [h3] at this
 cases this
theorem hear_good {s : Sh} {r : Rs} (h : Good s r) (hu : s.up = true) (l : List UInt8) : (∃ r', Good (s.hear l).2 r') /\ (s.hear l).2.cfg s := by
 obtain ⟨rs, _, _, _, _, has, _, _⟩ := h.has hu
 unfold Sh.hear
 split
 ·rename_i k7
  obtain ⟨_, q0, q1, hi⟩ := dat_7 k7
  unfold Sh.hearCross
  split
  ·exact ⟨⟨r, h⟩, cfg_refl s⟩
  rename_i c1
  split
  ·exact ⟨⟨r, h⟩, cfg_refl s⟩
  rename_i c2
  have eq : (datP l).seq = s.ms.n + 1 := by omega
  have ma : s.mayArr (datP l).it = true := by
   cases hm : s.mayArr (datP l).it
   ·exact absurd (.inr hm) c2
   ·rfl
  have ag := arr_good h hu (i := (datP l).it) (by omega) hi (dat_wf l) (mayArr_ds ma)
  have e : (⟨4, (datP l).seq, (datP l).it, mk0, [], []⟩ : Rc) = arrRec (s.ms.n + 1) (datP l).it := by rw [eq]; rfl
  rw [e]
  split
  ·exact ⟨⟨_, ag.2⟩, jrn_cfg _ _⟩
  ·exact ⟨⟨_, ag.2⟩, jrn_cfg _ _⟩
 split
 ·unfold Sh.hearAck
  split
  ·exact ⟨⟨r, h⟩, cfg_refl s⟩
  ·rename_i c
   have ag := acked_good h hu (q := (datP l).seq) (by omega) (by omega)
   exact ⟨⟨_, ag.2⟩, jrn_cfg _ _⟩
 ·exact ⟨⟨r, h⟩, cfg_refl s⟩
structure PKeep (p q : Pr) : Prop where
 gd : PGd q
 c0 : q.s0.cfg p.s0
 c1 : q.s1.cfg p.s1
theorem PKeep.refl {p : Pr} (h : PGd p) : PKeep p p := ⟨h, cfg_refl _, cfg_refl _⟩
theorem PKeep.set {p : Pr} (h : PGd p) {i : Int} (hi : is01 i) {s : Sh} (g : ∃ r, Good s r) (hc : s.cfg (p.sh i)) : PKeep p (p.setSh i s) := by
 refine ⟨h.set hi g hc.1, ?_, ?_⟩
 ·rcases hi with rfl | rfl
  ·exact hc
  ·exact cfg_refl _
 ·rcases hi with rfl | rfl
  ·exact cfg_refl _
  ·exact hc
theorem PKeep.flown {p q : Pr} (h : PGd p) (e0 : q.s0 = p.s0) (e1 : q.s1 = p.s1) : PKeep p q := ⟨h.flown e0 e1, by rw [e0]; exact cfg_refl _, by rw [e1]; exact cfg_refl _⟩
theorem PKeep.onUp {p : Pr} (h : PGd p) (i : Int) (f : Sh -> Int × Sh) (hf : ∀ s r, Good s r -> s.up = true -> (∃ r', Good (f s).2 r') /\ (f s).2.cfg s) : PKeep p (p.onUp i f).2 := by
 unfold Pr.onUp
 by_cases hu : p.upE i = 0
 ·rw [if_pos hu]
  obtain ⟨hi, up⟩ := upE_at hu
  obtain ⟨⟨r, g⟩, _⟩ := h.at hi
  obtain ⟨a, b⟩ := hf _ r g up
  exact PKeep.set h hi a b
 ·rw [if_neg hu]
  exact PKeep.refl h
theorem tick_keep {p : Pr} (h : PGd p) (i : Int) : PKeep p (p.tick i).2 := PKeep.onUp h i _ (fun _ _ g up => ⟨⟨_, (tick_good g up).2⟩, jrn_cfg _ _⟩)
theorem snap_keep {p : Pr} (h : PGd p) (i : Int) : PKeep p (p.snap i).2 := PKeep.onUp h i _ (fun _ _ g up => ⟨⟨_, (snap_good g up).2⟩, snap_cfg _⟩)
theorem destroy_keep {p : Pr} (h : PGd p) (i x y : Int) : PKeep p (p.destroy i x y).2 := PKeep.onUp h i _ (fun s r g up => by
 unfold Sh.dest
 split
 ·rename_i hh
  exact ⟨⟨_, (dest_good g up x y hh).2.2⟩, jrn_cfg _ _⟩
 ·exact ⟨⟨r, g⟩, cfg_refl _⟩)
theorem crash_keep {p : Pr} (h : PGd p) (i k : Int) : PKeep p (p.crash i k).2 := PKeep.onUp h i _ (fun _ _ g _ => ⟨⟨_, crash_good g k⟩, ⟨rfl, rfl, rfl, rfl⟩⟩)
theorem mint_keep {p : Pr} (h : PGd p) (i : Int) (pl sp : Nat) (hp : pl < 4294967296) (hq : sp < 4294967296) : PKeep p (p.mint i pl sp).2 := by
 unfold Pr.mint
 by_cases hu : p.upE i = 0
 ·rw [if_pos hu]
  obtain ⟨hi, up⟩ := upE_at hu
  obtain ⟨⟨r, g⟩, _⟩ := h.at hi
  exact PKeep.set h hi ⟨_, (mint_good g up pl sp hp hq).2⟩ (mint_cfg _ _ _)
 ·rw [if_neg hu]
  exact PKeep.refl h
theorem brk_keep {p : Pr} (h : PGd p) (i k m : Int) (hk : k <= 9223372036854775807) (hm : kpB m) : PKeep p (p.brk i k m).2 := by
 unfold Pr.brk
 by_cases hu : is01 i /\ 0 <= k
 ·rw [if_pos hu]
  obtain ⟨⟨r, g⟩, _⟩ := h.at hu.1
  exact PKeep.set h hu.1 ⟨_, break_good g k m hu.2 hk hm⟩ ⟨rfl, rfl, rfl, rfl⟩
 ·rw [if_neg hu]
  exact PKeep.refl h
theorem restart_keep {p : Pr} (h : PGd p) (i : Int) : PKeep p (p.restart i).2 := by
 unfold Pr.restart
 by_cases hu : is01 i /\ (p.sh i).up = false
 ·rw [if_pos hu]
  obtain ⟨⟨r, g⟩, _⟩ := h.at hu.1
  exact PKeep.set h hu.1 ⟨_, (restart_good g).2⟩ (restart_cfg _)
 ·rw [if_neg hu]
  exact PKeep.refl h
theorem drop_keep {p : Pr} (h : PGd p) (i k : Int) : PKeep p (p.drop i k).2 := PKeep.flown h rfl rfl
theorem double_keep {p : Pr} (h : PGd p) (i k : Int) : PKeep p (p.double i k).2 := PKeep.flown h rfl rfl
theorem spoil_keep {p : Pr} (h : PGd p) (i k n : Int) : PKeep p (p.spoil i k n).2 := PKeep.flown h rfl rfl
theorem send_keep {p : Pr} (h : PGd p) (i : Int) : PKeep p (p.send i).2 := by
 unfold Pr.send
 split
 ·exact PKeep.flown h rfl rfl
 ·exact PKeep.refl h
theorem reply_sh (p : Pr) (i : Int) (t : List UInt8) : (p.reply i t).s0 = p.s0 /\ (p.reply i t).s1 = p.s1 := by
 unfold Pr.reply
 split <;> exact ⟨rfl, rfl⟩
theorem PKeep.trans {p q r : Pr} (h : PKeep p q) (h' : PKeep q r) : PKeep p r := ⟨h'.gd, cfg_trans h'.c0 h.c0, cfg_trans h'.c1 h.c1⟩
theorem deliver_keep {p : Pr} (h : PGd p) (i k : Int) : PKeep p (p.deliver i k).2 := by
 unfold Pr.deliver
 split
 ·exact PKeep.refl h
 rename_i hu
 have hi : is01 i := by
  by_cases hi : is01 i
  ·exact hi
  ·exact absurd (show unE p.f0 p.f1 i k ≠ 0 by unfold unE; rw [if_neg hi]; simp) hu
 split
 ·exact PKeep.flown h rfl rfl
 rename_i up
 have up' : (p.sh i).up = true := by simpa using up
 obtain ⟨⟨r, g⟩, _⟩ := h.at hi
 obtain ⟨a, b⟩ := hear_good g up' (atK (p.fl i) k)
 have h1 : PKeep p (p.drop i k).2 := drop_keep h i k
 have es : (p.drop i k).2.sh i = p.sh i := by rcases hi with rfl | rfl <;> rfl
 have h2 : PKeep (p.drop i k).2 ((p.drop i k).2.setSh i ((p.sh i).hear (atK (p.fl i) k)).2) := PKeep.set h1.gd hi a (by rw [es]; exact b)
 have h3 := PKeep.flown h2.gd (reply_sh ((p.drop i k).2.setSh i ((p.sh i).hear (atK (p.fl i) k)).2) i ((p.sh i).hear (atK (p.fl i) k)).1.2).1 (reply_sh ((p.drop i k).2.setSh i ((p.sh i).hear (atK (p.fl i) k)).2) i ((p.sh i).hear (atK (p.fl i) k)).1.2).2
 exact h1.trans (h2.trans h3)
theorem new_gd (cI cO cJ : Int) (hv : cfgB cI cO cJ) : PGd (Pr.new cI cO cJ) := by
 obtain ⟨⟨i0, i1⟩, ⟨o0, o1⟩, j0, j1⟩ := hv
 have c0 := restart_cfg (Sh.init 0 cI cO cJ)
 have c1 := restart_cfg (Sh.init 1 cI cO cJ)
 exact ⟨⟨_, init_good 0 cI cO cJ (by omega) i0 i1 o0 o1 j1⟩, ⟨_, init_good 1 cI cO cJ (by omega) i0 i1 o0 o1 j1⟩, c0.1, c1.1⟩
end Go.Proofs.YtammnaafdhhjaaaGreat
namespace Go.Proofs.YtammnaafdhhjaaaGreat
open Go.RowKit
def pickN (c n : Int) : Int := (if c < 0 then -(c + 1) else c) % n
theorem pickN_lt (c n : Int) (hn : 0 < n) : 0 <= pickN c n /\ pickN c n < n := ⟨Int.emod_nonneg _ (by omega), Int.emod_lt_of_pos _ hn⟩
theorem pickN_any (c n : Int) (w : World) (hc : i64B c) (hn : 0 < n) (hn' : n <= 9223372036854775807) : Calls Tryz.prog 13 #[.int .i64 c, .int .i64 n] w fun e w' => e = .returned (.int .i64 (pickN c n)) /\ w' = w := by
 unfold i64B at hc
 have nz : ¬ n = 0 := by omega
 have nb : (n == 0) = false := by simpa using nz
 unfold pickN
 by_cases h0 : c < 0
 ·rw [if_pos h0]
  have w1 : IntKind.i64.wrap (c + 1) = c + 1 := by simp [IntKind.wrap, IntKind.bits, IntKind.signed]; omega
  have w2 : IntKind.i64.wrap (-(c + 1)) = -(c + 1) := by simp [IntKind.wrap, IntKind.bits, IntKind.signed]; omega
  have p0 : 0 <= -(c + 1) := by omega
  have e1 : (-(c + 1)).tmod n = (-(c + 1)) % n := Int.tmod_eq_emod_of_nonneg p0
  have l1 := Int.emod_nonneg (-(c + 1)) nz
  have l2 := Int.emod_lt_of_pos (-(c + 1)) hn
  have w3 : IntKind.i64.wrap ((-(c + 1)) % n) = (-(c + 1)) % n := by simp [IntKind.wrap, IntKind.bits, IntKind.signed]; omega
  go_enter Tryz.func13, Tryz.ntmps13
  go_wp2
  go_ret
  exact ⟨rfl, rfl⟩
 ·rw [if_neg h0]
  have p0 : 0 <= c := by omega
  have e1 : c.tmod n = c % n := Int.tmod_eq_emod_of_nonneg p0
  have l1 := Int.emod_nonneg c nz
  have l2 := Int.emod_lt_of_pos c hn
  have w3 : IntKind.i64.wrap (c % n) = c % n := by simp [IntKind.wrap, IntKind.bits, IntKind.signed]; omega
  go_enter Tryz.func13, Tryz.ntmps13
  go_wp2
  go_ret
  exact ⟨rfl, rfl⟩
def setI (c : Int) : Int := 1 + pickN c 16
def setO (c : Int) : Int := 1 + pickN c 8
def setJ (c : Int) : Int := 400 + pickN c 1601
theorem set_cfg (cI cO cJ : Int) : cfgB (setI cI) (setO cO) (setJ cJ) /\ 400 <= setJ cJ := by
 have a := pickN_lt cI 16 (by decide)
 have b := pickN_lt cO 8 (by decide)
 have c := pickN_lt cJ 1601 (by decide)
 unfold setI setO setJ cfgB
 omega
theorem settings_any (cI cO cJ : Int) (w : World) (hI : i64B cI) (hO : i64B cO) (hJ : i64B cJ) : Calls Tryz.prog 11 #[.agg #[.int .i64 cI, .int .i64 cO, .int .i64 cJ]] w fun e w' => e = .returned (.agg #[.int .i64 (setI cI), .int .i64 (setO cO), .int .i64 (setJ cJ)]) /\ w.grownBy w' none := by
 have PI := Hid.mk' fun W => pickN_any cI 16 W hI (by decide) (by decide)
 have PO := Hid.mk' fun W => pickN_any cO 8 W hO (by decide) (by decide)
 have PJ := Hid.mk' fun W => pickN_any cJ 1601 W hJ (by decide) (by decide)
 have a := pickN_lt cI 16 (by decide)
 have b := pickN_lt cO 8 (by decide)
 have c := pickN_lt cJ 1601 (by decide)
 unfold setI setO setJ
 generalize pickN cI 16 = x at *
 generalize pickN cO 8 = y at *
 generalize pickN cJ 1601 = z at *
 have wx : IntKind.i64.wrap (1 + x) = 1 + x := by simp [IntKind.wrap, IntKind.bits, IntKind.signed]; omega
 have wy : IntKind.i64.wrap (1 + y) = 1 + y := by simp [IntKind.wrap, IntKind.bits, IntKind.signed]; omega
 have wz : IntKind.i64.wrap (400 + z) = 400 + z := by simp [IntKind.wrap, IntKind.bits, IntKind.signed]; omega
 clear hI hO hJ
 go_enter Tryz.func11, Tryz.ntmps11
 go_wp2_with fail
 refine wp_region_held_drew (S := fun w' => w'.cell? ⟨w.heap.size, 0, none⟩ = some (.int .i64 cI) /\ w'.cell? ⟨w.heap.size, 1, none⟩ = some (.int .i64 cO) /\ w'.cell? ⟨w.heap.size, 2, none⟩ = some (.int .i64 cJ)) (by kernel_rfl) (by refine ⟨?_, ?_, ?_⟩ <;> go_simp) (fun hHeld => ?_)
 refine hTy 0 rfl (by intro w hSw; go_simp; try with_reducible rfl) ?_
 simp only [lS0, lS1]
 refine hTy 1 rfl (by intro w hSw; obtain ⟨S0, S1, S2⟩ := hSw; go_simp; try with_reducible rfl) ?_
 simp only [lS0, lS1]
 refine hTy 4 rfl (by intro w hSw; go_simp; try with_reducible rfl) ?_
 simp only [lS0, lS1]
 refine hTy 5 rfl (by intro w hSw; obtain ⟨S0, S1, S2⟩ := hSw; go_simp; try with_reducible rfl) ?_
 simp only [lS0, lS1]
 refine hTy 8 rfl (by intro w hSw; go_simp; try with_reducible rfl) ?_
 simp only [lS0, lS1]
 refine hTy 9 rfl (by intro w hSw; obtain ⟨S0, S1, S2⟩ := hSw; go_simp; try with_reducible rfl) ?_
 simp only [lS0, lS1]
 refine hCall 2 (f := 13) (args := #[.int .i64 cI, .int .i64 16]) (by kernel_rfl) (by rfl) (by rfl) (by go_simp) ?_
 refine Calls.mono (PI.out _) ?_
 rintro e w2 ⟨rfl, rfl⟩
 refine ⟨_, rfl, hHeld, ?_⟩
 simp only [lS0, lS1]
 refine hTy 3 rfl (by intro w hSw; go_simp; try with_reducible rfl) ?_
 simp only [lS0, lS1]
 refine hCall 6 (f := 13) (args := #[.int .i64 cO, .int .i64 8]) (by kernel_rfl) (by rfl) (by rfl) (by go_simp) ?_
 refine Calls.mono (PO.out _) ?_
 rintro e w6 ⟨rfl, rfl⟩
 refine ⟨_, rfl, hHeld, ?_⟩
 simp only [lS0, lS1]
 refine hTy 7 rfl (by intro w hSw; go_simp; try with_reducible rfl) ?_
 simp only [lS0, lS1]
 refine hCall 10 (f := 13) (args := #[.int .i64 cJ, .int .i64 1601]) (by kernel_rfl) (by rfl) (by rfl) (by go_simp) ?_
 refine Calls.mono (PJ.out _) ?_
 rintro e w10 ⟨rfl, rfl⟩
 refine ⟨_, rfl, hHeld, ?_⟩
 simp only [lS0, lS1]
 refine hTy 11 rfl (by intro w hSw; go_simp; try with_reducible rfl) ?_
 simp only [lS0, lS1]
 refine hTy 12 rfl (by intro w hSw; go_simp; try with_reducible rfl) ?_
 simp only [lS0, lS1]
 refine hRun 13 (by kernel_rfl) (by rfl) (by rfl) ?_
 intro K hK
 go_simp
 refine hK _ _ ⟨by go_simp, by go_simp, by go_simp⟩ ?_
 clear hK K
 refine wpAnyH_done (by kernel_rfl) ?_ _
 go_wp2
 exact bodyPost_ret (v := .agg #[.int .i64 (1 + x), .int .i64 (1 + y), .int .i64 (400 + z)]) (by simp [results, Tryz.results11, go_sem, *]) rfl ⟨rfl, grownBy_drew ((World.grownBy_alloc w _ none).trans (World.grownBy_alloc _ _ none))⟩
end Go.Proofs.YtammnaafdhhjaaaGreat
namespace Go.Proofs.YtammnaafdhhjaaaGreat
open Go.RowKit
def inB (x : Nat) : Bool := FloatKind.f32.format.order x 3296165888 == some Ordering.gt && FloatKind.f32.format.order x 1148682240 == some Ordering.lt
theorem in_near {x : Nat} (h : inB x = true) : nearB x = true := by
 simp only [inB, Bool.and_eq_true, beq_iff_eq, Ieee.Format.order] at h
 simp only [nearB, Bool.and_eq_true, Bool.or_eq_true, beq_iff_eq, Ieee.Format.order]
 have e1 : Ieee.Format.read FloatKind.f32.format 3296329728 = .number true 16384000 (-14) := by decide +kernel
 have e2 : Ieee.Format.read FloatKind.f32.format 1148846080 = .number false 16384000 (-14) := by decide +kernel
 have e3 : Ieee.Format.read FloatKind.f32.format 3296165888 = .number true 16220160 (-14) := by decide +kernel
 have e4 : Ieee.Format.read FloatKind.f32.format 1148682240 = .number false 16220160 (-14) := by decide +kernel
 rw [e3, e4] at h
 rw [e1, e2]
 generalize Ieee.Format.read FloatKind.f32.format x = d at *
 cases d with
 | nan => simp [Ieee.Datum.order] at h
 | infinity s => cases s <;> simp [Ieee.Datum.order] at h
 | number s m e =>
  simp only [Ieee.Datum.order, Option.some.injEq, Int.compare_eq_lt, Int.compare_eq_eq, Int.compare_eq_gt] at h ⊢
  rw [Int.min_comm (-14) e]
  generalize (-14 - min e (-14)).toNat = k at *
  generalize Ieee.signed s m (e - min e (-14)).toNat = V at *
  have a1 : Ieee.signed true 16384000 k = -(16384000 * 2 ^ k : Nat) := by simp [Ieee.signed, Nat.shiftLeft_eq]
  have a2 : Ieee.signed false 16384000 k = ((16384000 * 2 ^ k : Nat) : Int) := by simp [Ieee.signed, Nat.shiftLeft_eq]
  have a3 : Ieee.signed true 16220160 k = -(16220160 * 2 ^ k : Nat) := by simp [Ieee.signed, Nat.shiftLeft_eq]
  have a4 : Ieee.signed false 16220160 k = ((16220160 * 2 ^ k : Nat) : Int) := by simp [Ieee.signed, Nat.shiftLeft_eq]
  have le : 16220160 * 2 ^ k <= 16384000 * 2 ^ k := Nat.mul_le_mul_right _ (by decide)
  rw [a3, a4] at h
  rw [a1, a2]
  generalize 16384000 * 2 ^ k = X at *
  generalize 16220160 * 2 ^ k = Y at *
  omega
def subF (x : Nat) : Nat := (FloatKind.f32.format.sub x 1056964608).getD 0
theorem sub_ok {x : Nat} (hx : nearB x = true) : FloatKind.f32.format.sub x 1056964608 = some (subF x) /\ subF x < 4294967296 := by
 obtain ⟨s, m, e, h1⟩ := near_num hx
 have h2 : Ieee.Format.read FloatKind.f32.format 1056964608 = .number false 8388608 (-24) := by decide +kernel
 have h3 : ∃ a b c, FloatKind.f32.format.sub x 1056964608 = some (Ieee.Format.nearest FloatKind.f32.format a b c) := by
  unfold Ieee.Format.sub
  rw [h1, h2]
  exact ⟨_, _, _, rfl⟩
 obtain ⟨a, b, c, h3⟩ := h3
 unfold subF
 rw [h3]
 refine ⟨rfl, ?_⟩
 show Ieee.Format.nearest FloatKind.f32.format a b c < _
 unfold Ieee.Format.nearest
 dsimp only
 split
 ·exact word_lt a 0 (by omega)
 ·exact word_lt a _ (by
   have hi : (FloatKind.f32.format.infRung) = 2139095040 := by decide +kernel
   rw [hi]
   exact Nat.min_le_right _ _)
theorem run_sub_f32 (x : Nat) (hx : nearB x = true) (W : World) : (binOp BinOp.sub 33 (.float .f32 x) (.float .f32 1056964608)).run Tryz.prog W = .ok (.float .f32 (subF x)) W := by
 have h := (sub_ok hx).1
 simp [binOp, Op.floatArith, h, go_sem]
def clampF (x : Nat) : Nat := if inB x = true then x else 1088421888
def absF (x : Nat) : Nat := if FloatKind.f32.format.order (clampF x) 0 = some .lt then negF (clampF x) else clampF x
def sideF (x : Nat) (i : Int) : Nat := if i = 0 then subF (negF (absF x)) else absF x
def speedF (x : Nat) : Nat := if nearB x = true then x else 1077936128
theorem clamp_near {x : Nat} (hx : x < 4294967296) : nearB (clampF x) = true /\ clampF x < 4294967296 := by
 unfold clampF
 split
 ·rename_i h
  exact ⟨in_near h, hx⟩
 ·exact ⟨by decide +kernel, by decide⟩
theorem abs_near {x : Nat} (hx : x < 4294967296) : nearB (absF x) = true /\ absF x < 4294967296 := by
 obtain ⟨a, b⟩ := clamp_near hx
 unfold absF
 split
 ·exact ⟨near_neg b a, negF_lt b⟩
 ·exact ⟨a, b⟩
theorem sideF_lt {x : Nat} (hx : x < 4294967296) (i : Int) : sideF x i < 4294967296 := by
 obtain ⟨a, b⟩ := abs_near hx
 unfold sideF
 split
 ·exact (sub_ok (near_neg b a)).2
 ·exact b
theorem speedF_ok {x : Nat} (hx : x < 4294967296) : nearB (speedF x) = true /\ speedF x < 4294967296 := by
 unfold speedF
 split
 ·rename_i h
  exact ⟨h, hx⟩
 ·exact ⟨by decide +kernel, by decide⟩
theorem order_turn (x y : Nat) : (FloatKind.f32.format.order x y == some Ordering.gt) = (FloatKind.f32.format.order y x == some Ordering.lt) /\ (FloatKind.f32.format.order x y == some Ordering.eq) = (FloatKind.f32.format.order y x == some Ordering.eq) := by
 simp only [Ieee.Format.order]
 generalize Ieee.Format.read FloatKind.f32.format x = a
 generalize Ieee.Format.read FloatKind.f32.format y = b
 cases a with
 | nan => cases b <;> simp [Ieee.Datum.order]
 | infinity s => cases b with
  | nan => simp [Ieee.Datum.order]
  | infinity t => cases s <;> cases t <;> decide
  | number t n j => cases s <;> simp [Ieee.Datum.order]
 | number s m e => cases b with
  | nan => simp [Ieee.Datum.order]
  | infinity t => cases t <;> simp [Ieee.Datum.order]
  | number t n j =>
   simp only [Ieee.Datum.order]
   rw [Int.min_comm j e]
   generalize Ieee.signed s m (e - min e j).toNat = A
   generalize Ieee.signed t n (j - min e j).toNat = B
   constructor
   ·rw [Bool.eq_iff_iff]
    simp [Int.compare_eq_gt, Int.compare_eq_lt]
   ·rw [Bool.eq_iff_iff]
    simp
    omega
theorem speed_any (x : Nat) (w : World) : Calls Tryz.prog 79 #[.float .f32 x] w fun e w' => e = .returned (.float .f32 (speedF x)) /\ w' = w := by
 have key : nearB x = ((FloatKind.f32.format.order x 3296329728 == some Ordering.gt || FloatKind.f32.format.order x 3296329728 == some Ordering.eq) && (FloatKind.f32.format.order x 1148846080 == some Ordering.lt || FloatKind.f32.format.order x 1148846080 == some Ordering.eq)) := by
  obtain ⟨a, b⟩ := order_turn x 3296329728
  rw [a, b]
  rfl
 unfold speedF
 rw [key]
 clear key
 cases hA : (FloatKind.f32.format.order x 3296329728 == some Ordering.gt || FloatKind.f32.format.order x 3296329728 == some Ordering.eq)
 ·simp only [Bool.false_and, Bool.false_eq_true, if_false]
  go_enter Tryz.func79, Tryz.ntmps79
  go_wp2
  go_ret
  exact ⟨rfl, rfl⟩
 ·cases hB : (FloatKind.f32.format.order x 1148846080 == some Ordering.lt || FloatKind.f32.format.order x 1148846080 == some Ordering.eq)
  ·simp only [Bool.and_false, Bool.false_eq_true, if_false]
   go_enter Tryz.func79, Tryz.ntmps79
   go_wp2
   go_ret
   exact ⟨rfl, rfl⟩
  ·simp only [Bool.and_true, if_true]
   go_enter Tryz.func79, Tryz.ntmps79
   go_wp2
   go_ret
   exact ⟨rfl, rfl⟩
theorem sideF_any (x : Nat) (i : Int) (w : World) (hx : x < 4294967296) : Calls Tryz.prog 78 #[.float .f32 x, .int .i64 i] w fun e w' => e = .returned (.float .f32 (sideF x i)) /\ w' = w := by
 have hneg := run_neg_f32
 obtain ⟨na, la⟩ := abs_near hx
 have hsub := run_sub_f32 (negF (absF x)) (near_neg la na)
 have o7 : (FloatKind.f32.format.order 1088421888 0 == some Ordering.lt) = false := by decide +kernel
 have o7' : ¬ FloatKind.f32.format.order 1088421888 0 = some Ordering.lt := by simpa using o7
 unfold sideF
 by_cases hi : i = 0
 ·rw [if_pos hi]
  subst hi
  unfold absF clampF at *
  cases hA : (FloatKind.f32.format.order x 3296165888 == some Ordering.gt)
  ·have e : inB x = false := by unfold inB; rw [hA]; rfl
   rw [e] at hsub ⊢
   simp only [Bool.false_eq_true, if_false] at hsub ⊢
   rw [if_neg o7'] at hsub ⊢
   generalize subF (negF 1088421888) = T at *
   generalize hn : negF 1088421888 = N at *
   clear e o7' na la
   go_enter Tryz.func78, Tryz.ntmps78
   go_wp2
   go_ret
   exact ⟨rfl, rfl⟩
  ·cases hB : (FloatKind.f32.format.order x 1148682240 == some Ordering.lt)
   ·have e : inB x = false := by unfold inB; rw [hA, hB]; rfl
    rw [e] at hsub ⊢
    simp only [Bool.false_eq_true, if_false] at hsub ⊢
    rw [if_neg o7'] at hsub ⊢
    generalize subF (negF 1088421888) = T at *
    generalize hn : negF 1088421888 = N at *
    clear e o7' na la
    go_enter Tryz.func78, Tryz.ntmps78
    go_wp2
    go_ret
    exact ⟨rfl, rfl⟩
   ·have e : inB x = true := by unfold inB; rw [hA, hB]; rfl
    rw [e] at hsub ⊢
    simp only [if_true] at hsub ⊢
    cases hN : (FloatKind.f32.format.order x 0 == some Ordering.lt)
    ·rw [if_neg (by simpa using hN)] at hsub ⊢
     generalize subF (negF x) = T at *
     clear e o7' na la
     go_enter Tryz.func78, Tryz.ntmps78
     go_wp2
     go_ret
     exact ⟨rfl, rfl⟩
    ·rw [if_pos (by simpa using hN)] at hsub ⊢
     generalize subF (negF (negF x)) = T at *
     clear e o7' na la
     go_enter Tryz.func78, Tryz.ntmps78
     go_wp2
     go_ret
     exact ⟨rfl, rfl⟩
 ·rw [if_neg hi]
  have hib : (i == 0) = false := by simpa using hi
  unfold absF clampF at *
  cases hA : (FloatKind.f32.format.order x 3296165888 == some Ordering.gt)
  ·have e : inB x = false := by unfold inB; rw [hA]; rfl
   rw [e] at hsub ⊢
   simp only [Bool.false_eq_true, if_false] at hsub ⊢
   rw [if_neg o7'] at hsub ⊢
   clear e o7' na la
   clear hsub
   go_enter Tryz.func78, Tryz.ntmps78
   go_wp2
   go_ret
   exact ⟨rfl, rfl⟩
  ·cases hB : (FloatKind.f32.format.order x 1148682240 == some Ordering.lt)
   ·have e : inB x = false := by unfold inB; rw [hA, hB]; rfl
    rw [e] at hsub ⊢
    simp only [Bool.false_eq_true, if_false] at hsub ⊢
    rw [if_neg o7'] at hsub ⊢
    clear e o7' na la
    clear hsub
    go_enter Tryz.func78, Tryz.ntmps78
    go_wp2
    go_ret
    exact ⟨rfl, rfl⟩
   ·have e : inB x = true := by unfold inB; rw [hA, hB]; rfl
    rw [e] at hsub ⊢
    simp only [if_true] at hsub ⊢
    cases hN : (FloatKind.f32.format.order x 0 == some Ordering.lt)
    ·rw [if_neg (by simpa using hN)] at hsub ⊢
     clear e o7' na la
     clear hsub
     go_enter Tryz.func78, Tryz.ntmps78
     go_wp2
     go_ret
     exact ⟨rfl, rfl⟩
    ·rw [if_pos (by simpa using hN)] at hsub ⊢
     clear e o7' na la
     clear hsub
     go_enter Tryz.func78, Tryz.ntmps78
     go_wp2
     go_ret
     exact ⟨rfl, rfl⟩
end Go.Proofs.YtammnaafdhhjaaaGreat
namespace Go.Proofs.YtammnaafdhhjaaaGreat
open Go.RowKit
structure Kn where
 sh : Int
 nu : Int
 how : Int
def Kn.cells (k : Kn) : List Value := [.int .i64 k.sh, .int .i64 k.nu, .int .i64 k.how]
def OwnK (B : Nat) (w : World) (v : Value) (l : List Kn) : Prop := w.ownsRow B 77 3 v l.length (l.flatMap Kn.cells)
theorem infoKnown : ∃ i, Tryz.prog.info? 77 = some i /\ i.zero = some (.agg #[.int .i64 0, .int .i64 0, .int .i64 0]) /\ i.size = 3 /\ i.bytes = 24 := info_parts (by kernel_rfl)
theorem flat_at3 (l : List Kn) (k j : Nat) (hk : k < l.length) (hj : j < 3) : (l.flatMap Kn.cells)[3 * k + j]? = l[k].cells[j]? := by
 induction l generalizing k with
 | nil => simp at hk
 | cons i t ih =>
  rw [List.flatMap_cons]
  have hi : i.cells.length = 3 := rfl
  cases k with
  | zero => rw [List.getElem?_append_left (by omega)]; simp
  | succ k =>
   rw [List.getElem?_append_right (by omega), hi, show 3 * (k + 1) + j - 3 = 3 * k + j by omega, ih k (by simpa using hk)]
   simp
structure Kp where
 kn : List Kn
 d0 : Bool
 d1 : Bool
 m0 : Mk
 m1 : Mk
def kpC (bp : Nat) (vk : Value) (k : Kp) : List Value :=
 [.pointer (some ⟨bp, 0, none⟩), vk, .bool k.d0, .bool k.d1, .int .i64 k.m0.g, .int .i64 k.m0.m, .int .i64 k.m0.s, .int .i64 k.m0.a, .int .i64 k.m0.n, .int .i64 k.m1.g, .int .i64 k.m1.m, .int .i64 k.m1.s, .int .i64 k.m1.a, .int .i64 k.m1.n]
structure KX (w : World) (bk bp : Nat) (vk : Value) (D : Nat -> Prop) (k : Kp) (p : Pr) : Prop where
 at_ : At w bk (kpC bp vk k)
 ow : OwnK 0 w vk k.kn
 pw : PW w bp D p
 lt : ∀ j, D j -> j < w.heap.size
 nb : ¬ D bk
 nv : ∀ j, vk.ownBlock = some j -> ¬ D j /\ j ≠ bk
def findK (l : List Kn) (x y : Int) : Int := match l.findIdx? (fun i => decide (i.sh = x /\ i.nu = y)) with
 | some k => (k : Int)
 | none => -1
theorem findK_any (l : List Kn) (x y : Int) (b : Nat) (v : Value) (w : World) (h : w.cell? ⟨b, 1, none⟩ = some v) (hv : OwnK 0 w v l) (hl : l.length <= 3000000) :
  Calls Tryz.prog 65 #[.pointer (some ⟨b, 0, none⟩), .agg #[.int .i64 x, .int .i64 y]] w fun e w' => e = .returned (.int .i64 (findK l x y)) /\ w.grownBy w' none := by
 obtain ⟨a, c, rfl, hx⟩ := lies_of hv
 clear hv
 have hbl : b < w.heap.size := World.block_lt_of_cell? w _ h
 obtain ⟨n, hL⟩ : ∃ n, l.length = n := ⟨_, rfl⟩
 rw [hL] at hl hx h
 have HL : Hid (l.length = n) := hL
 have HX := Hid.mk' hx
 have G0 : Hid (w.grownBy (w.alloc (.cells #[.int .i64 x, .int .i64 y] 32)) none) := World.grownBy_alloc w _ none
 have C0 : Hid (∀ j u, ([.int .i64 x, .int .i64 y] : List Value)[j]? = some u -> (w.alloc (.cells #[.int .i64 x, .int .i64 y] 32)).cell? ⟨w.heap.size, j, none⟩ = some u) := Hid.mk' (At.new w [.int .i64 x, .int .i64 y] 32).c
 clear hL hx
 go_enter Tryz.func65, Tryz.ntmps65
 go_wp2
 go_loopw [5] (fun i wr => ∃ k : Nat, k <= n /\ i = .int .i64 k /\ (w.alloc (.cells #[.int .i64 x, .int .i64 y] 32)).grownBy wr none /\ (l.take k).findIdx? (fun i => decide (i.sh = x /\ i.nu = y)) = none) (fun i _ => n - (intOf i).toNat)
 case atStart => exact ⟨0, by omega, rfl, grownBy_refl _ _, rfl⟩
 case round =>
  obtain ⟨k, hk, rfl, gk, hnone⟩ := hrel
  have GK := Hid.mk' gk
  have HN := Hid.mk' hnone
  have s1 : wr.cell? ⟨b, 1, none⟩ = some (.slice a n c) := (G0.out.trans gk).cell h (by simp)
  have x0 := gk.cell (C0.out 0 _ rfl) (by simp)
  have x1 := gk.cell (C0.out 1 _ rfl) (by simp)
  clear gk hnone
  by_cases hlt : k < n
  ·have hkl : k < l.length := by rw [HL.out]; exact hlt
   obtain ⟨g, off, rfl, hc⟩ := HX.out (by omega)
   obtain ⟨i, hi⟩ : ∃ i, l[k] = i := ⟨_, rfl⟩
   have d : ∀ j (hj : j < 3) u, i.cells[j]? = some u -> wr.cell? ⟨g, off + k * 3 + j, none⟩ = some u := fun j hj u hu => by
    have := hc (3 * k + j) u (by rw [flat_at3 l k j hkl hj, hi]; exact hu)
    rw [show off + (3 * k + j) = off + k * 3 + j by omega] at this
    exact (G0.out.trans GK.out).cell this (by simp)
   have d0 := d 0 (by omega) _ rfl
   have d1 := d 1 (by omega) _ rfl
   clear d hc
   rw [Nat.add_zero] at d0
   have HI := Hid.mk' hi
   clear hi
   have y0 : (0 : Int) <= (k : Int) := by omega
   have y1 : (k : Int) < (n : Int) := by omega
   have tk : Hid (l.take (k + 1) = l.take k ++ [i]) := by
    show _ = _
    rw [List.take_succ_eq_append_getElem hkl, HI.out]
   by_cases e1 : i.sh = x
   ·by_cases e2 : i.nu = y
    ·subst e1 e2
     go_wp2_with fail
     go_quiet (fail)
     go_wp2
     go_ret
     refine ⟨?_, G0.out.trans (grownBy_drewN GK.out nq)⟩
     have e : findK l i.sh i.nu = (k : Int) := by
      unfold findK
      have : l.findIdx? (fun j => decide (j.sh = i.sh /\ j.nu = i.nu)) = some k := by
       rw [List.findIdx?_eq_some_iff_getElem]
       refine ⟨hkl, by rw [HI.out]; simp, fun j hj => ?_⟩
       have hn := HN.out
       rw [List.findIdx?_eq_none_iff] at hn
       have := hn l[j] (List.mem_take_iff_getElem.2 ⟨j, by omega, rfl⟩)
       simpa using this
      rw [this]
     rw [e]
     rfl
    ·have e2' : (i.nu == y) = false := by simpa using e2
     subst e1
     go_wp2_with fail
     go_quiet (fail)
     go_wp2
     refine ⟨⟨k + 1, by omega, by go_num, grownBy_drewN GK.out nq, ?_⟩, by simp [intOf]; omega⟩
     rw [tk.out, List.findIdx?_append, HN.out]
     simp [e2]
   ·have e1' : (i.sh == x) = false := by simpa using e1
    go_wp2_with fail
    go_quiet (fail)
    go_wp2
    refine ⟨⟨k + 1, by omega, by go_num, grownBy_drewN GK.out nq, ?_⟩, by simp [intOf]; omega⟩
    rw [tk.out, List.findIdx?_append, HN.out]
    simp [e1]
  ·go_wp2
   go_ret
   refine ⟨?_, G0.out.trans GK.out⟩
   have : l.take k = l := List.take_of_length_le (by rw [HL.out]; omega)
   have hn := HN.out
   rw [this] at hn
   unfold findK
   rw [hn]
   rfl
end Go.Proofs.YtammnaafdhhjaaaGreat
namespace Go.Proofs.YtammnaafdhhjaaaGreat
open Go.RowKit
def magR (r : Nat) : Nat := Fl.mOf r * 2 ^ (Fl.pOf r + 149).toNat
theorem pOf_ge (r : Nat) : -149 <= Fl.pOf r := by unfold Fl.pOf; split <;> omega
theorem magR_le {r : Nat} (h : r <= 1148846080) : magR r <= 16384000 * 2 ^ 135 := by
 unfold magR Fl.mOf Fl.pOf
 by_cases c : r < 8388608
 ·rw [if_pos c, if_pos c]
  have : (2 : Nat) ^ ((-149 : Int) + 149).toNat = 1 := by decide
  rw [this]
  have : (0 : Nat) < 2 ^ 135 := Nat.two_pow_pos _
  calc r * 1 <= 16384000 * 1 := by omega
   _ <= 16384000 * 2 ^ 135 := Nat.mul_le_mul_left _ this
 ·rw [if_neg c, if_neg c]
  have e : ((-149 : Int) + ((r / 8388608 - 1 : Nat) : Int) + 149).toNat = r / 8388608 - 1 := by omega
  rw [e]
  by_cases d : r / 8388608 <= 135
  ·have p : (2 : Nat) ^ (r / 8388608 - 1) <= 2 ^ 134 := Nat.pow_le_pow_right (by decide) (by omega)
   calc (8388608 + r % 8388608) * 2 ^ (r / 8388608 - 1) <= 16777216 * 2 ^ 134 := Nat.mul_le_mul (by omega) p
    _ <= 16384000 * 2 ^ 135 := by decide
  ·have e2 : r / 8388608 - 1 = 135 := by omega
   rw [e2]
   exact Nat.mul_le_mul_right _ (by omega)
theorem signed_unit (s : Bool) (m : Nat) (p b : Int) (h1 : -149 <= b) (h2 : b <= p) : Ieee.signed s m (p - b).toNat * (2 ^ (b + 149).toNat : Nat) = if s then -((m * 2 ^ (p + 149).toNat : Nat) : Int) else ((m * 2 ^ (p + 149).toNat : Nat) : Int) := by
 have e : (p + 149).toNat = (p - b).toNat + (b + 149).toNat := by omega
 unfold Ieee.signed
 rw [Nat.shiftLeft_eq, e, Nat.pow_add, <- Nat.mul_assoc]
 cases s
 ·simp
 ·simp [Int.neg_mul]
theorem order_unit (s t : Bool) (m n : Nat) (i j : Int) (hi : -149 <= i) (hj : -149 <= j) :
  Ieee.Datum.order (.number s m i) (.number t n j) = some (compare (if s then -((m * 2 ^ (i + 149).toNat : Nat) : Int) else ((m * 2 ^ (i + 149).toNat : Nat) : Int)) (if t then -((n * 2 ^ (j + 149).toNat : Nat) : Int) else ((n * 2 ^ (j + 149).toNat : Nat) : Int))) := by
 have a := signed_unit s m i (min i j) (by omega) (by omega)
 have b := signed_unit t n j (min i j) (by omega) (by omega)
 rw [<- a, <- b]
 show some (compare (Ieee.signed s m (i - min i j).toNat) (Ieee.signed t n (j - min i j).toNat)) = _
 generalize Ieee.signed s m (i - min i j).toNat = X
 generalize Ieee.signed t n (j - min i j).toNat = Y
 have hp : (0 : Int) < ((2 ^ (min i j + 149).toNat : Nat) : Int) := by have := Nat.two_pow_pos (min i j + 149).toNat; omega
 generalize ((2 ^ (min i j + 149).toNat : Nat) : Int) = P at hp
 congr 1
 rcases Int.lt_trichotomy X Y with h | h | h
 ·rw [Int.compare_eq_lt.2 h, Int.compare_eq_lt.2 (Int.mul_lt_mul_of_pos_right h hp)]
 ·subst h; rw [Int.compare_eq_eq.2 rfl, Int.compare_eq_eq.2 rfl]
 ·rw [Int.compare_eq_gt.2 h, Int.compare_eq_gt.2 (Int.mul_lt_mul_of_pos_right h hp)]
theorem near_rung {r : Nat} (h : r <= 1148846080) : nearB (2147483648 + r) = true := by
 have hm : (2147483648 + r) % 2147483648 = r := by omega
 have hs : ((2147483648 + r) / 2147483648 % 2 == 1) = true := by
  have : (2147483648 + r) / 2147483648 = 1 := by omega
  rw [this]; rfl
 have hr : FloatKind.f32.format.read (2147483648 + r) = .number true (Fl.mOf r) (Fl.pOf r) := by
  have := Fl.read32 (2147483648 + r) (by omega)
  rw [hm, hs] at this
  exact this
 have e1 : Ieee.Format.read FloatKind.f32.format 3296329728 = .number true 16384000 (-14) := by decide +kernel
 have e2 : Ieee.Format.read FloatKind.f32.format 1148846080 = .number false 16384000 (-14) := by decide +kernel
 have ml := magR_le h
 unfold magR at ml
 simp only [nearB, Bool.and_eq_true, Bool.or_eq_true, beq_iff_eq, Ieee.Format.order]
 rw [hr, e1, e2, order_unit _ _ _ _ _ _ (by decide) (pOf_ge r), order_unit _ _ _ _ _ _ (pOf_ge r) (by decide)]
 have ek : (16384000 * 2 ^ ((-14 : Int) + 149).toNat : Nat) = 16384000 * 2 ^ 135 := by decide
 rw [ek]
 simp only [if_true, Bool.false_eq_true, if_false, Option.some.injEq, Int.compare_eq_lt, Int.compare_eq_eq]
 generalize Fl.mOf r * 2 ^ (Fl.pOf r + 149).toNat = A at ml
 have kp : (0 : Nat) < 16384000 * 2 ^ 135 := by decide
 generalize 16384000 * 2 ^ 135 = K at ml kp
 omega
theorem cut_le {n d K : Nat} (hd : d <= n.log2 + 2) (h : n <= K * 2 ^ d) (neg : Bool) : Ieee.Toward.even.cut neg n d <= K := by
 unfold Ieee.Toward.cut
 dsimp only
 rw [Nat.min_eq_left hd, Nat.one_shiftLeft]
 have hp := Nat.two_pow_pos d
 generalize 2 ^ d = G at h hp
 have dm := Nat.div_add_mod n G
 have rl := Nat.mod_lt n hp
 by_cases c : n / G < K
 ·have : (decide (G < 2 * (n % G)) || (G == 2 * (n % G) && n / G % 2 == 1)).toNat <= 1 := Bool.toNat_le _
  omega
 ·have h1 : n / G <= K := by rw [<- Nat.mul_div_cancel K hp]; exact Nat.div_le_div_right h
  have e : n / G = K := by omega
  have z : n % G = 0 := by rw [e] at dm; rw [Nat.mul_comm] at dm; omega
  rw [z, e]
  have : (decide (G < 2 * 0) || (G == 2 * 0 && K % 2 == 1)).toNat = 0 := by
   have a1 : decide (G < 2 * 0) = false := decide_eq_false (by omega)
   have a2 : (G == 2 * 0) = false := by simp; omega
   rw [a1, a2]; rfl
  rw [this]
  omega
theorem cut_ge {n d K : Nat} (hd : d <= n.log2 + 2) (h : K * 2 ^ d <= n) (neg : Bool) : K <= Ieee.Toward.even.cut neg n d := by
 unfold Ieee.Toward.cut
 dsimp only
 rw [Nat.min_eq_left hd, Nat.one_shiftLeft]
 have hp := Nat.two_pow_pos d
 have := (Nat.le_div_iff_mul_le hp).2 h
 omega
theorem pow_lt_exp {a b : Nat} (h : 2 ^ a < 2 ^ b) : a < b := by
 rcases Nat.lt_or_ge a b with c | c
 ·exact c
 ·exact absurd h (Nat.not_lt.2 (Nat.pow_le_pow_right (by decide) c))
theorem rung_le {q Q : Nat} (h : q <= 134) (hQ : Q <= 16777216) : q * 8388608 + Q <= 1148846080 := by omega
theorem rung_ge {q Q : Nat} (h : 125 <= q) (hQ : 8388608 <= Q) : 1056964608 <= q * 8388608 + Q := by omega
theorem nearest_rung {M : Nat} {b : Int} (h0 : M ≠ 0) (hb : -149 <= b) (h1 : 2 ^ 148 <= M * 2 ^ (b + 149).toNat) (h2 : M * 2 ^ (b + 149).toNat <= 16228352 * 2 ^ 135) :
  ∃ r, Ieee.Format.nearest FloatKind.f32.format true M b = 2147483648 + r /\ 1056964608 <= r /\ r <= 1148846080 := by
 obtain ⟨c, hc⟩ : ∃ c, (b + 149).toNat = c := ⟨_, rfl⟩
 rw [hc] at h1 h2
 obtain ⟨L, hL⟩ : ∃ L, M.log2 = L := ⟨_, rfl⟩
 have l1 : 2 ^ L <= M := by rw [<- hL]; exact Nat.log2_self_le h0
 have l2 : M < 2 ^ (L + 1) := by rw [<- hL]; exact Nat.lt_log2_self
 have hp := Nat.two_pow_pos c
 have t1 : 2 ^ (L + c) <= M * 2 ^ c := by rw [Nat.pow_add]; exact Nat.mul_le_mul_right _ l1
 have t2 : M * 2 ^ c < 2 ^ (L + 1 + c) := by rw [Nat.pow_add]; exact Nat.mul_lt_mul_of_pos_right l2 hp
 have q1 : 148 < L + 1 + c := pow_lt_exp (Nat.lt_of_le_of_lt h1 t2)
 have q2 : L + c < 159 := pow_lt_exp (Nat.lt_of_le_of_lt (Nat.le_trans t1 h2) (by decide))
 have sb : FloatKind.f32.format.binade = 8388608 := rfl
 have si : FloatKind.f32.format.infRung = 2139095040 := rfl
 have sl : FloatKind.f32.format.leastPlace = -149 := rfl
 have sf : FloatKind.f32.format.fractionBits = 23 := rfl
 obtain ⟨P, hP⟩ : ∃ P, M <<< (23 - L) = P := ⟨_, rfl⟩
 obtain ⟨d, hd⟩ : ∃ d, L - 23 = d := ⟨_, rfl⟩
 have hP' : P = M * 2 ^ (23 - L) := by rw [<- hP, Nat.shiftLeft_eq]
 have p1 : 8388608 * 2 ^ d <= P := by
  rw [hP', <- hd, show (8388608 : Nat) = 2 ^ 23 from rfl, <- Nat.pow_add]
  have : 23 + (L - 23) = L + (23 - L) := by omega
  rw [this, Nat.pow_add]
  exact Nat.mul_le_mul_right _ l1
 have p2 : P <= 16777216 * 2 ^ d := by
  rw [hP', <- hd, show (16777216 : Nat) = 2 ^ 24 from rfl, <- Nat.pow_add]
  have : 24 + (L - 23) = L + 1 + (23 - L) := by omega
  rw [this, Nat.pow_add]
  exact Nat.mul_le_mul_right _ (Nat.le_of_lt l2)
 have p3 : L + c = 158 -> P <= 16228352 * 2 ^ d := fun e => by
  have e1 : P * 2 ^ (158 - 23 - d) = M * 2 ^ c := by
   rw [hP', <- hd, Nat.mul_assoc, <- Nat.pow_add]
   congr 2
   omega
  have e2 : 16228352 * 2 ^ d * 2 ^ (158 - 23 - d) = 16228352 * 2 ^ 135 := by
   rw [Nat.mul_assoc, <- Nat.pow_add]
   congr 2
   omega
  have : P * 2 ^ (158 - 23 - d) <= 16228352 * 2 ^ d * 2 ^ (158 - 23 - d) := by rw [e1, e2]; exact h2
  exact Nat.le_of_mul_le_mul_right this (Nat.two_pow_pos _)
 have p0 : P ≠ 0 := fun e => by
  rw [e] at p1
  have := Nat.two_pow_pos d
  omega
 have pl : d <= P.log2 + 2 := by
  have : 2 ^ (23 + d) <= P := by rw [Nat.pow_add]; exact p1
  have := (Nat.le_log2 p0).2 this
  omega
 have k1 := cut_ge (K := 8388608) pl p1 true
 have k2 := cut_le (K := 16777216) pl p2 true
 have k3 := fun e => cut_le (K := 16228352) pl (p3 e) true
 unfold Ieee.Format.nearest
 rw [if_neg h0, sf, sl, sb, si, hL]
 have eL : max (b + (L : Int) - ((23 : Nat) : Int)) (-149) = b + L - 23 := by omega
 dsimp only
 rw [eL]
 have e1 : (b - (b + (L : Int) - 23)).toNat = 23 - L := by omega
 have e2 : (b + (L : Int) - 23 - b).toNat = L - 23 := by omega
 have e3 : (b + (L : Int) - 23 - -149).toNat = L + c - 23 := by omega
 rw [e1, e2, e3, hP, hd]
 generalize Ieee.Toward.even.cut true P d = Q at k1 k2 k3
 have lt : (L + c - 23) * 8388608 + Q <= 1148846080 := by
  by_cases e : L + c = 158
  ·have := k3 e
   rw [e]
   omega
  ·exact rung_le (by omega) k2
 have ge : 1056964608 <= (L + c - 23) * 8388608 + Q := by
  exact rung_ge (by omega) k1
 refine ⟨(L + c - 23) * 8388608 + Q, ?_, ge, lt⟩
 rw [Nat.min_eq_left (by omega)]
 rfl
theorem sub_half {z m : Nat} {e : Int} {s : Bool} (hr : Ieee.Format.read FloatKind.f32.format z = .number s m e) (hs : s = true ∨ m = 0) (he : -149 <= e) (hA : m * 2 ^ (e + 149).toNat < 16220160 * 2 ^ 135) : ∃ r, subF z = 2147483648 + r /\ 1056964608 <= r /\ r <= 1148846080 := by
 have h2 : Ieee.Format.read FloatKind.f32.format 1056964608 = .number false 8388608 (-24) := by decide +kernel
 obtain ⟨b, hb⟩ : ∃ b, min e (-24) = b := ⟨_, rfl⟩
 have b0 : -149 <= b := by omega
 have b1 : b <= e := by omega
 have b2 : b <= -24 := by omega
 obtain ⟨M, hM⟩ : ∃ M, m * 2 ^ (e - b).toNat + 8388608 * 2 ^ (-24 - b).toNat = M := ⟨_, rfl⟩
 have pos : 0 < 8388608 * 2 ^ (-24 - b).toNat := Nat.mul_pos (by decide) (Nat.two_pow_pos _)
 have M0 : M ≠ 0 := by omega
 have tot : Ieee.signed s m (e - b).toNat + Ieee.signed true 8388608 (-24 - b).toNat = -(M : Int) := by
  rw [<- hM]
  unfold Ieee.signed
  rw [Nat.shiftLeft_eq, Nat.shiftLeft_eq]
  rcases hs with rfl | rfl
  ·simp only [if_true]
   generalize m * 2 ^ (e - b).toNat = A1
   generalize 8388608 * 2 ^ (-24 - b).toNat = A2
   omega
  ·rw [Nat.zero_mul]
   cases s <;> simp
 have T : M * 2 ^ (b + 149).toNat = m * 2 ^ (e + 149).toNat + 2 ^ 148 := by
  rw [<- hM, Nat.add_mul, Nat.mul_assoc, <- Nat.pow_add, Nat.mul_assoc, <- Nat.pow_add]
  have x1 : (e - b).toNat + (b + 149).toNat = (e + 149).toNat := by omega
  have x2 : (-24 - b).toNat + (b + 149).toNat = 125 := by omega
  rw [x1, x2]
 obtain ⟨r, q1, q2, q3⟩ := nearest_rung (M := M) (b := b) M0 b0 (by rw [T]; omega) (by
  rw [T]
  have : (16228352 : Nat) * 2 ^ 135 = 16220160 * 2 ^ 135 + 2 ^ 148 := by decide
  rw [this]
  omega)
 refine ⟨r, ?_, q2, q3⟩
 rw [<- q1]
 unfold subF Ieee.Format.sub
 rw [hr, h2]
 show (Ieee.Format.write FloatKind.f32.format (.number (if Ieee.signed s m (e - min e (-24)).toNat + Ieee.signed true 8388608 (-24 - min e (-24)).toNat = 0 then s && true else decide (Ieee.signed s m (e - min e (-24)).toNat + Ieee.signed true 8388608 (-24 - min e (-24)).toNat < 0)) (Ieee.signed s m (e - min e (-24)).toNat + Ieee.signed true 8388608 (-24 - min e (-24)).toNat).natAbs (min e (-24)))) = _
 rw [hb, tot, if_neg (by omega), decide_eq_true (by omega), Int.natAbs_neg, Int.natAbs_natCast]
 rfl
theorem abs_mag {x : Nat} (hx : x < 4294967296) : ∃ s m e, Ieee.Format.read FloatKind.f32.format (absF x) = .number s m e /\ (s = false ∨ m = 0) /\ -149 <= e /\ m * 2 ^ (e + 149).toNat < 16220160 * 2 ^ 135 := by
 have num : ∀ y : Nat, (∃ s m e, Ieee.Format.read FloatKind.f32.format y = .number s m e) -> ∃ s m e, Ieee.Format.read FloatKind.f32.format y = .number s m e /\ -149 <= e := fun y ⟨s, m, e, h⟩ => by
  by_cases c : y % 2147483648 < 2139095040
  ·exact ⟨_, _, _, Fl.read32 y c, pOf_ge _⟩
  ·have h' : Ieee.single.read y = .number s m e := h
   rcases Fl.read32_no y c with ⟨_, e1⟩ | ⟨_, _, e1⟩
   ·rw [e1] at h'; cases h'
   ·rw [e1] at h'; cases h'
 obtain ⟨cn, cl⟩ := clamp_near hx
 obtain ⟨s, m, e, hr, he⟩ := num _ (near_num cn)
 have r0 : Ieee.Format.read FloatKind.f32.format 0 = .number false 0 (-149) := by decide +kernel
 have e3 : Ieee.Format.read FloatKind.f32.format 3296165888 = .number true 16220160 (-14) := by decide +kernel
 have e4 : Ieee.Format.read FloatKind.f32.format 1148682240 = .number false 16220160 (-14) := by decide +kernel
 have cb : inB (clampF x) = true := by
  unfold clampF
  split
  ·rename_i h; exact h
  ·decide +kernel
 simp only [inB, Bool.and_eq_true, beq_iff_eq, Ieee.Format.order] at cb
 rw [hr, e3, e4, order_unit _ _ _ _ _ _ he (by decide), order_unit _ _ _ _ _ _ he (by decide)] at cb
 have ek : (16220160 * 2 ^ ((-14 : Int) + 149).toNat : Nat) = 16220160 * 2 ^ 135 := by decide
 rw [ek] at cb
 simp only [if_true, Bool.false_eq_true, if_false, Option.some.injEq, Int.compare_eq_lt, Int.compare_eq_gt] at cb
 have hA : m * 2 ^ (e + 149).toNat < 16220160 * 2 ^ 135 := by
  generalize m * 2 ^ (e + 149).toNat = A at cb
  generalize 16220160 * 2 ^ 135 = K at cb
  cases s
  ·simp at cb; omega
  ·simp at cb; omega
 have oz : FloatKind.f32.format.order (clampF x) 0 = some (compare (if s then -((m * 2 ^ (e + 149).toNat : Nat) : Int) else ((m * 2 ^ (e + 149).toNat : Nat) : Int)) 0) := by
  unfold Ieee.Format.order
  rw [hr, r0, order_unit _ _ _ _ _ _ he (by decide)]
  simp
 unfold absF
 split
 ·rename_i h
  have ng := read_neg cl hr
  refine ⟨!s, m, e, ng, ?_, he, hA⟩
  cases s
  ·rw [oz] at h
   simp only [Bool.false_eq_true, if_false, Option.some.injEq, Int.compare_eq_lt] at h
   omega
  ·exact .inl rfl
 ·rename_i h
  refine ⟨s, m, e, hr, ?_, he, hA⟩
  cases s
  ·exact .inl rfl
  ·right
   rw [oz] at h
   simp only [if_true, Option.some.injEq, Int.compare_eq_lt] at h
   have hp := Nat.two_pow_pos (e + 149).toNat
   rcases Nat.eq_zero_or_pos m with z | z
   ·exact z
   ·have := Nat.mul_pos z hp
    omega
theorem sideF_ok {x : Nat} (hx : x < 4294967296) {i : Int} (hi : is01 i) : nearB (sideF x i) = true /\ sideB (sideF x i) = i := by
 obtain ⟨s, m, e, hr, hs, he, hA⟩ := abs_mag hx
 obtain ⟨an, al⟩ := abs_near hx
 have r0 : Ieee.Format.read FloatKind.f32.format 0 = .number false 0 (-149) := by decide +kernel
 rcases hi with rfl | rfl
 ·have eS : sideF x 0 = subF (negF (absF x)) := if_pos rfl
  rw [eS]
  obtain ⟨r, q1, q2, q3⟩ := sub_half (read_neg al hr) (by cases s <;> simp at hs ⊢; exact hs) he hA
  rw [q1]
  refine ⟨near_rung q3, ?_⟩
  unfold sideB
  rw [order0 _ (by omega), if_pos]
  rw [if_neg (by omega), if_pos]
  have : (2147483648 + r) / 2147483648 = 1 := by omega
  rw [this]; rfl
 ·have eS : sideF x 1 = absF x := if_neg (by decide)
  rw [eS]
  refine ⟨an, ?_⟩
  unfold sideB
  rw [if_neg]
  unfold Ieee.Format.order
  rw [hr, r0, order_unit _ _ _ _ _ _ he (by decide)]
  intro h
  simp only [Option.some.injEq, Int.compare_eq_lt] at h
  rcases hs with rfl | rfl
  ·have z : ((0 * 2 ^ ((-149 : Int) + 149).toNat : Nat) : Int) = 0 := by simp
   simp only [Bool.false_eq_true, if_false] at h
   rw [z] at h
   exact absurd h (Int.not_lt.2 (Int.natCast_nonneg _))
  ·cases s <;> simp at h
end Go.Proofs.YtammnaafdhhjaaaGreat
