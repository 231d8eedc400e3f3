import Derived.Test.YtammnaafdhhjaaaGreatRows
import Derived.Test.YtammnaafdhhjaaaGreatJG1
import Derived.Test.YtammnaafdhhjaaaGreatJR96
import Derived.Test.YtammnaafdhhjaaaGreatJG7
import Derived.Test.YtammnaafdhhjaaaGreatJG13
import Derived.Test.YtammnaafdhhjaaaGreatJG22
import Derived.Test.YtammnaafdhhjaaaGreatC9
set_option maxHeartbeats 16000000
set_option maxRecDepth 100000
namespace Go.Proofs.YtammnaafdhhjaaaGreat
open Go.RowKit
def base1 : Rc := ⟨6, 0, it0, ⟨1, 0, 0, 0, 0⟩, [], []⟩
theorem told1 : Told base1 := ⟨by decide, ⟨by decide, by decide⟩, by simp [base1], by simp [base1]⟩
def dk1 : Dk := ⟨frm base1, (frm base1).length, [], 0, 0, 0⟩
def Sh.init (no : Nat) (cI cO cJ : Int) : Sh := ⟨no, cI, cO, cJ, dk1, false, 0, [], [], mk0⟩
theorem frm1_len : (frm base1).length <= 1200 := by
 have := (enc_len base1 told1.m).2
 rw [frm_length]; omega
theorem dk1_ok : dk1.Ok := ⟨Nat.le_refl _, Nat.le_refl _, by have := frm1_len; show (frm base1).length <= 10000; omega, by decide, by decide, by decide⟩
theorem scan1 : scanL (frm base1) = [base1] /\ (scanC (frm base1)).2 = (frm base1).length := by
 have := scan_whole (rs := [base1]) (by simp [told1])
 simpa [frms] using this
theorem choice1 : dk1.choice = 0 := by
 unfold Dk.choice dk1
 simp only
 rw [scan1.1, scan_nil.1]
 rfl
theorem jnl1 (no : Nat) (cI cO cJ : Int) : Jnl (Sh.init no cI cO cJ).begun (scanL ((Sh.init no cI cO cJ).dk.file (Sh.init no cI cO cJ).dk.choice)) := by
 have e : scanL ((Sh.init no cI cO cJ).dk.file (Sh.init no cI cO cJ).dk.choice) = [base1] := by
  show scanL (dk1.file dk1.choice) = _
  rw [choice1]
  exact scan1.1
 rw [e]
 exact ⟨by simp, fun _ => ⟨rfl, by simp [base1], by simp [base1]⟩, fun _ => trivial, by simp⟩
theorem shNew_any (no : Nat) (cI cO cJ : Int) (w : World) :
  Calls Tryz.prog 77 #[.int .i64 no, .agg #[.int .i64 cI, .int .i64 cO, .int .i64 cJ]] w fun e w' => ∃ b, e = .returned (.pointer (some ⟨b, 0, none⟩)) /\ PS w' b (Sh.init no cI cO cJ).restart (fun j => w.heap.size <= j /\ j < w'.heap.size) /\ w.grownBy w' none := by
 have hsf := run_store_float
 have g0 := grownBy_drew ((World.grownBy_alloc w (.cells #[.int .i64 cI, .int .i64 cO, .int .i64 cJ] 23) none).trans (World.grownBy_alloc _ (.cells #[.int .i64 6, .int .i64 0, .int .i64 0, .int .i64 0, .float .f32 0, .float .f32 0, .int .i64 1, .int .i64 0, .int .i64 0, .int .i64 0, .int .i64 0, .slice none 0 0, .slice none 0 0] 139) none))
 have G0 := Hid.mk' g0
 have A0 := Hid.mk' (((At.new w [.int .i64 cI, .int .i64 cO, .int .i64 cJ] 23).grown (World.grownBy_alloc _ (.cells #[.int .i64 6, .int .i64 0, .int .i64 0, .int .i64 0, .float .f32 0, .float .f32 0, .int .i64 1, .int .i64 0, .int .i64 0, .int .i64 0, .int .i64 0, .slice none 0 0, .slice none 0 0] 139) none)).drew)
 have R0 := Hid.mk' (At.new (w.alloc (.cells #[.int .i64 cI, .int .i64 cO, .int .i64 cJ] 23)) [.int .i64 6, .int .i64 0, .int .i64 0, .int .i64 0, .float .f32 0, .float .f32 0, .int .i64 1, .int .i64 0, .int .i64 0, .int .i64 0, .int .i64 0, .slice none 0 0, .slice none 0 0] 139).drew
 have FR : Hid (∀ W : World, Calls Tryz.prog 122 #[rv 6 0 it0 ⟨1, 0, 0, 0, 0⟩ (.slice none 0 0) (.slice none 0 0)] W fun e w' => e = .returned (.string (S (frm base1))) /\ W.grownBy w' none) := Hid.mk' fun W => framed_yes base1 _ _ W (lies_nil W) (liesE_nil W) told1.m told1.wf
 unfold rv it0 at FR
 clear g0
 go_enter Tryz.func77, Tryz.ntmps77
 go_wp2_with fail
 refine wp_region_held_drew (S := fun w' => At w' w.heap.size [.int .i64 cI, .int .i64 cO, .int .i64 cJ] /\ At w' (w.heap.size + 1) [.int .i64 6, .int .i64 0, .int .i64 0, .int .i64 0, .float .f32 0, .float .f32 0, .int .i64 1, .int .i64 0, .int .i64 0, .int .i64 0, .int .i64 0, .slice none 0 0, .slice none 0 0]) (by kernel_rfl) (⟨A0.out, by have := R0.out; simpa using this⟩) (fun hHeld => ?_)
 refine hTk 0 ?_
 simp only [lS0, lS1]
 refine hTy 1 rfl (by intro w hSw; have S0 := hSw.1.c 0 _ rfl; have S1 := hSw.1.c 1 _ rfl; have S2 := hSw.1.c 2 _ rfl; go_simp; try with_reducible rfl) ?_
 simp only [lS0, lS1]
 refine hTy 2 rfl (by intro w hSw; have S0 := hSw.2.c 0 _ rfl; have S1 := hSw.2.c 1 _ rfl; have S2 := hSw.2.c 2 _ rfl; have S3 := hSw.2.c 3 _ rfl; have S4 := hSw.2.c 4 _ rfl; have S5 := hSw.2.c 5 _ rfl; have S6 := hSw.2.c 6 _ rfl; have S7 := hSw.2.c 7 _ rfl; have S8 := hSw.2.c 8 _ rfl; have S9 := hSw.2.c 9 _ rfl; have S10 := hSw.2.c 10 _ rfl; have S11 := hSw.2.c 11 _ rfl; have S12 := hSw.2.c 12 _ rfl; go_simp; try with_reducible rfl) ?_
 simp only [lS0, lS1]
 refine hCall 3 (f := 122) (args := #[.agg #[.int .i64 6, .int .i64 0, .int .i64 0, .int .i64 0, .float .f32 0, .float .f32 0, .int .i64 1, .int .i64 0, .int .i64 0, .int .i64 0, .int .i64 0, .slice none 0 0, .slice none 0 0]]) (by kernel_rfl) (by rfl) (by rfl) (by go_simp) ?_
 refine Calls.mono (FR.out _) ?_
 rintro e w1 ⟨rfl, g1⟩
 have G1 := Hid.mk' (G0.out.trans g1)
 have h1 := And.intro (hHeld.1.grown g1) (hHeld.2.grown g1)
 clear hHeld
 have hHeld := h1
 clear g1 h1
 refine ⟨_, rfl, hHeld, ?_⟩
 simp only [lS0, lS1]
 refine hCall 4 (f := 133) (args := #[.string (S (frm base1))]) (by kernel_rfl) (by rfl) (by rfl) (by go_simp) ?_
 refine Calls.mono (dkNew_any (frm base1) _) ?_
 rintro e w2 ⟨bd, rfl, hbd, ad, g2⟩
 have G2 := Hid.mk' (G1.out.trans g2)
 have h2 := And.intro (hHeld.1.grown g2) (hHeld.2.grown g2)
 clear hHeld
 have hHeld := h2
 have AD := Hid.mk' ad
 have zb : w.heap.size <= bd := by have := G1.out.size; omega
 clear h2 ad g2
 refine ⟨_, rfl, hHeld, ?_⟩
 simp only [lS0, lS1]
 refine hTk 5 ?_
 simp only [lS0, lS1]
 refine hRun 6 (by kernel_rfl) (by rfl) (by rfl) ?_
 intro K hK
 go_simp
 refine hK _ _ ⟨hHeld.1.alloc _, hHeld.2.alloc _⟩ ?_
 replace hHeld := And.intro (hHeld.1.alloc (.cells #[.int .i64 no, .int .i64 cI, .int .i64 cO, .int .i64 cJ, .pointer (some ⟨bd, 0, none⟩), .bool false, .int .i64 0, .map none, .slice none 0 0, .int .i64 0, .int .i64 0, .int .i64 0, .int .i64 0, .int .i64 0] 132)) (hHeld.2.alloc (.cells #[.int .i64 no, .int .i64 cI, .int .i64 cO, .int .i64 cJ, .pointer (some ⟨bd, 0, none⟩), .bool false, .int .i64 0, .map none, .slice none 0 0, .int .i64 0, .int .i64 0, .int .i64 0, .int .i64 0, .int .i64 0] 132))
 refine hTk 7 ?_
 simp only [lS0, lS1]
 refine wpAnyH_done (by kernel_rfl) ?_ _
 have g3 := World.grownBy_alloc w2 (.cells #[.int .i64 no, .int .i64 cI, .int .i64 cO, .int .i64 cJ, .pointer (some ⟨bd, 0, none⟩), .bool false, .int .i64 0, .map none, .slice none 0 0, .int .i64 0, .int .i64 0, .int .i64 0, .int .i64 0, .int .i64 0] 132) none
 have bl := AD.out.lt
 have z2 := G2.out.size
 have RS := Hid.mk' (restart_ps w2.heap.size (Sh.init no cI cO cJ) (fun j => w.heap.size <= j /\ j < w2.heap.size + 1) _ ⟨bd, .inr ⟨rfl, At.new w2 [.int .i64 no, .int .i64 cI, .int .i64 cO, .int .i64 cJ, .pointer (some ⟨bd, 0, none⟩), .bool false, .int .i64 0, .map none, .slice none 0 0, .int .i64 0, .int .i64 0, .int .i64 0, .int .i64 0, .int .i64 0] 132, AD.out.grown g3, dk1_ok, by omega, ⟨z2, by omega⟩, ⟨zb, by omega⟩, rfl, rfl, rfl⟩⟩ rfl (jnl1 no cI cO cJ))
 have G3 := Hid.mk' (G2.out.trans g3)
 clear g3 hHeld
 go_wp2_with fail
 refine Calls.mono RS.out ?_
 rintro e w4 ⟨rfl, ps, on⟩
 go_wp2
 go_ret
 refine ⟨_, rfl, ps.mono (fun j hj h => ⟨?_, hj⟩), ?_⟩
 ·rcases h.1 with h | h
  ·exact h.1
  ·have := G3.out.size; omega
 ·exact grown_of_only G3.out on (fun k hk => hk.1)
theorem negF_hi {x : Nat} (h0 : 2147483648 <= x) (h1 : x < 4294967296) : negF x = x - 2147483648 := by
 have h := run_neg32 x h0 h1 default
 have h' : (Op.unary UnOp.neg (.float .f32 x)).run Tryz.prog default = .ok (.float .f32 (negF x)) default := rfl
 rw [h'] at h
 injection h with h _
 injection h
theorem negF_lo {x : Nat} (h1 : x < 2147483648) : negF x = x + 2147483648 := by
 have h := run_neg32' x h1 default
 have h' : (Op.unary UnOp.neg (.float .f32 x)).run Tryz.prog default = .ok (.float .f32 (negF x)) default := rfl
 rw [h'] at h
 injection h with h _
 injection h
theorem negF_lt {x : Nat} (h : x < 4294967296) : negF x < 4294967296 := by
 by_cases h0 : 2147483648 <= x
 ·rw [negF_hi h0 h]; omega
 ·rw [negF_lo (by omega)]; omega
theorem read_neg {x : Nat} (h : x < 4294967296) {s : Bool} {m : Nat} {e : Int} (hr : Ieee.Format.read FloatKind.f32.format x = .number s m e) : Ieee.Format.read FloatKind.f32.format (negF x) = .number (!s) m e := by
 have key : ∀ a b : Nat, a < 2147483648 -> b = a + 2147483648 -> ∀ (m : Nat) (e : Int), (Ieee.Format.read FloatKind.f32.format a = .number false m e ↔ Ieee.Format.read FloatKind.f32.format b = .number true m e) /\ (∀ s, Ieee.Format.read FloatKind.f32.format a = .number s m e -> s = false) /\ (∀ s, Ieee.Format.read FloatKind.f32.format b = .number s m e -> s = true) := by
  rintro a b ha rfl m e
  have hw : (FloatKind.f32.format.signWeight) = 2147483648 := by decide +kernel
  have e1 : a / 2147483648 % 2 = 0 := by omega
  have e2 : a % 2147483648 = a := by omega
  have e3 : (a + 2147483648) / 2147483648 % 2 = 1 := by omega
  have e4 : (a + 2147483648) % 2147483648 = a := by omega
  unfold Ieee.Format.read
  simp only [hw, e1, e2, e3, e4]
  refine ⟨?_, ?_, ?_⟩
  ·split
   ·simp
   ·split
    ·simp
    ·split <;> simp
  ·intro s
   split
   ·simp; intro h1 _ _; exact h1
   ·split
    ·simp; intro h1 _ _; exact h1
    ·split <;> simp
  ·intro s
   split
   ·simp; intro h1 _ _; exact h1
   ·split
    ·simp; intro h1 _ _; exact h1
    ·split <;> simp
 by_cases h0 : 2147483648 <= x
 ·rw [negF_hi h0 h]
  obtain ⟨k1, _, k3⟩ := key (x - 2147483648) x (by omega) (by omega) m e
  obtain rfl := k3 s hr
  exact k1.2 hr
 ·rw [negF_lo (by omega)]
  obtain ⟨k1, k2, _⟩ := key x (x + 2147483648) (by omega) rfl m e
  obtain rfl := k2 s hr
  exact k1.1 hr
theorem signed_not (s : Bool) (m k : Nat) : Ieee.signed (!s) m k = - Ieee.signed s m k := by
 cases s <;> simp [Ieee.signed]
theorem near_neg {x : Nat} (hx : x < 4294967296) (h : nearB x = true) : nearB (negF x) = true := by
 obtain ⟨s, m, e, hr⟩ := near_num h
 have hr' := read_neg hx hr
 simp only [nearB, Bool.and_eq_true, Bool.or_eq_true, beq_iff_eq, Ieee.Format.order] at h ⊢
 have e1 : Ieee.Format.read FloatKind.f32.format 3296329728 = .number true 16384000 (-14) := by decide +kernel
 have e2 : Ieee.Format.read FloatKind.f32.format 1148846080 = .number false 16384000 (-14) := by decide +kernel
 rw [e1, e2, hr] at h
 rw [e1, e2, hr']
 simp only [Ieee.Datum.order, Option.some.injEq, Int.compare_eq_lt, Int.compare_eq_eq, signed_not] at h ⊢
 have a1 : ∀ k, Ieee.signed true 16384000 k = - Ieee.signed false 16384000 k := fun k => signed_not false 16384000 k
 rw [a1] at h ⊢
 rw [Int.min_comm e (-14)] at *
 omega
theorem word_lt (neg : Bool) (r : Nat) (hr : r <= 2139095040) : Ieee.Format.word FloatKind.f32.format neg r < 4294967296 := by
 show (if neg = true then (2147483648 + r) else r) < 4294967296
 split <;> omega
theorem addF_lt {x y : Nat} (hx : nearB x = true) (hy : nearB y = true) : addF x y < 4294967296 := by
 obtain ⟨s, m, e, h1⟩ := near_num hx
 obtain ⟨s', m', e', h2⟩ := near_num hy
 have h3 : ∃ a b c, FloatKind.f32.format.add x y = some (Ieee.Format.nearest FloatKind.f32.format a b c) := by
  unfold Ieee.Format.add
  rw [h1, h2]
  exact ⟨_, _, _, rfl⟩
 obtain ⟨a, b, c, h3⟩ := h3
 unfold addF
 rw [h3]
 show Ieee.Format.nearest FloatKind.f32.format a b c < _
 unfold Ieee.Format.nearest
 dsimp only
 split
 ·exact word_lt a 0 (by omega)
 ·exact word_lt a _ (by
   have hi : (FloatKind.f32.format.infRung) = 2139095040 := by decide +kernel
   rw [hi]
   exact Nat.min_le_right _ _)
structure Ds where
 it : List It
 ob : List En
 ms : Mk
def Ds.tickOne (no : Nat) (cO : Int) (a : Ds) (i : It) : Ds :=
 if nearB (addF i.pl i.sp) = false then { a with it := a.it ++ [⟨i.sh, i.nu, i.pl, negF i.sp⟩] }
 else if sideB (addF i.pl i.sp) = (no : Int) then { a with it := a.it ++ [⟨i.sh, i.nu, addF i.pl i.sp, i.sp⟩] }
 else if (a.ob.length : Int) < cO /\ a.ms.s < 65535 then ⟨a.it, a.ob ++ [⟨a.ms.s + 1, ⟨i.sh, i.nu, addF i.pl i.sp, i.sp⟩⟩], { a.ms with s := a.ms.s + 1 }⟩
 else { a with it := a.it ++ [i] }
def Ds.tick (no : Nat) (cO : Int) (d : Ds) : Ds := d.it.foldl (Ds.tickOne no cO) ⟨[], d.ob, d.ms⟩
def Ds.doR (no : Nat) (cO : Int) (d : Ds) (r : Rc) : Ds :=
 if r.kind = 1 then ⟨insI r.it d.it, d.ob, { d.ms with m := r.it.nu }⟩
 else if r.kind = 2 then ⟨delTh d.it r.it.sh r.it.nu, d.ob, d.ms⟩
 else if r.kind = 3 then d.tick no cO
 else if r.kind = 4 then ⟨insI r.it d.it, d.ob, { d.ms with n := r.seq }⟩
 else if r.kind = 5 then ⟨d.it, keepE r.seq d.ob, { d.ms with a := r.seq }⟩
 else d
def Sh.ds (s : Sh) : Ds := ⟨srtTh s.th, s.ob, s.ms⟩
theorem srt_perm {l m : List It} (nd : l.Pairwise (fun a b => ¬ a.same b)) (p : l.Perm m) : srtTh l = srtTh m :=
 ord_eq (srtTh_ord nd) (srtTh_ord (nd_perm p.symm nd)) ((srtTh_perm l).trans (p.trans (srtTh_perm m).symm))
theorem srt_eq {l m : List It} (h : Ord m) (p : l.Perm m) : srtTh l = m := by
 rw [srt_perm (nd_perm p (h.imp lt_ne)) p, srtTh_id h]
theorem del_perm {l m : List It} (p : l.Perm m) (a b : Int) : (delTh l a b).Perm (delTh m a b) := p.filter _
theorem srt_del {l : List It} (nd : l.Pairwise (fun a b => ¬ a.same b)) (a b : Int) : srtTh (delTh l a b) = delTh (srtTh l) a b :=
 srt_eq (List.Pairwise.filter _ (srtTh_ord nd)) (del_perm (srtTh_perm l).symm a b)
theorem put_new {l : List It} {i : It} (h : ∀ x ∈ l, ¬ x.same i) : putTh l i = l ++ [i] := by
 unfold putTh
 rw [if_neg]
 simp only [List.any_eq_true, decide_eq_true_eq, not_exists, not_and]
 exact fun x hx e1 e2 => h x hx ⟨e1, e2⟩
theorem srt_new {l : List It} {i : It} (nd : l.Pairwise (fun a b => ¬ a.same b)) (h : ∀ x ∈ l, ¬ x.same i) : srtTh (putTh l i) = insI i (srtTh l) := by
 rw [put_new h]
 refine srt_eq (insI_ord (srtTh_ord nd) (fun y hy => h y ((srtTh_perm l).mem_iff.1 hy))) ?_
 refine List.perm_append_comm.trans ?_
 exact ((srtTh_perm l).symm.cons i).trans (insI_perm i _).symm
theorem put_old {p q : List It} {i j : It} {l : List It} (hp : l.Perm (p ++ i :: q)) (hs : i.same j) (n1 : ∀ x ∈ p, ¬ x.same j) (n2 : ∀ x ∈ q, ¬ x.same j) : (putTh l j).Perm (p ++ j :: q) := by
 unfold putTh
 rw [if_pos]
 ·refine (hp.map _).trans ?_
  rw [List.map_append, List.map_cons, if_pos hs]
  rw [List.map_congr_left (f := fun x => if x.same j then j else x) (g := id) (l := p) (fun x hx => if_neg (n1 x hx)), List.map_congr_left (f := fun x => if x.same j then j else x) (g := id) (l := q) (fun x hx => if_neg (n2 x hx)), List.map_id, List.map_id]
 ·rw [List.any_eq_true]
  exact ⟨i, hp.mem_iff.2 (by simp), decide_eq_true hs⟩
theorem del_old {p q : List It} {i : It} {l : List It} (hp : l.Perm (p ++ i :: q)) (n1 : ∀ x ∈ p, ¬ x.same i) (n2 : ∀ x ∈ q, ¬ x.same i) : (delTh l i.sh i.nu).Perm (p ++ q) := by
 refine (del_perm hp i.sh i.nu).trans ?_
 unfold delTh
 rw [List.filter_append, List.filter_cons_of_neg (by simp)]
 rw [List.filter_eq_self.2, List.filter_eq_self.2]
 ·intro x hx
  have := n2 x hx
  unfold It.same at this
  rw [decide_eq_false this]; rfl
 ·intro x hx
  have := n1 x hx
  unfold It.same at this
  rw [decide_eq_false this]; rfl
theorem ord_mid {p q : List It} {i j : It} (hs : i.same j) (h : Ord (p ++ i :: q)) : Ord (p ++ j :: q) := by
 unfold Ord at *
 rw [List.pairwise_append, List.pairwise_cons] at *
 obtain ⟨h1, ⟨h2, h3⟩, h4⟩ := h
 unfold It.same at hs
 refine ⟨h1, ⟨fun x hx => ?_, h3⟩, fun x hx y hy => ?_⟩
 ·have := h2 x hx
  unfold lt at *
  omega
 ·rcases List.mem_cons.1 hy with rfl | hy
  ·have := h4 x hx i (.head _)
   unfold lt at *
   omega
  ·exact h4 x hx y (.tail _ hy)
theorem ord_out {p q : List It} {i : It} (h : Ord (p ++ i :: q)) : (∀ x ∈ p, ¬ x.same i) /\ (∀ x ∈ q, ¬ x.same i) /\ Ord (p ++ q) := by
 unfold Ord at *
 rw [List.pairwise_append, List.pairwise_cons] at *
 obtain ⟨h1, ⟨h2, h3⟩, h4⟩ := h
 refine ⟨fun x hx => lt_ne (h4 x hx i (.head _)), fun x hx e => lt_ne (h2 x hx) (by unfold It.same at *; omega), h1, h3, fun x hx y hy => h4 x hx y (.tail _ hy)⟩
theorem tick_both (no : Nat) (cO : Int) : ∀ (q : List It) (s : Sh) (a : Ds), s.no = no -> s.cO = cO -> s.th.Perm (a.it ++ q) -> Ord (a.it ++ q) -> s.ob = a.ob -> s.ms = a.ms →
  (q.foldl Sh.driftOne s).ds = q.foldl (Ds.tickOne no cO) a
 | [], s, a, _, _, hp, ho, h1, h2 => by
  rw [List.append_nil] at hp ho
  show (⟨srtTh s.th, s.ob, s.ms⟩ : Ds) = a
  rw [srt_eq ho hp, h1, h2]
 | i :: q, s, a, hn, hc, hp, ho, h1, h2 => by
  obtain ⟨n1, n2, o2⟩ := ord_out ho
  have up := driftOne_up s i
  have u1 := up.2.2.2.1.trans hn
  have u2 := up.2.2.2.2.2.1.trans hc
  have e0 : ∀ (j : It), i.same j -> (∀ x ∈ a.it, ¬ x.same j) /\ (∀ x ∈ q, ¬ x.same j) := fun j hj => ⟨fun x hx e => n1 x hx (by unfold It.same at *; omega), fun x hx e => n2 x hx (by unfold It.same at *; omega)⟩
  rw [List.foldl_cons, List.foldl_cons]
  by_cases c1 : nearB (addF i.pl i.sp) = false
  ·have e1 : s.driftOne i = { s with th := putTh s.th ⟨i.sh, i.nu, i.pl, negF i.sp⟩ } := if_pos c1
   have e2 : a.tickOne no cO i = { a with it := a.it ++ [⟨i.sh, i.nu, i.pl, negF i.sp⟩] } := if_pos c1
   rw [e1] at u1 u2 ⊢
   rw [e2]
   refine tick_both no cO q _ _ u1 u2 ?_ ?_ h1 h2
   ·simp only [List.append_assoc, List.singleton_append]
    exact put_old (i := i) hp ⟨rfl, rfl⟩ (e0 _ ⟨rfl, rfl⟩).1 (e0 _ ⟨rfl, rfl⟩).2
   ·simp only [List.append_assoc, List.singleton_append]
    exact ord_mid (i := i) ⟨rfl, rfl⟩ ho
  by_cases c2 : sideB (addF i.pl i.sp) = (no : Int)
  ·have e1 : s.driftOne i = { s with th := putTh s.th ⟨i.sh, i.nu, addF i.pl i.sp, i.sp⟩ } := by
    unfold Sh.driftOne
    rw [if_neg c1, hn, if_pos c2]
   have e2 : a.tickOne no cO i = { a with it := a.it ++ [⟨i.sh, i.nu, addF i.pl i.sp, i.sp⟩] } := by
    unfold Ds.tickOne
    rw [if_neg c1, if_pos c2]
   rw [e1] at u1 u2 ⊢
   rw [e2]
   refine tick_both no cO q _ _ u1 u2 ?_ ?_ h1 h2
   ·simp only [List.append_assoc, List.singleton_append]
    exact put_old (i := i) hp ⟨rfl, rfl⟩ (e0 _ ⟨rfl, rfl⟩).1 (e0 _ ⟨rfl, rfl⟩).2
   ·simp only [List.append_assoc, List.singleton_append]
    exact ord_mid (i := i) ⟨rfl, rfl⟩ ho
  have c3' : s.mayLeave = decide ((a.ob.length : Int) < cO /\ a.ms.s < 65535) := by unfold Sh.mayLeave; rw [h1, h2, hc]; simp
  by_cases c3 : (a.ob.length : Int) < cO /\ a.ms.s < 65535
  ·have e1 : s.driftOne i = s.leave ⟨i.sh, i.nu, addF i.pl i.sp, i.sp⟩ := by
    unfold Sh.driftOne
    rw [if_neg c1, hn, if_neg c2, c3', if_pos (decide_eq_true c3)]
   have e2 : a.tickOne no cO i = ⟨a.it, a.ob ++ [⟨a.ms.s + 1, ⟨i.sh, i.nu, addF i.pl i.sp, i.sp⟩⟩], { a.ms with s := a.ms.s + 1 }⟩ := by
    unfold Ds.tickOne
    rw [if_neg c1, if_neg c2, if_pos c3]
   rw [e1] at u1 u2 ⊢
   rw [e2]
   refine tick_both no cO q _ _ u1 u2 ?_ o2 ?_ ?_
   ·exact del_old (i := i) hp n1 n2
   ·show s.ob ++ [⟨s.ms.s + 1, _⟩] = _
    rw [h1, h2]
   ·show ({ s.ms with s := s.ms.s + 1 } : Mk) = _
    rw [h2]
  ·have e1 : s.driftOne i = s := by
    unfold Sh.driftOne
    rw [if_neg c1, hn, if_neg c2, c3', if_neg (by simpa using c3)]
   have e2 : a.tickOne no cO i = { a with it := a.it ++ [i] } := by
    unfold Ds.tickOne
    rw [if_neg c1, if_neg c2, if_neg c3]
   rw [e1, e2]
   refine tick_both no cO q _ _ hn hc ?_ ?_ h1 h2
   ·simpa using hp
   ·simpa using ho
theorem do_both {s : Sh} {r : Rc} (nd : s.th.Pairwise (fun a b => ¬ a.same b)) (hk : r.kind ≠ 6) (hn : r.kind = 1 ∨ r.kind = 4 -> ∀ x ∈ s.th, ¬ x.same r.it) : (s.doR r).ds = s.ds.doR s.no s.cO r := by
 unfold Sh.doR Ds.doR
 rw [if_neg hk]
 by_cases k1 : r.kind = 1
 ·rw [if_pos k1, if_pos k1]
  show (⟨srtTh (putTh s.th r.it), _, _⟩ : Ds) = _
  rw [srt_new nd (hn (.inl k1))]
  rfl
 rw [if_neg k1, if_neg k1]
 by_cases k2 : r.kind = 2
 ·rw [if_pos k2, if_pos k2]
  show (⟨srtTh (delTh s.th _ _), _, _⟩ : Ds) = _
  rw [srt_del nd]
  rfl
 rw [if_neg k2, if_neg k2]
 by_cases k3 : r.kind = 3
 ·rw [if_pos k3, if_pos k3]
  exact tick_both s.no s.cO (srtTh s.th) s ⟨[], s.ob, s.ms⟩ rfl rfl (srtTh_perm s.th).symm (srtTh_ord nd) rfl rfl
 rw [if_neg k3, if_neg k3]
 by_cases k4 : r.kind = 4
 ·rw [if_pos k4, if_pos k4]
  show (⟨srtTh (putTh s.th r.it), _, _⟩ : Ds) = _
  rw [srt_new nd (hn (.inr k4))]
  rfl
 rw [if_neg k4, if_neg k4]
 by_cases k5 : r.kind = 5
 ·rw [if_pos k5, if_pos k5]
  rfl
 rw [if_neg k5, if_neg k5]
structure HasD (no : Nat) (cI cO : Int) (d : Ds) : Prop where
 ord : Ord d.it
 it : ∀ x ∈ d.it, itB x = true /\ WfIt x
 tl : (d.it.length : Int) <= cI
 ol : (d.ob.length : Int) <= cO
 en : ∀ e ∈ d.ob, itB e.it = true /\ WfIt e.it /\ e.sq <= d.ms.s
 oc : chkE 0 d.ob = true
 mo : MkOk d.ms
 mi : ∀ x ∈ d.it, x.sh = (no : Int) -> x.nu <= d.ms.m
theorem chkE_app : ∀ (es : List En) (l : Int) (e : En), chkE l es = true -> l < e.sq -> (∀ x ∈ es, x.sq < e.sq) -> isN e.sq = true -> itB e.it = true -> chkE l (es ++ [e]) = true
 | [], l, e, _, h2, _, h4, h5 => by
  show (decide (l < e.sq) && isN e.sq && itB e.it && true) = true
  rw [decide_eq_true h2, h4, h5]; rfl
 | x :: t, l, e, h1, _, h3, h4, h5 => by
  have h1' : (decide (l < x.sq) && isN x.sq && itB x.it && chkE x.sq t) = true := h1
  simp only [Bool.and_eq_true] at h1'
  show (decide (l < x.sq) && isN x.sq && itB x.it && chkE x.sq (t ++ [e])) = true
  rw [h1'.1.1.1, h1'.1.1.2, h1'.1.2, chkE_app t x.sq e h1'.2 (h3 x (.head _)) (fun y hy => h3 y (.tail _ hy)) h4 h5]
  rfl
theorem HasD.repl {no : Nat} {cI cO : Int} {p q : List It} {i j : It} {ob : List En} {ms : Mk} (h : HasD no cI cO ⟨p ++ i :: q, ob, ms⟩) (hs : i.same j) (hj : itB j = true /\ WfIt j) : HasD no cI cO ⟨p ++ j :: q, ob, ms⟩ := by
 have key : ∀ x, x ∈ p ++ j :: q -> x = j ∨ x ∈ p ++ i :: q := fun x hx => by
  simp only [List.mem_append, List.mem_cons] at hx ⊢
  rcases hx with h | h | h
  ·exact .inr (.inl h)
  ·exact .inl h
  ·exact .inr (.inr (.inr h))
 refine ⟨ord_mid hs h.ord, fun x hx => ?_, by have := h.tl; simpa using this, h.ol, h.en, h.oc, h.mo, fun x hx e => ?_⟩
 ·rcases key x hx with rfl | hx
  ·exact hj
  ·exact h.it x hx
 ·rcases key x hx with rfl | hx
  ·unfold It.same at hs
   have : i.nu <= ms.m := h.mi i (by simp) (by omega)
   show x.nu <= ms.m
   omega
  ·exact h.mi x hx e
theorem it_parts {i : It} (h : itB i = true) : idB i.sh i.nu = true /\ nearB i.pl = true /\ nearB i.sp = true := by
 simp only [itB, Bool.and_eq_true] at h
 exact ⟨h.1.1, h.1.2, h.2⟩
theorem HasD.tickOne {no : Nat} {cI cO : Int} {a : Ds} {i : It} {q : List It} (h : HasD no cI cO ⟨a.it ++ i :: q, a.ob, a.ms⟩) : HasD no cI cO ⟨(a.tickOne no cO i).it ++ q, (a.tickOne no cO i).ob, (a.tickOne no cO i).ms⟩ := by
 obtain ⟨hi, wi⟩ := h.it i (by simp)
 obtain ⟨b1, b2, b3⟩ := it_parts hi
 have al := addF_lt b2 b3
 unfold Ds.tickOne
 by_cases c1 : nearB (addF i.pl i.sp) = false
 ·rw [if_pos c1]
  simp only [List.append_assoc, List.singleton_append]
  exact h.repl (i := i) ⟨rfl, rfl⟩ ⟨by simp only [itB]; rw [b1, b2, near_neg wi.s b3]; rfl, wi.p, negF_lt wi.s⟩
 rw [if_neg c1]
 have c1' : nearB (addF i.pl i.sp) = true := by simpa using c1
 have hj : itB ⟨i.sh, i.nu, addF i.pl i.sp, i.sp⟩ = true /\ WfIt ⟨i.sh, i.nu, addF i.pl i.sp, i.sp⟩ := ⟨by simp only [itB]; rw [b1, c1', b3]; rfl, al, wi.s⟩
 by_cases c2 : sideB (addF i.pl i.sp) = (no : Int)
 ·rw [if_pos c2]
  simp only [List.append_assoc, List.singleton_append]
  exact h.repl (i := i) ⟨rfl, rfl⟩ hj
 rw [if_neg c2]
 by_cases c3 : (a.ob.length : Int) < cO /\ a.ms.s < 65535
 ·rw [if_pos c3]
  have m0 := h.mo.s0
  have sub : ∀ x, x ∈ a.it ++ q -> x ∈ a.it ++ i :: q := fun x hx => by
   simp only [List.mem_append, List.mem_cons] at hx ⊢
   rcases hx with h | h
   ·exact .inl h
   ·exact .inr (.inr h)
  refine ⟨(ord_out h.ord).2.2, fun x hx => h.it x (sub x hx), ?_, ?_, fun e he => ?_, ?_, ⟨h.mo.g0, h.mo.g1, h.mo.m0, h.mo.m1, ?_, ?_, h.mo.a0, h.mo.a1, h.mo.n0, h.mo.n1⟩, fun x hx hs => h.mi x (sub x hx) hs⟩
  ·have := h.tl
   simp at this ⊢
   omega
  ·show (((a.ob ++ [_]).length : Nat) : Int) <= cO
   rw [List.length_append]
   simp only [List.length_singleton]
   omega
  ·rcases List.mem_append.1 he with he | he
   ·have := h.en e he
    exact ⟨this.1, this.2.1, by have := this.2.2; show e.sq <= a.ms.s + 1; simp only at this; omega⟩
   ·obtain rfl := List.mem_singleton.1 he
    exact ⟨hj.1, hj.2, Int.le_refl _⟩
  ·refine chkE_app _ _ _ h.oc (by show (0 : Int) < a.ms.s + 1; simp only at m0; omega) (fun x hx => by have := (h.en x hx).2.2; show x.sq < a.ms.s + 1; simp only at this; omega) ?_ hj.1
   show isN (a.ms.s + 1) = true
   simp only at m0
   simp [isN]; omega
  ·show 0 <= a.ms.s + 1
   simp only at m0
   omega
  ·show a.ms.s + 1 <= 65535
   omega
 ·rw [if_neg c3]
  simpa using h
theorem HasD.ticks {no : Nat} {cI cO : Int} : ∀ (q : List It) (a : Ds), HasD no cI cO ⟨a.it ++ q, a.ob, a.ms⟩ -> HasD no cI cO (q.foldl (Ds.tickOne no cO) a)
 | [], a, h => by simpa using h
 | i :: q, a, h => by
  rw [List.foldl_cons]
  exact HasD.ticks q _ h.tickOne
theorem HasD.tick {no : Nat} {cI cO : Int} {d : Ds} (h : HasD no cI cO d) : HasD no cI cO (d.tick no cO) :=
 HasD.ticks d.it ⟨[], d.ob, d.ms⟩ h
structure DOk (no : Nat) (cI : Int) (d : Ds) (r : Rc) : Prop where
 kind : r.kind = 1 ∨ r.kind = 2 ∨ r.kind = 3 ∨ r.kind = 4 ∨ r.kind = 5
 mint : r.kind = 1 -> r.it.sh = (no : Int) /\ r.it.nu = d.ms.m + 1 /\ d.ms.m < 65535 /\ (d.it.length : Int) < cI /\ itB r.it = true /\ WfIt r.it
 dest : r.kind = 2 -> ∃ x ∈ d.it, x.same r.it
 ids : i64B r.it.sh /\ i64B r.it.nu
 arr : r.kind = 4 -> r.seq = d.ms.n + 1 /\ d.ms.n < 65535 /\ (d.it.length : Int) < cI /\ itB r.it = true /\ WfIt r.it /\ (∀ x ∈ d.it, ¬ x.same r.it) /\ (r.it.sh = (no : Int) -> r.it.nu <= d.ms.m)
 ack : r.kind = 5 -> d.ms.a < r.seq /\ r.seq <= d.ms.s
theorem HasD.none {no : Nat} {cI cO : Int} {d : Ds} {r : Rc} (h : HasD no cI cO d) (ok : DOk no cI d r) (h1 : r.kind = 1 ∨ r.kind = 4) : ∀ x ∈ d.it, ¬ x.same r.it := fun x hx e => by
 rcases h1 with h1 | h1
 ·obtain ⟨a1, a2, _⟩ := ok.mint h1
  unfold It.same at e
  have := h.mi x hx (by omega)
  omega
 ·exact (ok.arr h1).2.2.2.2.2.1 x hx e
theorem chkE_mono : ∀ (es : List En) {l m : Int}, chkE m es = true -> l <= m -> chkE l es = true
 | [], _, _, _, _ => rfl
 | e :: t, l, m, h, hl => by
  have h' : (decide (m < e.sq) && isN e.sq && itB e.it && chkE e.sq t) = true := h
  simp only [Bool.and_eq_true] at h'
  show (decide (l < e.sq) && isN e.sq && itB e.it && chkE e.sq t) = true
  have := of_decide_eq_true h'.1.1.1
  rw [decide_eq_true (by omega : l < e.sq), h'.1.1.2, h'.1.2, h'.2]
  rfl
theorem chkE_filter (p : En -> Bool) : ∀ (es : List En) {l : Int}, chkE l es = true -> chkE l (es.filter p) = true
 | [], _, _ => rfl
 | e :: t, l, h => by
  have h' : (decide (l < e.sq) && isN e.sq && itB e.it && chkE e.sq t) = true := h
  simp only [Bool.and_eq_true] at h'
  have hl := of_decide_eq_true h'.1.1.1
  cases hp : p e
  ·rw [List.filter_cons_of_neg (by simp [hp])]
   exact chkE_mono _ (chkE_filter p t h'.2) (by omega)
  ·rw [List.filter_cons_of_pos (by simp [hp])]
   show (decide (l < e.sq) && isN e.sq && itB e.it && chkE e.sq (t.filter p)) = true
   rw [h'.1.1.1, h'.1.1.2, h'.1.2, chkE_filter p t h'.2]
   rfl
theorem keepE_mem {q : Int} {es : List En} {e : En} (h : e ∈ keepE q es) : e ∈ es /\ q < e.sq := by
 obtain ⟨h1, h2⟩ := List.mem_filter.1 h
 refine ⟨h1, ?_⟩
 simp only [gone, Bool.not_eq_true', decide_eq_false_iff_not] at h2
 omega
theorem HasD.doR {no : Nat} {cI cO : Int} {d : Ds} {r : Rc} (h : HasD no cI cO d) (ok : DOk no cI d r) : HasD no cI cO (d.doR no cO r) := by
 unfold Ds.doR
 have mem : ∀ x, x ∈ insI r.it d.it -> x = r.it ∨ x ∈ d.it := fun x hx => by simpa using (insI_perm r.it d.it).mem_iff.1 hx
 have len := (insI_perm r.it d.it).length_eq
 rcases ok.kind with k | k | k | k | k
 ·rw [if_pos k]
  obtain ⟨a1, a2, a3, a4, a5, a6⟩ := ok.mint k
  have nn := h.none ok (.inl k)
  have m0 := h.mo.m0
  refine ⟨insI_ord h.ord nn, fun x hx => ?_, ?_, h.ol, h.en, h.oc, ⟨h.mo.g0, h.mo.g1, ?_, ?_, h.mo.s0, h.mo.s1, h.mo.a0, h.mo.a1, h.mo.n0, h.mo.n1⟩, fun x hx hs => ?_⟩
  ·rcases mem x hx with rfl | hx
   ·exact ⟨a5, a6⟩
   ·exact h.it x hx
  ·simp only [len, List.length_cons]
   omega
  ·show 0 <= r.it.nu
   omega
  ·show r.it.nu <= 65535
   omega
  ·show x.nu <= r.it.nu
   rcases mem x hx with rfl | hx
   ·exact Int.le_refl _
   ·have := h.mi x hx hs
    omega
 ·rw [if_neg (by omega), if_pos k]
  refine ⟨List.Pairwise.filter _ h.ord, fun x hx => h.it x (List.mem_filter.1 hx).1, ?_, h.ol, h.en, h.oc, h.mo, fun x hx hs => h.mi x (List.mem_filter.1 hx).1 hs⟩
  have : (delTh d.it r.it.sh r.it.nu).length <= d.it.length := List.length_filter_le ..
  have := h.tl
  show ((delTh d.it r.it.sh r.it.nu).length : Int) <= cI
  omega
 ·rw [if_neg (by omega), if_neg (by omega), if_pos k]
  exact h.tick
 ·rw [if_neg (by omega), if_neg (by omega), if_neg (by omega), if_pos k]
  obtain ⟨a1, a2, a3, a4, a5, a6, a7⟩ := ok.arr k
  have n0 := h.mo.n0
  refine ⟨insI_ord h.ord a6, fun x hx => ?_, ?_, h.ol, h.en, h.oc, ⟨h.mo.g0, h.mo.g1, h.mo.m0, h.mo.m1, h.mo.s0, h.mo.s1, h.mo.a0, h.mo.a1, ?_, ?_⟩, fun x hx hs => ?_⟩
  ·rcases mem x hx with rfl | hx
   ·exact ⟨a4, a5⟩
   ·exact h.it x hx
  ·simp only [len, List.length_cons]
   omega
  ·show 0 <= r.seq
   omega
  ·show r.seq <= 65535
   omega
  ·rcases mem x hx with rfl | hx
   ·exact a7 hs
   ·exact h.mi x hx hs
 ·rw [if_neg (by omega), if_neg (by omega), if_neg (by omega), if_neg (by omega), if_pos k]
  obtain ⟨a1, a2⟩ := ok.ack k
  have s1 := h.mo.s1
  have a0 := h.mo.a0
  refine ⟨h.ord, h.it, h.tl, ?_, fun e he => h.en e (keepE_mem he).1, chkE_filter _ _ h.oc, ⟨h.mo.g0, h.mo.g1, h.mo.m0, h.mo.m1, h.mo.s0, h.mo.s1, ?_, ?_, h.mo.n0, h.mo.n1⟩, h.mi⟩
  ·have : (keepE r.seq d.ob).length <= d.ob.length := List.length_filter_le ..
   have := h.ol
   show ((keepE r.seq d.ob).length : Int) <= cO
   omega
  ·show 0 <= r.seq
   omega
  ·show r.seq <= 65535
   omega
def dsOf (no : Nat) (cO : Int) : List Rc -> Ds
 | [] => ⟨[], [], mk0⟩
 | b :: t => t.foldl (Ds.doR no cO) ⟨b.items, b.outs, b.mks⟩
theorem dsOf_snoc {no : Nat} {cO : Int} {rs : List Rc} (h : 0 < rs.length) (r : Rc) : dsOf no cO (rs ++ [r]) = (dsOf no cO rs).doR no cO r := by
 cases rs with
 | nil => simp at h
 | cons b t => show (t ++ [r]).foldl _ _ = _; rw [List.foldl_append]; rfl
def Rp (no : Nat) (cI cO : Int) (rs : List Rc) (d : Ds) : Prop :=
 ∃ b t, rs = b :: t /\ b.kind = 6 /\ HasD no cI cO ⟨b.items, b.outs, b.mks⟩ /\ d = dsOf no cO rs /\ ∀ k (hk : k < t.length), DOk no cI (dsOf no cO (b :: t.take k)) t[k]
theorem Rp.base {no : Nat} {cI cO : Int} (b : Rc) (hk : b.kind = 6) (h : HasD no cI cO ⟨b.items, b.outs, b.mks⟩) : Rp no cI cO [b] ⟨b.items, b.outs, b.mks⟩ :=
 ⟨b, [], rfl, hk, h, rfl, fun k hk => by simp at hk⟩
theorem Rp.snoc {no : Nat} {cI cO : Int} {rs : List Rc} {d : Ds} (r : Rc) (h : Rp no cI cO rs d) (ok : DOk no cI d r) : Rp no cI cO (rs ++ [r]) (d.doR no cO r) := by
 obtain ⟨b, t, rfl, h1, h2, rfl, h3⟩ := h
 refine ⟨b, t ++ [r], rfl, h1, h2, (dsOf_snoc (by simp) r).symm, fun k hk => ?_⟩
 simp only [List.length_append, List.length_singleton] at hk
 by_cases hl : k < t.length
 ·rw [List.take_append_of_le_length (by omega), List.getElem_append_left hl]
  exact h3 k hl
 ·obtain rfl : k = t.length := by omega
  rw [List.take_left]
  simpa using ok
theorem Rp.ind {no : Nat} {cI cO : Int} {motive : List Rc -> Ds -> Prop} (base : ∀ (b : Rc), b.kind = 6 -> HasD no cI cO ⟨b.items, b.outs, b.mks⟩ -> motive [b] ⟨b.items, b.outs, b.mks⟩)
  (snoc : ∀ {rs : List Rc} {d : Ds} (r : Rc), Rp no cI cO rs d -> DOk no cI d r -> motive rs d -> motive (rs ++ [r]) (d.doR no cO r)) {rs : List Rc} {d : Ds} (h : Rp no cI cO rs d) : motive rs d := by
 obtain ⟨b, t, rfl, h1, h2, rfl, h3⟩ := h
 have key : ∀ n, n <= t.length -> Rp no cI cO (b :: t.take n) (dsOf no cO (b :: t.take n)) /\ motive (b :: t.take n) (dsOf no cO (b :: t.take n)) := by
  intro n
  induction n with
  | zero => exact fun _ => ⟨Rp.base b h1 h2, base b h1 h2⟩
  | succ n ih =>
   intro hn
   obtain ⟨i1, i2⟩ := ih (by omega)
   have e : b :: t.take (n + 1) = (b :: t.take n) ++ [t[n]] := by rw [List.take_succ_eq_append_getElem (by omega)]; rfl
   rw [e, dsOf_snoc (by simp)]
   exact ⟨Rp.snoc _ i1 (h3 n (by omega)), snoc _ i1 (h3 n (by omega)) i2⟩
 have := (key t.length (Nat.le_refl _)).2
 rwa [List.take_length] at this
theorem tick_g (no : Nat) (cO : Int) : ∀ (q : List It) (a : Ds), (q.foldl (Ds.tickOne no cO) a).ms.g = a.ms.g
 | [], a => rfl
 | i :: q, a => by
  rw [List.foldl_cons, tick_g no cO q]
  unfold Ds.tickOne
  split
  ·rfl
  split
  ·rfl
  split <;> rfl
theorem doR_g (no : Nat) (cO : Int) (d : Ds) (r : Rc) : (d.doR no cO r).ms.g = d.ms.g := by
 unfold Ds.doR
 split
 ·rfl
 split
 ·rfl
 split
 ·exact tick_g no cO _ _
 split
 ·rfl
 split <;> rfl
theorem Rp.facts {no : Nat} {cI cO : Int} {rs : List Rc} {d : Ds} (h : Rp no cI cO rs d) : 0 < rs.length /\ d = dsOf no cO rs /\ HasD no cI cO d /\ genOf rs = d.ms.g := by
 refine Rp.ind (motive := fun rs d => 0 < rs.length /\ d = dsOf no cO rs /\ HasD no cI cO d /\ genOf rs = d.ms.g) ?_ ?_ h
 ·intro b hk h
  exact ⟨by simp, rfl, h, by show (if b.kind = 6 then _ else _) = _; rw [if_pos hk]⟩
 ·intro rs d r h ok ih
  obtain ⟨a1, a2, a3, a4⟩ := ih
  refine ⟨by simp, by rw [dsOf_snoc a1, a2], a3.doR ok, ?_⟩
  rw [doR_g, <- a4]
  cases rs with
  | nil => simp at a1
  | cons b t => rfl
theorem Rp.at {no : Nat} {cI cO : Int} {rs : List Rc} {d : Ds} (h : Rp no cI cO rs d) : ∀ k, 0 < k -> k < rs.length -> ∃ hk : k < rs.length, Rp no cI cO (rs.take k) (dsOf no cO (rs.take k)) /\ DOk no cI (dsOf no cO (rs.take k)) rs[k] := by
 obtain ⟨b, t, rfl, h1, h2, _, h3⟩ := h
 intro k k1 k2
 obtain ⟨m, rfl⟩ : ∃ m, k = m + 1 := ⟨k - 1, by omega⟩
 have hm : m < t.length := by simpa using k2
 refine ⟨k2, ⟨b, t.take m, rfl, h1, h2, rfl, fun i hi => ?_⟩, h3 m hm⟩
 rw [List.length_take] at hi
 rw [List.take_take, Nat.min_eq_left (by omega), List.getElem_take]
 exact h3 i (by omega)
theorem Rp.head {no : Nat} {cI cO : Int} {rs : List Rc} {d : Ds} (h : Rp no cI cO rs d) : ∃ b t, rs = b :: t /\ b.kind = 6 /\ HasD no cI cO ⟨b.items, b.outs, b.mks⟩ := by
 obtain ⟨b, t, e, h1, h2, _⟩ := h
 exact ⟨b, t, e, h1, h2⟩
theorem puts_ord : ∀ (is l : List It), (l ++ is).Pairwise (fun a b => ¬ a.same b) -> is.foldl putTh l = l ++ is
 | [], l, _ => by simp
 | i :: t, l, h => by
  rw [List.foldl_cons, put_new, puts_ord t (l ++ [i]) (by simpa using h)]
  ·simp
  ·rw [List.pairwise_append] at h
   exact fun x hx => h.2.2 x hx i (.head _)
theorem id_i64 {s n : Int} (h : idB s n = true) : i64B s /\ i64B n := by
 have := idB_ok h
 unfold i64B
 omega
theorem HasD.sh {s : Sh} (h : HasD s.no s.cI s.cO s.ds) (hI : s.cI <= 16) (hO : s.cO <= 8) : DrInv s /\ s.th.length <= 1000 /\ (∀ x ∈ s.th, nearB x.pl = true /\ nearB x.sp = true) /\ (∀ x ∈ s.th, i64B x.sh /\ i64B x.nu) := by
 have len : s.ds.it.length = s.th.length := (srtTh_perm s.th).length_eq
 have mem : ∀ x ∈ s.th, x ∈ s.ds.it := fun x hx => (srtTh_perm s.th).mem_iff.2 hx
 have tl := h.tl
 have ol : ((s.ob.length : Nat) : Int) <= s.cO := h.ol
 refine ⟨⟨by omega, by omega, h.mo.s0, h.mo.s1⟩, by omega, fun x hx => ?_, fun x hx => ?_⟩
 ·exact (it_parts (h.it x (mem x hx)).1).2
 ·exact id_i64 (it_parts (h.it x (mem x hx)).1).1
theorem DOk.sh {s : Sh} {r : Rc} (h : HasD s.no s.cI s.cO s.ds) (hI : s.cI <= 16) (hO : s.cO <= 8) (ok : DOk s.no s.cI s.ds r) : DoOk s r := by
 obtain ⟨a1, a2, a3, _⟩ := h.sh hI hO
 exact ⟨ok.kind, ok.ids, fun _ => ⟨a1, a2, a3⟩, fun _ => by have ol : ((s.ob.length : Nat) : Int) <= s.cO := h.ol; omega⟩
theorem doR_nd {s : Sh} {r : Rc} (nd : s.th.Pairwise (fun a b => ¬ a.same b)) (h : HasD s.no s.cI s.cO s.ds) (ok : DOk s.no s.cI s.ds r) : (s.doR r).th.Pairwise (fun a b => ¬ a.same b) /\ (s.doR r).ds = s.ds.doR s.no s.cO r := by
 have mem : ∀ x ∈ s.th, x ∈ s.ds.it := fun x hx => (srtTh_perm s.th).mem_iff.2 hx
 have k6 : r.kind ≠ 6 := by have := ok.kind; omega
 have hn : r.kind = 1 ∨ r.kind = 4 -> ∀ x ∈ s.th, ¬ x.same r.it := fun k x hx => h.none ok k x (mem x hx)
 have db := do_both nd k6 hn
 refine ⟨?_, db⟩
 have hh := h.doR ok
 rw [<- db] at hh
 exact nd_perm (srtTh_perm _).symm (hh.ord.imp lt_ne)
structure DkEq (d e : Dk) : Prop where
 f0 : e.f0 = d.f0
 l0 : e.l0 = d.l0
 f1 : e.f1 = d.f1
 l1 : e.l1 = d.l1
 un : e.un = d.un
 kp : d.un ≠ 0 -> e.kp = d.kp
theorem DkEq.crash {d e : Dk} (h : DkEq d e) (k x : Int) : DkEq (d.crash k) { e.crash k with kp := x } := by
 obtain ⟨a, b, c, g, _, _⟩ := h
 unfold Dk.crash
 simp only [a, b, c, g]
 exact ⟨rfl, rfl, rfl, rfl, rfl, fun h => absurd rfl h⟩
theorem DkEq.act {d e : Dk} (h : DkEq d e) (x : Int) : e.act.2 = d.act.2 /\ (d.act.2 = true -> DkEq d.act.1 e.act.1) /\ (d.act.2 = false -> DkEq d.act.1 { e.act.1 with kp := x }) := by
 unfold Dk.act
 rw [h.un]
 by_cases h0 : d.un = 0
 ·rw [if_pos h0, if_pos h0]
  exact ⟨rfl, fun _ => h, fun h => absurd h (by simp)⟩
 rw [if_neg h0, if_neg h0]
 by_cases h1 : d.un = 1
 ·rw [if_pos h1, if_pos h1, h.kp h0]
  exact ⟨rfl, fun h => absurd h (by simp), fun _ => h.crash _ _⟩
 rw [if_neg h1, if_neg h1]
 exact ⟨rfl, fun _ => ⟨h.f0, h.l0, h.f1, h.l1, rfl, fun _ => h.kp h0⟩, fun h => absurd h (by simp)⟩
theorem DkEq.file {d e : Dk} (h : DkEq d e) (c : Nat) : e.file c = d.file c := by
 unfold Dk.file
 rw [h.f0, h.f1]
theorem DkEq.put {d e : Dk} (h : DkEq d e) (c : Nat) (l : List UInt8) (m : Nat) : DkEq (d.put c l m) (e.put c l m) := by
 unfold Dk.put
 split
 ·exact ⟨rfl, rfl, h.f1, h.l1, h.un, h.kp⟩
 ·exact ⟨h.f0, h.l0, rfl, rfl, h.un, h.kp⟩
theorem DkEq.append {d e : Dk} (h : DkEq d e) (c : Nat) (p : List UInt8) (x : Int) : (e.append c p).2 = (d.append c p).2 /\ ((d.append c p).2 = true -> DkEq (d.append c p).1 (e.append c p).1) /\ ((d.append c p).2 = false -> DkEq (d.append c p).1 { (e.append c p).1 with kp := x }) := by
 unfold Dk.append
 refine DkEq.act ?_ x
 split
 ·exact ⟨by rw [h.f0], h.l0, h.f1, h.l1, h.un, h.kp⟩
 ·exact ⟨h.f0, h.l0, by rw [h.f1], h.l1, h.un, h.kp⟩
theorem DkEq.sync {d e : Dk} (h : DkEq d e) (c : Nat) (x : Int) : (e.sync c).2 = (d.sync c).2 /\ ((d.sync c).2 = true -> DkEq (d.sync c).1 (e.sync c).1) /\ ((d.sync c).2 = false -> DkEq (d.sync c).1 { (e.sync c).1 with kp := x }) := by
 obtain ⟨a1, a2, a3⟩ := h.act x
 unfold Dk.sync
 rw [a1]
 cases hc : d.act.2
 ·simp only [Bool.false_eq_true, if_false]
  exact ⟨trivial, fun h => absurd h (by simp), fun _ => a3 hc⟩
 ·simp only [if_true]
  refine ⟨trivial, fun _ => ?_, fun h => absurd h (by simp)⟩
  have := a2 hc
  rw [this.file c]
  exact this.put _ _ _
theorem DkEq.cut {d e : Dk} (h : DkEq d e) (c : Nat) (x : Int) : (e.cut c).2 = (d.cut c).2 /\ ((d.cut c).2 = true -> DkEq (d.cut c).1 (e.cut c).1) /\ ((d.cut c).2 = false -> DkEq (d.cut c).1 { (e.cut c).1 with kp := x }) := by
 obtain ⟨a1, a2, a3⟩ := h.act x
 unfold Dk.cut
 rw [a1]
 cases hc : d.act.2
 ·simp only [Bool.false_eq_true, if_false]
  exact ⟨trivial, fun h => absurd h (by simp), fun _ => a3 hc⟩
 ·simp only [if_true]
  exact ⟨trivial, fun _ => (a2 hc).put _ _ _, fun h => absurd h (by simp)⟩
structure Wh (d : Dk) (c : Nat) (F G : List UInt8) : Prop where
 f : d.file c = F
 g : d.file (1 - c) = G
 l0 : d.l0 = d.f0.length
 l1 : d.l1 = d.f1.length
theorem take_left (f p : List UInt8) (k : Int) : (f ++ p).take (left (f ++ p) f.length k) = f ++ p.take (min k.toNat p.length) /\ left (f ++ p) f.length k = (f ++ p.take (min k.toNat p.length)).length := by
 have e : left (f ++ p) f.length k = f.length + min k.toNat p.length := by
  unfold left
  rw [List.length_append, Nat.add_sub_cancel_left]
 rw [e]
 constructor
 ·rw [List.take_append, List.take_of_length_le (Nat.le_add_right ..), Nat.add_sub_cancel_left]
 ·rw [List.length_append, List.length_take]
  omega
theorem take_all (f : List UInt8) (k : Int) : f.take (left f f.length k) = f /\ left f f.length k = f.length := by
 have e : left f f.length k = f.length := by unfold left; omega
 rw [e]
 exact ⟨List.take_length, rfl⟩
theorem Wh.crash {d : Dk} {c : Nat} {F G : List UInt8} (hc : c < 2) (h : Wh d c F G) (k : Int) : Wh (d.crash k) c F G := by
 obtain ⟨f0, l0, f1, l1, un, kp⟩ := d
 obtain ⟨hf, hg, h0, h1⟩ := h
 simp only at h0 h1
 subst h0 h1
 have a0 := take_all f0 k
 have a1 := take_all f1 k
 rcases (by omega : c = 0 ∨ c = 1) with rfl | rfl <;> simp only [Dk.file] at hf hg <;> simp at hf hg <;> subst hf hg
 all_goals exact ⟨by simp [Dk.file, Dk.crash, a0, a1], by simp [Dk.file, Dk.crash, a0, a1], by simp [Dk.crash, a0, a1], by simp [Dk.crash, a0, a1]⟩
theorem Wh.appended {d : Dk} {c : Nat} {F G : List UInt8} (hc : c < 2) (h : Wh d c F G) (p : List UInt8) :
  ((d.append c p).2 = false -> ∃ j, j <= p.length /\ Wh (d.append c p).1 c (F ++ p.take j) G) ∧
  ((d.append c p).2 = true -> (((d.append c p).1.sync c).2 = false -> ∃ j, j <= p.length /\ Wh ((d.append c p).1.sync c).1 c (F ++ p.take j) G) /\ (((d.append c p).1.sync c).2 = true -> Wh ((d.append c p).1.sync c).1 c (F ++ p) G)) := by
 obtain ⟨f0, l0, f1, l1, un, kp⟩ := d
 obtain ⟨hf, hg, h0, h1⟩ := h
 simp only at h0 h1
 subst h0 h1
 have aa0 := take_all f0 kp
 have aa1 := take_all f1 kp
 have ab0 := take_left f0 p kp
 have ab1 := take_left f1 p kp
 have mj : min kp.toNat p.length <= p.length := Nat.min_le_right ..
 rcases (by omega : c = 0 ∨ c = 1) with rfl | rfl <;> simp only [Dk.file] at hf hg <;> simp at hf hg <;> subst hf hg
 ·by_cases u0 : un = 0
  ·subst u0
   have e1 : (Dk.mk f0 f0.length f1 f1.length 0 kp).append 0 p = (Dk.mk (f0 ++ p) f0.length f1 f1.length 0 kp, true) := rfl
   rw [e1]
   have e2 : (Dk.mk (f0 ++ p) f0.length f1 f1.length 0 kp).sync 0 = (Dk.mk (f0 ++ p) (f0 ++ p).length f1 f1.length 0 kp, true) := rfl
   simp only [e2]
   exact ⟨fun h => absurd h (by simp), fun _ => ⟨fun h => absurd h (by simp), fun _ => ⟨rfl, rfl, rfl, rfl⟩⟩⟩
  by_cases u1 : un = 1
  ·subst u1
   have e1 : (Dk.mk f0 f0.length f1 f1.length 1 kp).append 0 p = ((Dk.mk (f0 ++ p) f0.length f1 f1.length 1 kp).crash kp, false) := rfl
   rw [e1]
   refine ⟨fun _ => ⟨_, mj, ?_⟩, fun h => absurd h (by simp)⟩
   exact ⟨ab0.1, aa1.1, by show left _ _ _ = (List.take _ _).length; rw [ab0.1]; exact ab0.2, by show left _ _ _ = (List.take _ _).length; rw [aa1.1]; exact aa1.2⟩
  have e1 : (Dk.mk f0 f0.length f1 f1.length un kp).append 0 p = (Dk.mk (f0 ++ p) f0.length f1 f1.length (un - 1) kp, true) := by simp [Dk.append, Dk.act, u0, u1]
  rw [e1]
  refine ⟨fun h => absurd h (by simp), fun _ => ?_⟩
  by_cases u2 : un = 2
  ·subst u2
   have e2 : (Dk.mk (f0 ++ p) f0.length f1 f1.length (2 - 1) kp).sync 0 = ((Dk.mk (f0 ++ p) f0.length f1 f1.length 1 kp).crash kp, false) := rfl
   simp only [e2]
   refine ⟨fun _ => ⟨_, mj, ?_⟩, fun h => absurd h (by simp)⟩
   exact ⟨ab0.1, aa1.1, by show left _ _ _ = (List.take _ _).length; rw [ab0.1]; exact ab0.2, by show left _ _ _ = (List.take _ _).length; rw [aa1.1]; exact aa1.2⟩
  ·have e2 : (Dk.mk (f0 ++ p) f0.length f1 f1.length (un - 1) kp).sync 0 = (Dk.mk (f0 ++ p) (f0 ++ p).length f1 f1.length (un - 1 - 1) kp, true) := by
    have z0 : ¬ un - 1 = 0 := by omega
    have z1 : ¬ un - 1 = 1 := by omega
    simp [Dk.sync, Dk.act, z0, z1, Dk.put, Dk.file]
   simp only [e2]
   exact ⟨fun h => absurd h (by simp), fun _ => ⟨rfl, rfl, rfl, rfl⟩⟩
 ·by_cases u0 : un = 0
  ·subst u0
   have e1 : (Dk.mk f0 f0.length f1 f1.length 0 kp).append 1 p = (Dk.mk f0 f0.length (f1 ++ p) f1.length 0 kp, true) := rfl
   rw [e1]
   have e2 : (Dk.mk f0 f0.length (f1 ++ p) f1.length 0 kp).sync 1 = (Dk.mk f0 f0.length (f1 ++ p) (f1 ++ p).length 0 kp, true) := rfl
   simp only [e2]
   exact ⟨fun h => absurd h (by simp), fun _ => ⟨fun h => absurd h (by simp), fun _ => ⟨rfl, rfl, rfl, rfl⟩⟩⟩
  by_cases u1 : un = 1
  ·subst u1
   have e1 : (Dk.mk f0 f0.length f1 f1.length 1 kp).append 1 p = ((Dk.mk f0 f0.length (f1 ++ p) f1.length 1 kp).crash kp, false) := rfl
   rw [e1]
   refine ⟨fun _ => ⟨_, mj, ?_⟩, fun h => absurd h (by simp)⟩
   exact ⟨ab1.1, aa0.1, by show left _ _ _ = (List.take _ _).length; rw [aa0.1]; exact aa0.2, by show left _ _ _ = (List.take _ _).length; rw [ab1.1]; exact ab1.2⟩
  have e1 : (Dk.mk f0 f0.length f1 f1.length un kp).append 1 p = (Dk.mk f0 f0.length (f1 ++ p) f1.length (un - 1) kp, true) := by simp [Dk.append, Dk.act, u0, u1]
  rw [e1]
  refine ⟨fun h => absurd h (by simp), fun _ => ?_⟩
  by_cases u2 : un = 2
  ·subst u2
   have e2 : (Dk.mk f0 f0.length (f1 ++ p) f1.length (2 - 1) kp).sync 1 = ((Dk.mk f0 f0.length (f1 ++ p) f1.length 1 kp).crash kp, false) := rfl
   simp only [e2]
   refine ⟨fun _ => ⟨_, mj, ?_⟩, fun h => absurd h (by simp)⟩
   exact ⟨ab1.1, aa0.1, by show left _ _ _ = (List.take _ _).length; rw [aa0.1]; exact aa0.2, by show left _ _ _ = (List.take _ _).length; rw [ab1.1]; exact ab1.2⟩
  ·have e2 : (Dk.mk f0 f0.length (f1 ++ p) f1.length (un - 1) kp).sync 1 = (Dk.mk f0 f0.length (f1 ++ p) (f1 ++ p).length (un - 1 - 1) kp, true) := by
    have z0 : ¬ un - 1 = 0 := by omega
    have z1 : ¬ un - 1 = 1 := by omega
    simp [Dk.sync, Dk.act, z0, z1, Dk.put, Dk.file]
   simp only [e2]
   exact ⟨fun h => absurd h (by simp), fun _ => ⟨rfl, rfl, rfl, rfl⟩⟩
theorem Wh.cut {d : Dk} {c : Nat} {F G : List UInt8} (hc : c < 2) (h : Wh d c F G) : ((d.cut c).2 = false -> Wh (d.cut c).1 c F G) /\ ((d.cut c).2 = true -> Wh (d.cut c).1 c [] G) := by
 unfold Dk.cut Dk.act
 by_cases u0 : d.un = 0
 ·simp only [if_pos u0, if_true]
  refine ⟨fun h => absurd h (by simp), fun _ => ?_⟩
  obtain ⟨hf, hg, h0, h1⟩ := h
  rcases (by omega : c = 0 ∨ c = 1) with rfl | rfl
  ·exact ⟨rfl, hg, rfl, h1⟩
  ·exact ⟨rfl, hg, h0, rfl⟩
 by_cases u1 : d.un = 1
 ·simp only [if_neg u0, if_pos u1]
  exact ⟨fun _ => h.crash hc _, fun h => absurd h (by simp)⟩
 ·simp only [if_neg u0, if_neg u1, if_true]
  refine ⟨fun h => absurd h (by simp), fun _ => ?_⟩
  obtain ⟨hf, hg, h0, h1⟩ := h
  rcases (by omega : c = 0 ∨ c = 1) with rfl | rfl
  ·exact ⟨rfl, hg, rfl, h1⟩
  ·exact ⟨rfl, hg, h0, rfl⟩
structure Fl (no : Nat) (cI cO : Int) (d : Dk) (c : Nat) (rs : List Rc) : Prop where
 told : ∀ r ∈ rs, Told r
 rp : Rp no cI cO rs (dsOf no cO rs)
 file : ∃ t, d.file c = frms rs ++ t /\ scanL t = [] /\ (scanC t).2 = 0
 oth : genOf (scanL (d.file (1 - c))) < genOf rs
structure Good (s : Sh) (r : Rs) : Prop where
 no : s.no < 2
 i0 : 1 <= s.cI
 i1 : s.cI <= 16
 o0 : 1 <= s.cO
 o1 : s.cO <= 8
 j1 : s.cJ <= 2000
 ct : s.ct < 2
 up : r.up = s.up
 rct : r.ct = s.ct
 dk : DkEq s.dk r.d
 ok : s.dk.Ok
 w0 : s.dk.l0 = s.dk.f0.length
 w1 : s.dk.l1 = s.dk.f1.length
 kb : -9223372036854775808 <= r.d.kp /\ r.d.kp <= 9223372036854775807
 jn : ∃ c rs, c < 2 /\ Fl s.no s.cI s.cO s.dk c rs /\ (s.up = true -> c = s.ct /\ s.dk.file c = frms rs /\ s.ds = dsOf s.no s.cO rs)
theorem Good.rok {s : Sh} {r : Rs} (h : Good s r) : r.d.Ok := by
 obtain ⟨a, b, c, d, e, f⟩ := h.ok
 have q := h.dk
 refine ⟨?_, ?_, ?_, ?_, ?_, ?_⟩ <;> simp only [q.f0, q.l0, q.f1, q.l1, q.un] <;> assumption
theorem Good.has {s : Sh} {r : Rs} (h : Good s r) (hu : s.up = true) : ∃ rs, (∀ r ∈ rs, Told r) /\ s.dk.file s.ct = frms rs /\ s.ds = dsOf s.no s.cO rs /\ Rp s.no s.cI s.cO rs s.ds /\ HasD s.no s.cI s.cO s.ds /\ genOf rs = s.ms.g /\ genOf (scanL (s.dk.file (1 - s.ct))) < s.ms.g := by
 obtain ⟨c, rs, hc, fl, hx⟩ := h.jn
 obtain ⟨rfl, h1, h2⟩ := hx hu
 have rp := fl.rp
 rw [<- h2] at rp
 have f := rp.facts
 have g : genOf rs = s.ms.g := f.2.2.2
 exact ⟨rs, fl.told, h1, h2, rp, f.2.2.1, g, by rw [<- g]; exact fl.oth⟩
def Rs.jrn (cJ : Int) (r : Rs) (p : Rc) : Int × Rs :=
 if cJ < ((r.d.file r.ct).length : Int) + ((frm p).length : Int) then (5, r)
 else if (r.put (r.d.append r.ct (frm p))).2 = false then (3, (r.put (r.d.append r.ct (frm p))).1)
 else if ((r.put (r.d.append r.ct (frm p))).1.put ((r.put (r.d.append r.ct (frm p))).1.d.sync r.ct)).2 = false then (3, ((r.put (r.d.append r.ct (frm p))).1.put ((r.put (r.d.append r.ct (frm p))).1.d.sync r.ct)).1)
 else (0, ((r.put (r.d.append r.ct (frm p))).1.put ((r.put (r.d.append r.ct (frm p))).1.d.sync r.ct)).1)
theorem Rs.put_yes (r : Rs) {a : Dk × Bool} (h : a.2 = true) : r.put a = (⟨r.up, a.1, r.ct⟩, true) := if_pos h
theorem Rs.put_no (r : Rs) {a : Dk × Bool} (h : a.2 = false) : r.put a = (⟨false, { a.1 with kp := r.d.kp }, r.ct⟩, false) := if_neg (by rw [h]; simp)
theorem act_kp (d : Dk) : d.act.1.kp = d.kp ∨ d.act.1.kp = 0 := by
 unfold Dk.act
 split
 ·exact .inl rfl
 split
 ·exact .inr rfl
 ·exact .inl rfl
theorem append_kp (d : Dk) (c : Nat) (p : List UInt8) : (d.append c p).1.kp = d.kp ∨ (d.append c p).1.kp = 0 := by
 unfold Dk.append
 split
 ·exact act_kp _
 ·exact act_kp _
theorem put_kp (d : Dk) (c : Nat) (p : List UInt8) (m : Nat) : (d.put c p m).kp = d.kp := by
 unfold Dk.put; split <;> rfl
theorem sync_kp (d : Dk) (c : Nat) : (d.sync c).1.kp = d.kp ∨ (d.sync c).1.kp = 0 := by
 unfold Dk.sync
 split
 ·rw [put_kp]; exact act_kp d
 ·exact act_kp d
theorem cut_kp (d : Dk) (c : Nat) : (d.cut c).1.kp = d.kp ∨ (d.cut c).1.kp = 0 := by
 unfold Dk.cut
 split
 ·rw [put_kp]; exact act_kp d
 ·exact act_kp d
def kpB (k : Int) : Prop := -9223372036854775808 <= k /\ k <= 9223372036854775807
theorem kpB_or {k m : Int} (h : kpB k) (hm : m = k ∨ m = 0) : kpB m := by
 unfold kpB at *; omega
theorem frms_snoc (rs : List Rc) (p : Rc) : frms (rs ++ [p]) = frms rs ++ frm p := by simp [frms]
theorem genOf_snoc {rs : List Rc} (h : 0 < rs.length) (p : Rc) : genOf (rs ++ [p]) = genOf rs := by
 cases rs with
 | nil => simp at h
 | cons b t => rfl
theorem fl_part {no : Nat} {cI cO : Int} {d : Dk} {c : Nat} {rs : List Rc} {G : List UInt8} {p : Rc} {j : Nat} (told : ∀ r ∈ rs, Told r) (rp : Rp no cI cO rs (dsOf no cO rs)) (ho : genOf (scanL G) < genOf rs) (tp : Told p) (ok : DOk no cI (dsOf no cO rs) p) (hj : j <= (frm p).length) (h : Wh d c (frms rs ++ (frm p).take j) G) : ∃ rs', Fl no cI cO d c rs' := by
 by_cases hk : j < (frm p).length
 ·obtain ⟨a1, a2⟩ := scan_cut tp j hk
  exact ⟨rs, told, rp, ⟨_, h.f, a1, a2⟩, by rw [h.g]; exact ho⟩
 ·have e : j = (frm p).length := by omega
  subst e
  have pos := rp.facts.1
  refine ⟨rs ++ [p], ?_, ?_, ⟨[], ?_, scan_nil.1, scan_nil.2⟩, ?_⟩
  ·intro x hx
   rcases List.mem_append.1 hx with hx | hx
   ·exact told x hx
   ·rw [List.mem_singleton.1 hx]; exact tp
  ·rw [dsOf_snoc pos]
   exact .snoc p rp ok
  ·rw [h.f, List.take_length, frms_snoc, List.append_nil]
  ·rw [h.g, genOf_snoc pos]; exact ho
theorem jrn_good {s : Sh} {r : Rs} {p : Rc} (h : Good s r) (hu : s.up = true) (tp : Told p) (ok : DOk s.no s.cI s.ds p) : (r.jrn s.cJ p).1 = (s.jrn p).1 /\ Good (s.jrn p).2 (r.jrn s.cJ p).2 := by
 obtain ⟨rs, told, hf, hds, rp, has, hg, ho⟩ := h.has hu
 have wh : Wh s.dk s.ct (frms rs) (s.dk.file (1 - s.ct)) := ⟨hf, rfl, h.w0, h.w1⟩
 rw [<- hg] at ho
 have ap := wh.appended h.ct (frm p)
 have rp' := rp
 rw [hds] at rp'
 have ok' := ok
 rw [hds] at ok'
 unfold Rs.jrn Sh.jrn
 rw [h.dk.file, h.rct]
 split
 ·exact ⟨rfl, h⟩
 rename_i hc
 have hlen : (s.dk.file s.ct).length + (frm p).length <= 10000 := by have := h.j1; omega
 have okA := (h.ok.append s.ct (frm p) hlen).act
 obtain ⟨e1, e2, e3⟩ := h.dk.append s.ct (frm p) r.d.kp
 have dn : ∀ (D E : Dk), DkEq D E -> D.Ok -> kpB E.kp -> (∃ j, j <= (frm p).length /\ Wh D s.ct (frms rs ++ (frm p).take j) (s.dk.file (1 - s.ct))) -> Good (s.down.on D) ⟨false, E, s.ct⟩ := by
  rintro D E he hk kb ⟨j, hj, hw⟩
  obtain ⟨rs', fl⟩ := fl_part told rp' ho tp ok' hj hw
  exact ⟨h.no, h.i0, h.i1, h.o0, h.o1, h.j1, h.ct, rfl, rfl, he, hk, hw.l0, hw.l1, kb, s.ct, rs', h.ct, fl, fun h => absurd h (by simp [Sh.on, Sh.down])⟩
 cases ha : (s.dk.append s.ct (frm p)).2
 ·rw [Rs.put_no r (e1.trans ha)]
  simp only [if_true]
  exact ⟨trivial, by rw [h.rct]; exact dn _ _ (e3 ha) okA h.kb (ap.1 ha)⟩
 rw [Rs.put_yes r (e1.trans ha)]
 simp only [Bool.true_eq_false, if_false]
 have kA : kpB (r.d.append s.ct (frm p)).1.kp := kpB_or h.kb (append_kp _ _ _)
 obtain ⟨g1, g2, g3⟩ := (e2 ha).sync s.ct (r.d.append s.ct (frm p)).1.kp
 have okB := Dk.Ok.sync okA s.ct
 obtain ⟨ap1, ap2⟩ := ap.2 ha
 cases hb : ((s.dk.append s.ct (frm p)).1.sync s.ct).2
 ·rw [Rs.put_no _ (g1.trans hb)]
  simp only [if_true]
  exact ⟨trivial, by rw [h.rct]; exact dn _ _ (g3 hb) okB kA (ap1 hb)⟩
 rw [Rs.put_yes _ (g1.trans hb)]
 simp only [Bool.true_eq_false, if_false]
 refine ⟨trivial, ?_⟩
 have hw := ap2 hb
 have up := doR_up (s.on ((s.dk.append s.ct (frm p)).1.sync s.ct).1) p
 obtain ⟨u1, u2, u3, u4, u5, u6, u7⟩ := up
 have nd : s.th.Pairwise (fun a b => ¬ a.same b) := nd_perm (srtTh_perm _).symm (has.ord.imp lt_ne)
 have dd := (doR_nd nd has ok).2
 have dd' : ((s.on ((s.dk.append s.ct (frm p)).1.sync s.ct).1).doR p).ds = s.ds.doR s.no s.cO p := by
  rw [doR_on]; exact dd
 have pos := rp.facts.1
 have e : dsOf s.no s.cO (rs ++ [p]) = s.ds.doR s.no s.cO p := by rw [dsOf_snoc pos, <- hds]
 refine ⟨by rw [u4]; exact h.no, by rw [u5]; exact h.i0, by rw [u5]; exact h.i1, by rw [u6]; exact h.o0, by rw [u6]; exact h.o1, by rw [u7]; exact h.j1, by rw [u3]; exact h.ct, by rw [u1]; exact h.up, by rw [u3]; exact h.rct, by rw [u2]; exact g2 hb, by rw [u2]; exact okB, by rw [u2]; exact hw.l0, by rw [u2]; exact hw.l1, kpB_or kA (sync_kp _ _), s.ct, rs ++ [p], h.ct, ?_, fun _ => ?_⟩
 ·rw [u2, u4, u5, u6]
  refine ⟨?_, ?_, ⟨[], ?_, scan_nil.1, scan_nil.2⟩, ?_⟩
  ·intro x hx
   rcases List.mem_append.1 hx with hx | hx
   ·exact told x hx
   ·rw [List.mem_singleton.1 hx]; exact tp
  ·show Rp s.no s.cI s.cO (rs ++ [p]) (dsOf s.no s.cO (rs ++ [p]))
   rw [e]
   exact .snoc p rp ok
  ·show Dk.file _ s.ct = _
   rw [List.append_nil, frms_snoc]
   exact hw.f
  ·show genOf (scanL (Dk.file _ (1 - s.ct))) < _
   rw [genOf_snoc pos]
   have := hw.g
   simp only [Sh.on] at *
   rw [this]
   exact ho
 ·rw [u2, u3, u4, u6]
  refine ⟨rfl, ?_, ?_⟩
  ·rw [frms_snoc]; exact hw.f
  ·rw [dd']; exact e.symm
def destRec (x y : Int) : Rc := ⟨2, 0, ⟨x, y, 0, 0⟩, mk0, [], []⟩
def tickRec : Rc := ⟨3, 0, it0, mk0, [], []⟩
def mintRc (no : Nat) (m : Int) (pl sp : Nat) : Rc := ⟨1, 0, ⟨no, m + 1, pl, sp⟩, mk0, [], []⟩
def baseRc (d : Ds) : Rc := ⟨6, 0, it0, { d.ms with g := d.ms.g + 1 }, d.it, d.ob⟩
theorem told_tick : Told tickRec := ⟨by decide, ⟨by decide, by decide⟩, by simp [tickRec], by simp [tickRec]⟩
theorem told_dest {x y : Int} (h : idB x y = true) : Told (destRec x y) :=
 ⟨by show ((0 : Int) == 0 && idB x y && stB ⟨x, y, 0, 0⟩ && nobB (destRec x y)) = true; rw [h]; rfl, ⟨by show (0 : Nat) < _; decide, by show (0 : Nat) < _; decide⟩, by simp [destRec], by simp [destRec]⟩
theorem told_mint {no : Nat} {m : Int} {pl sp : Nat} (hn : no < 2) (h0 : 0 <= m) (h1 : m < 65535) (hp : nearB pl = true) (hq : nearB sp = true) (wp : pl < 4294967296) (wq : sp < 4294967296) : itB ⟨no, m + 1, pl, sp⟩ = true /\ Told (mintRc no m pl sp) := by
 have hi : itB ⟨no, m + 1, pl, sp⟩ = true := by
  simp only [itB, idB]
  rw [hp, hq, decide_eq_true (by omega : 1 <= m + 1), decide_eq_true (by omega : m + 1 <= 65535)]
  rcases (by omega : no = 0 ∨ no = 1) with rfl | rfl <;> rfl
 refine ⟨hi, ?_, ⟨wp, wq⟩, by simp [mintRc], by simp [mintRc]⟩
 show ((0 : Int) == 0 && itB ⟨no, m + 1, pl, sp⟩ && nobB (mintRc no m pl sp)) = true
 rw [hi]; rfl
theorem chk_ord : ∀ (l : List It) (p : Option It), (∀ q, p = some q -> ∀ x ∈ l, lt q x) -> Ord l -> (∀ x ∈ l, itB x = true) -> chk p l = true
 | [], _, _, _, _ => rfl
 | i :: t, p, hp, ho, hi => by
  have h' := List.pairwise_cons.1 ho
  show (itB i && prevOk p i && chk (some i) t) = true
  rw [hi i (.head _), chk_ord t (some i) (fun q hq x hx => by injection hq with hq; subst hq; exact h'.1 x hx) h'.2 (fun x hx => hi x (.tail _ hx))]
  cases p with
  | none => rfl
  | some q =>
   have : prevOk (some q) i = true := decide_eq_true ((cmpID_lt q i).2 (hp q rfl i (.head _)))
   rw [this]; rfl
theorem told_base {no : Nat} {cI cO : Int} {d : Ds} (h : HasD no cI cO d) (hI : cI <= 16) (hO : cO <= 8) (hg : d.ms.g < 65535) : Told (baseRc d) := by
 have m := h.mo
 have tl := h.tl
 have ol := h.ol
 refine ⟨?_, ⟨by show (0 : Nat) < _; decide, by show (0 : Nat) < _; decide⟩, fun i hi => (h.it i hi).2, fun e he => (h.en e he).2.1⟩
 show ((0 : Int) == 0 && noIt it0 && (mkB { d.ms with g := d.ms.g + 1 } && (decide (d.it.length <= 16) && chk none d.it) && (decide (d.ob.length <= 8) && chkE 0 d.ob))) = true
 rw [h.oc, chk_ord d.it none (fun q hq => by simp at hq) h.ord (fun x hx => (h.it x hx).1), decide_eq_true (by omega : d.it.length <= 16), decide_eq_true (by omega : d.ob.length <= 8)]
 have e : mkB { d.ms with g := d.ms.g + 1 } = true := by
  have g0 := m.g0; have m0 := m.m0; have m1 := m.m1; have s0 := m.s0; have s1 := m.s1; have a0 := m.a0; have a1 := m.a1; have n0 := m.n0; have n1 := m.n1
  simp [mkB, isN]
  omega
 rw [e]; rfl
theorem HasD.base {no : Nat} {cI cO : Int} {d : Ds} (h : HasD no cI cO d) (hg : d.ms.g < 65535) : HasD no cI cO ⟨d.it, d.ob, { d.ms with g := d.ms.g + 1 }⟩ :=
 ⟨h.ord, h.it, h.tl, h.ol, h.en, h.oc, ⟨by have := h.mo.g0; show 0 <= d.ms.g + 1; omega, by show d.ms.g + 1 <= 65535; omega, h.mo.m0, h.mo.m1, h.mo.s0, h.mo.s1, h.mo.a0, h.mo.a1, h.mo.n0, h.mo.n1⟩, h.mi⟩
theorem has_th {s : Sh} (x y : Int) : hasTh s.th x y = true ↔ ∃ i ∈ s.ds.it, i.sh = x /\ i.nu = y := by
 unfold hasTh
 rw [List.any_eq_true]
 constructor
 ·rintro ⟨i, hi, e⟩
  exact ⟨i, (srtTh_perm s.th).mem_iff.2 hi, of_decide_eq_true e⟩
 ·rintro ⟨i, hi, e⟩
  exact ⟨i, (srtTh_perm s.th).mem_iff.1 hi, decide_eq_true e⟩
def Rs.mint (no : Nat) (cI cJ : Int) (d : Ds) (r : Rs) (pl sp : Nat) : (Int × Int × Int) × Rs :=
 if (nearB pl && nearB sp) = false ∨ ¬ sideB pl = (no : Int) then ((0, 0, 2), r)
 else if cI <= (d.it.length : Int) ∨ 65535 <= d.ms.m then ((0, 0, 6), r)
 else if (r.jrn cJ (mintRc no d.ms.m pl sp)).1 = 0 then ((no, d.ms.m + 1, 0), (r.jrn cJ (mintRc no d.ms.m pl sp)).2) else ((0, 0, (r.jrn cJ (mintRc no d.ms.m pl sp)).1), (r.jrn cJ (mintRc no d.ms.m pl sp)).2)
theorem mint_good {s : Sh} {r : Rs} (h : Good s r) (hu : s.up = true) (pl sp : Nat) (wp : pl < 4294967296) (wq : sp < 4294967296) : (r.mint s.no s.cI s.cJ s.ds pl sp).1 = (s.mint pl sp).1 /\ Good (s.mint pl sp).2 (r.mint s.no s.cI s.cJ s.ds pl sp).2 := by
 obtain ⟨rs, _, _, _, _, has, _, _⟩ := h.has hu
 have len : s.ds.it.length = s.th.length := (srtTh_perm s.th).length_eq
 have m0 : 0 <= s.ms.m := has.mo.m0
 have m1 : s.ms.m <= 65535 := has.mo.m1
 have em : s.ds.ms = s.ms := rfl
 unfold Rs.mint Sh.mint
 split
 ·exact ⟨rfl, h⟩
 rename_i c1
 by_cases c2 : s.cI <= (s.th.length : Int) ∨ s.ms.m = 65535
 ·rw [if_pos c2, if_pos (by rw [len, em]; omega)]
  exact ⟨rfl, h⟩
 rw [if_neg c2, if_neg (by rw [len, em]; omega)]
 have hn : nearB pl = true /\ nearB sp = true := by
  have : ¬ (nearB pl && nearB sp) = false := fun e => c1 (.inl e)
  simpa using this
 obtain ⟨hi, ht⟩ := told_mint (no := s.no) (m := s.ms.m) h.no m0 (by omega) hn.1 hn.2 wp wq
 have e : s.mintRec pl sp = mintRc s.no s.ds.ms.m pl sp := rfl
 rw [e]
 have no2 := h.no
 have jg := jrn_good h hu (p := mintRc s.no s.ds.ms.m pl sp) ht ⟨.inl rfl, fun _ => ⟨rfl, rfl, by rw [em]; omega, by rw [len]; omega, hi, wp, wq⟩, fun h => absurd h (by simp [mintRc]), ⟨by show i64B (s.no : Int); unfold i64B; omega, by show i64B (s.ms.m + 1); unfold i64B; omega⟩, fun h => absurd h (by simp [mintRc]), fun h => absurd h (by simp [mintRc])⟩
 obtain ⟨j1, j2⟩ := jg
 rw [j1]
 split
 ·exact ⟨rfl, j2⟩
 ·exact ⟨rfl, j2⟩
theorem dest_good {s : Sh} {r : Rs} (h : Good s r) (hu : s.up = true) (x y : Int) (hh : hasTh s.th x y = true) : idB x y = true /\ (r.jrn s.cJ (destRec x y)).1 = (s.jrn (destRec x y)).1 /\ Good (s.jrn (destRec x y)).2 (r.jrn s.cJ (destRec x y)).2 := by
 obtain ⟨rs, _, _, _, _, has, _, _⟩ := h.has hu
 obtain ⟨i, hi, rfl, rfl⟩ := (has_th x y).1 hh
 have hb := (it_parts (has.it i hi).1).1
 exact ⟨hb, jrn_good h hu (told_dest hb) ⟨.inr (.inl rfl), fun h => absurd h (by simp [destRec]), fun _ => ⟨i, hi, rfl, rfl⟩, id_i64 hb, fun h => absurd h (by simp [destRec]), fun h => absurd h (by simp [destRec])⟩⟩
theorem tick_good {s : Sh} {r : Rs} (h : Good s r) (hu : s.up = true) : (r.jrn s.cJ tickRec).1 = (s.jrn tickRec).1 /\ Good (s.jrn tickRec).2 (r.jrn s.cJ tickRec).2 :=
 jrn_good h hu told_tick ⟨.inr (.inr (.inl rfl)), fun h => absurd h (by simp [tickRec]), fun h => absurd h (by simp [tickRec]), by unfold i64B tickRec it0; decide, fun h => absurd h (by simp [tickRec]), fun h => absurd h (by simp [tickRec])⟩
def Rs.snap (cJ : Int) (d : Ds) (r : Rs) : Int × Rs :=
 if 65535 <= d.ms.g then (5, r)
 else if cJ < ((frm (baseRc d)).length : Int) then (5, r)
 else if (r.put (r.d.cut (1 - r.ct))).2 = false then (3, (r.put (r.d.cut (1 - r.ct))).1)
 else if ((r.put (r.d.cut (1 - r.ct))).1.put ((r.put (r.d.cut (1 - r.ct))).1.d.append (1 - r.ct) (frm (baseRc d)))).2 = false then (3, ((r.put (r.d.cut (1 - r.ct))).1.put ((r.put (r.d.cut (1 - r.ct))).1.d.append (1 - r.ct) (frm (baseRc d)))).1)
 else
  let q := ((r.put (r.d.cut (1 - r.ct))).1.put ((r.put (r.d.cut (1 - r.ct))).1.d.append (1 - r.ct) (frm (baseRc d)))).1
  if (q.put (q.d.sync (1 - r.ct))).2 = false then (3, (q.put (q.d.sync (1 - r.ct))).1) else (0, { (q.put (q.d.sync (1 - r.ct))).1 with ct := 1 - r.ct })
theorem snap_good {s : Sh} {r : Rs} (h : Good s r) (hu : s.up = true) : (r.snap s.cJ s.ds).1 = s.snap.1 /\ Good s.snap.2 (r.snap s.cJ s.ds).2 := by
 obtain ⟨rs, told, hf, hds, rp, has, hg, ho⟩ := h.has hu
 have hct := h.ct
 have g0 : 0 <= s.ms.g := has.mo.g0
 have g1 : s.ms.g <= 65535 := has.mo.g1
 have eg : s.ds.ms.g = s.ms.g := rfl
 unfold Rs.snap Sh.snap
 by_cases c1 : s.ms.g = 65535
 ·rw [if_pos c1, if_pos (by omega)]
  exact ⟨rfl, h⟩
 rw [if_neg c1, if_neg (by omega)]
 have e : s.snapRec = baseRc s.ds := rfl
 rw [e]
 split
 ·exact ⟨rfl, h⟩
 rename_i c2
 have hlt : s.ds.ms.g < 65535 := by omega
 have tb := told_base has h.i1 h.o1 hlt
 have hb := has.base hlt
 have wh : Wh s.dk (1 - s.ct) (s.dk.file (1 - s.ct)) (frms rs) := ⟨rfl, by rw [show 1 - (1 - s.ct) = s.ct by omega]; exact hf, h.w0, h.w1⟩
 have hc1 : 1 - s.ct < 2 := by omega
 have hfl : (frm (baseRc s.ds)).length <= 2000 := by have := h.j1; omega
 rw [h.rct]
 have old : ∀ (D : Dk) (l : List UInt8), scanL l = [] -> Wh D (1 - s.ct) l (frms rs) -> Fl s.no s.cI s.cO D s.ct rs := fun D l hl hw => by
  refine ⟨told, by rw [<- hds]; exact rp, ⟨[], by rw [List.append_nil]; have := hw.g; rwa [show 1 - (1 - s.ct) = s.ct by omega] at this, scan_nil.1, scan_nil.2⟩, ?_⟩
  rw [hw.f, hl, hg]
  show (-1 : Int) < _
  omega
 have new : ∀ (D : Dk), Wh D (1 - s.ct) (frm (baseRc s.ds)) (frms rs) -> Fl s.no s.cI s.cO D (1 - s.ct) [baseRc s.ds] /\ D.file (1 - s.ct) = frms [baseRc s.ds] := fun D hw => by
  have e1 : D.file (1 - s.ct) = frms [baseRc s.ds] := by rw [hw.f]; simp [frms]
  refine ⟨⟨by intro x hx; rw [List.mem_singleton.1 hx]; exact tb, .base (baseRc s.ds) rfl hb, ⟨[], by rw [List.append_nil]; exact e1, scan_nil.1, scan_nil.2⟩, ?_⟩, e1⟩
  rw [hw.g, (scan_whole told).1, hg]
  show s.ms.g < s.ms.g + 1
  omega
 have dn : ∀ (D E : Dk), DkEq D E -> D.Ok -> kpB E.kp -> (∃ c rs', c < 2 /\ Fl s.no s.cI s.cO D c rs') -> D.l0 = D.f0.length -> D.l1 = D.f1.length -> Good (s.down.on D) ⟨false, E, s.ct⟩ := by
  rintro D E he hk kb ⟨c, rs', hc, fl⟩ w0 w1
  exact ⟨h.no, h.i0, h.i1, h.o0, h.o1, h.j1, h.ct, rfl, rfl, he, hk, w0, w1, kb, c, rs', hc, fl, fun h => absurd h (by simp [Sh.on, Sh.down])⟩
 have part : ∀ (D : Dk) (j : Nat), j <= (frm (baseRc s.ds)).length -> Wh D (1 - s.ct) ([] ++ (frm (baseRc s.ds)).take j) (frms rs) -> ∃ c rs', c < 2 /\ Fl s.no s.cI s.cO D c rs' := fun D j hj hw => by
  rw [List.nil_append] at hw
  by_cases hk : j < (frm (baseRc s.ds)).length
  ·exact ⟨s.ct, rs, hct, old D _ (scan_cut tb j hk).1 hw⟩
  ·rw [List.take_of_length_le (by omega)] at hw
   exact ⟨1 - s.ct, _, hc1, (new D hw).1⟩
 obtain ⟨e1, e2, e3⟩ := h.dk.cut (1 - s.ct) r.d.kp
 obtain ⟨cu1, cu2⟩ := wh.cut hc1
 have okC := h.ok.cut (1 - s.ct)
 cases ha : (s.dk.cut (1 - s.ct)).2
 ·rw [Rs.put_no r (e1.trans ha)]
  simp only [if_true]
  have hw := cu1 ha
  refine ⟨trivial, ?_⟩
  rw [h.rct]
  refine dn _ _ (e3 ha) okC h.kb ⟨s.ct, rs, hct, told, by rw [<- hds]; exact rp, ⟨[], ?_, scan_nil.1, scan_nil.2⟩, ?_⟩ hw.l0 hw.l1
  ·have := hw.g
   rw [show 1 - (1 - s.ct) = s.ct by omega] at this
   rw [List.append_nil]; exact this
  ·rw [hw.f, hg]; exact ho
 rw [Rs.put_yes r (e1.trans ha)]
 simp only [Bool.true_eq_false, if_false]
 have hwC := cu2 ha
 have kC : kpB (r.d.cut (1 - s.ct)).1.kp := kpB_or h.kb (cut_kp _ _)
 obtain ⟨f1, f2, f3⟩ := (e2 ha).append (1 - s.ct) (frm (baseRc s.ds)) (r.d.cut (1 - s.ct)).1.kp
 obtain ⟨ap1, ap2⟩ := hwC.appended hc1 (frm (baseRc s.ds))
 have hl0 : ((s.dk.cut (1 - s.ct)).1.file (1 - s.ct)).length + (frm (baseRc s.ds)).length <= 10000 := by rw [hwC.f]; simp; omega
 have okA := (okC.append (1 - s.ct) (frm (baseRc s.ds)) hl0).act
 cases hb2 : ((s.dk.cut (1 - s.ct)).1.append (1 - s.ct) (frm (baseRc s.ds))).2
 ·rw [Rs.put_no _ (f1.trans hb2)]
  simp only [if_true]
  obtain ⟨j, hj, hw⟩ := ap1 hb2
  refine ⟨trivial, ?_⟩
  rw [h.rct]
  exact dn _ _ (f3 hb2) okA kC (part _ j hj hw) hw.l0 hw.l1
 rw [Rs.put_yes _ (f1.trans hb2)]
 simp only [Bool.true_eq_false, if_false]
 have kA : kpB ((r.d.cut (1 - s.ct)).1.append (1 - s.ct) (frm (baseRc s.ds))).1.kp := kpB_or kC (append_kp _ _ _)
 obtain ⟨y1, y2, y3⟩ := (f2 hb2).sync (1 - s.ct) ((r.d.cut (1 - s.ct)).1.append (1 - s.ct) (frm (baseRc s.ds))).1.kp
 obtain ⟨sy1, sy2⟩ := ap2 hb2
 have okB := Dk.Ok.sync okA (1 - s.ct)
 cases hb3 : (((s.dk.cut (1 - s.ct)).1.append (1 - s.ct) (frm (baseRc s.ds))).1.sync (1 - s.ct)).2
 ·rw [Rs.put_no _ (y1.trans hb3)]
  simp only [if_true]
  obtain ⟨j, hj, hw⟩ := sy1 hb3
  refine ⟨trivial, ?_⟩
  rw [h.rct]
  exact dn _ _ (y3 hb3) okB kA (part _ j hj hw) hw.l0 hw.l1
 rw [Rs.put_yes _ (y1.trans hb3)]
 simp only [Bool.true_eq_false, if_false]
 have hw := sy2 hb3
 rw [List.nil_append] at hw
 refine ⟨trivial, h.no, h.i0, h.i1, h.o0, h.o1, h.j1, hc1, h.up, rfl, y2 hb3, okB, hw.l0, hw.l1, kpB_or kA (sync_kp _ _), 1 - s.ct, [baseRc s.ds], hc1, (new _ hw).1, fun _ => ⟨rfl, (new _ hw).2, rfl⟩⟩
theorem crash_good {s : Sh} {r : Rs} (h : Good s r) (keep : Int) : Good (s.down.on (s.dk.crash keep)) (r.lost keep) := by
 obtain ⟨c, rs, hc, fl, _⟩ := h.jn
 have wh : Wh s.dk c (s.dk.file c) (s.dk.file (1 - c)) := ⟨rfl, rfl, h.w0, h.w1⟩
 have hw := wh.crash hc keep
 refine ⟨h.no, h.i0, h.i1, h.o0, h.o1, h.j1, h.ct, rfl, h.rct, h.dk.crash keep r.d.kp, h.ok.crash keep, hw.l0, hw.l1, h.kb, c, rs, hc, ⟨fl.told, fl.rp, ?_, ?_⟩, fun h => absurd h (by simp [Sh.on, Sh.down])⟩
 ·obtain ⟨t, h1, h2⟩ := fl.file
  exact ⟨t, by rw [show (s.down.on (s.dk.crash keep)).dk = s.dk.crash keep from rfl, hw.f]; exact h1, h2⟩
 ·rw [show (s.down.on (s.dk.crash keep)).dk = s.dk.crash keep from rfl, hw.g]; exact fl.oth
theorem break_good {s : Sh} {r : Rs} (h : Good s r) (k keep : Int) (h0 : 0 <= k) (h1 : k <= 9223372036854775807) (hk : kpB keep) : Good (s.on { s.dk with un := k, kp := keep }) ⟨r.up, { r.d with un := k, kp := keep }, r.ct⟩ :=
 ⟨h.no, h.i0, h.i1, h.o0, h.o1, h.j1, h.ct, h.up, h.rct, ⟨h.dk.f0, h.dk.l0, h.dk.f1, h.dk.l1, rfl, fun _ => rfl⟩, ⟨h.ok.a0, h.ok.a1, h.ok.b0, h.ok.b1, h0, h1⟩, h.w0, h.w1, hk, by
  obtain ⟨c, rs, hc, fl, hx⟩ := h.jn
  exact ⟨c, rs, hc, ⟨fl.told, fl.rp, fl.file, fl.oth⟩, hx⟩⟩
theorem leg_snoc : ∀ (l : List Rc) (s : Sh) (r : Rc), Leg s l -> DoOk (l.foldl Sh.doR s) r -> Leg s (l ++ [r])
 | [], _, _, _, h => ⟨h, trivial⟩
 | x :: l, s, r, h, h' => ⟨h.1, leg_snoc l (s.doR x) r h.2 h'⟩
theorem Rp.runs {no : Nat} {cI cO : Int} {rs : List Rc} {d : Ds} (h : Rp no cI cO rs d) (hI : cI <= 16) (hO : cO <= 8) (s : Sh) (h1 : s.no = no) (h2 : s.cI = cI) (h3 : s.cO = cO) : (rs.foldl Sh.doR s).ds = d /\ (∀ hp : 0 < rs.length, (rs[0]).kind = 6 /\ (rs[0]).items.length <= 1000 /\ (∀ x ∈ (rs[0]).items, i64B x.sh /\ i64B x.nu) /\ Leg (s.doR rs[0]) rs.tail) := by
 refine Rp.ind (motive := fun rs d => (rs.foldl Sh.doR s).ds = d /\ (∀ hp : 0 < rs.length, (rs[0]).kind = 6 /\ (rs[0]).items.length <= 1000 /\ (∀ x ∈ (rs[0]).items, i64B x.sh /\ i64B x.nu) /\ Leg (s.doR rs[0]) rs.tail)) ?_ ?_ h
 ·intro b hk hh
  refine ⟨?_, fun _ => ⟨hk, ?_, fun x hx => id_i64 (it_parts (hh.it x hx).1).1, trivial⟩⟩
  ·show (s.doR b).ds = _
   unfold Sh.doR
   rw [if_pos hk]
   show (⟨srtTh (b.items.foldl putTh []), _, _⟩ : Ds) = _
   rw [puts_ord b.items [] (by simpa using hh.ord.imp lt_ne), List.nil_append, srtTh_id hh.ord]
   rfl
  ·have := hh.tl
   show b.items.length <= 1000
   simp only at this
   omega
 ·intro rs d r h ok ih
  obtain ⟨i1, i2⟩ := ih
  have f := h.facts
  have up := dos_up rs s
  have e1 : (rs.foldl Sh.doR s).no = no := up.2.2.2.1.trans h1
  have e2 : (rs.foldl Sh.doR s).cI = cI := up.2.2.2.2.1.trans h2
  have e3 : (rs.foldl Sh.doR s).cO = cO := up.2.2.2.2.2.1.trans h3
  have has : HasD (rs.foldl Sh.doR s).no (rs.foldl Sh.doR s).cI (rs.foldl Sh.doR s).cO (rs.foldl Sh.doR s).ds := by rw [e1, e2, e3, i1]; exact f.2.2.1
  have ok' : DOk (rs.foldl Sh.doR s).no (rs.foldl Sh.doR s).cI (rs.foldl Sh.doR s).ds r := by rw [e1, e2, i1]; exact ok
  have nd : (rs.foldl Sh.doR s).th.Pairwise (fun a b => ¬ a.same b) := nd_perm (srtTh_perm _).symm (has.ord.imp lt_ne)
  constructor
  ·rw [List.foldl_append]
   show ((rs.foldl Sh.doR s).doR r).ds = _
   rw [(doR_nd nd has ok').2, e1, e3, i1]
  ·intro _
   have g := ok'.sh has (by rw [e2]; exact hI) (by rw [e3]; exact hO)
   obtain ⟨b, t, rfl, _⟩ := h.head
   obtain ⟨j1, j2, j3, j4⟩ := i2 (by simp)
   exact ⟨j1, j2, j3, leg_snoc t _ r j4 g⟩
def Rs.pick (r : Rs) : Nat := if (if -1 < genOf (scanL r.d.f0) then genOf (scanL r.d.f0) else -1) < genOf (scanL r.d.f1) then 1 else (if -1 < genOf (scanL r.d.f0) then 0 else r.ct)
def Rs.restart (r : Rs) : Rs := ⟨true, r.d.shorten r.pick (scanC (r.d.file r.pick)).2, r.pick⟩
theorem restart_good {s : Sh} {r : Rs} (h : Good s r) : Jnl s.begun (scanL (s.dk.file s.dk.choice)) /\ Good s.restart r.restart := by
 obtain ⟨c, rs, hc, fl, _⟩ := h.jn
 obtain ⟨t, ht, hs, hn⟩ := fl.file
 have e1 : scanL (s.dk.file c) = rs := by rw [ht, (scan_frms fl.told t).1, hs, List.append_nil]
 have e2 : (scanC (s.dk.file c)).2 = (frms rs).length := by rw [ht, (scan_frms fl.told t).2, hn, Nat.add_zero]
 have e3 : (s.dk.file c).take (frms rs).length = frms rs := by rw [ht, List.take_left]
 have f := fl.rp.facts
 have g0 : 0 <= genOf rs := by rw [f.2.2.2]; exact f.2.2.1.mo.g0
 have oth := fl.oth
 have ch : s.dk.choice = c := by
  unfold Dk.choice
  rcases (by omega : c = 0 ∨ c = 1) with rfl | rfl
  ·have a1 : scanL s.dk.f0 = rs := e1
   have a2 : genOf (scanL s.dk.f1) < genOf rs := oth
   rw [a1, if_neg (by omega)]
  ·have a1 : scanL s.dk.f1 = rs := e1
   have a2 : genOf (scanL s.dk.f0) < genOf rs := oth
   rw [a1, if_pos a2]
 have pk : r.pick = c := by
  unfold Rs.pick
  rw [h.dk.f0, h.dk.f1]
  rcases (by omega : c = 0 ∨ c = 1) with rfl | rfl
  ·have a1 : scanL s.dk.f0 = rs := e1
   have a2 : genOf (scanL s.dk.f1) < genOf rs := oth
   rw [a1, if_pos (by omega : -1 < genOf rs), if_neg (by omega), if_pos (by omega)]
  ·have a1 : scanL s.dk.f1 = rs := e1
   have a2 : genOf (scanL s.dk.f0) < genOf rs := oth
   rw [a1]
   refine if_pos ?_
   split <;> omega
 have hd : s.begun.dk = s.dk.shorten c (frms rs).length := by unfold Sh.begun; rw [ch, e2]; rfl
 have rn := fl.rp.runs h.i1 h.o1 s.begun rfl rfl rfl
 rw [ch, e1]
 refine ⟨⟨f.1, fun hp => ⟨(rn.2 hp).1, (rn.2 hp).2.1, (rn.2 hp).2.2.1⟩, fun hp => (rn.2 hp).2.2.2, ?_⟩, ?_⟩
 ·have := scanL_len' (s.dk.file c)
  rw [e1] at this
  have : (s.dk.file c).length <= 10000 := by
   unfold Dk.file
   split
   ·exact h.ok.b0
   ·exact h.ok.b1
  omega
 ·have up := dos_up rs s.begun
  obtain ⟨u1, u2, u3, u4, u5, u6, u7⟩ := up
  have er : s.restart = { rs.foldl Sh.doR s.begun with up := true } := by unfold Sh.restart; rw [ch, e1]
  have d1 : s.restart.dk = s.dk.shorten c (frms rs).length := by rw [er]; exact u2.trans hd
  have d2 : s.restart.ct = c := by rw [er]; exact u3.trans (by show s.dk.choice = c; exact ch)
  have d3 : s.restart.no = s.no := by rw [er]; exact u4
  have d4 : s.restart.cI = s.cI := by rw [er]; exact u5
  have d5 : s.restart.cO = s.cO := by rw [er]; exact u6
  have d6 : s.restart.cJ = s.cJ := by rw [er]; exact u7
  have d7 : s.restart.ds = dsOf s.no s.cO rs := by rw [er]; exact rn.1
  have d8 : s.restart.up = true := rfl
  have rr : r.restart = ⟨true, r.d.shorten c (frms rs).length, c⟩ := by
   unfold Rs.restart
   rw [pk, h.dk.file, e2]
  have le : (frms rs).length <= (s.dk.file c).length := by rw [ht, List.length_append]; omega
  have sh : s.dk.shorten c (frms rs).length = s.dk.put c (frms rs) (frms rs).length := by unfold Dk.shorten; rw [e3]
  have sf : (s.dk.shorten c (frms rs).length).file c = frms rs /\ (s.dk.shorten c (frms rs).length).file (1 - c) = s.dk.file (1 - c) /\ (s.dk.shorten c (frms rs).length).l0 = (s.dk.shorten c (frms rs).length).f0.length /\ (s.dk.shorten c (frms rs).length).l1 = (s.dk.shorten c (frms rs).length).f1.length := by
   rw [sh]
   rcases (by omega : c = 0 ∨ c = 1) with rfl | rfl
   ·exact ⟨rfl, rfl, rfl, h.w1⟩
   ·exact ⟨rfl, rfl, h.w0, rfl⟩
  rw [rr]
  refine ⟨by rw [d3]; exact h.no, by rw [d4]; exact h.i0, by rw [d4]; exact h.i1, by rw [d5]; exact h.o0, by rw [d5]; exact h.o1, by rw [d6]; exact h.j1, by rw [d2]; exact hc, d8.symm, d2.symm, ?_, ?_, by rw [d1]; exact sf.2.2.1, by rw [d1]; exact sf.2.2.2, ?_, c, rs, hc, ?_, fun _ => ⟨d2.symm, by rw [d1]; exact sf.1, by rw [d3, d5]; exact d7⟩⟩
  ·rw [d1]
   unfold Dk.shorten
   rw [h.dk.file]
   exact h.dk.put _ _ _
  ·rw [d1]
   exact h.ok.shorten c _ le
  ·show kpB (Dk.put _ _ _ _).kp
   rw [put_kp]
   exact h.kb
  ·rw [d1, d3, d4, d5]
   refine ⟨fl.told, fl.rp, ⟨[], by rw [sf.1, List.append_nil], scan_nil.1, scan_nil.2⟩, ?_⟩
   rw [sf.2.1]
   exact oth
theorem init_good (no : Nat) (cI cO cJ : Int) (hn : no < 2) (i0 : 1 <= cI) (i1 : cI <= 16) (o0 : 1 <= cO) (o1 : cO <= 8) (j1 : cJ <= 2000) : Good (Sh.init no cI cO cJ).restart ⟨true, dk1, 0⟩ := by
 have hb : HasD no cI cO ⟨[], [], ⟨1, 0, 0, 0, 0⟩⟩ := ⟨.nil, by simp, by simp; omega, by simp; omega, by simp, rfl, ⟨by decide, by decide, by decide, by decide, by decide, by decide, by decide, by decide, by decide, by decide⟩, by simp⟩
 have g : Good (Sh.init no cI cO cJ) ⟨false, dk1, 0⟩ := by
  refine ⟨hn, i0, i1, o0, o1, j1, by show 0 < 2; decide, rfl, rfl, ⟨rfl, rfl, rfl, rfl, rfl, fun _ => rfl⟩, dk1_ok, rfl, rfl, by decide, 0, [base1], by decide, ⟨by intro x hx; rw [List.mem_singleton.1 hx]; exact told1, .base base1 rfl hb, ⟨[], by show frm base1 = _; simp [frms], scan_nil.1, scan_nil.2⟩, ?_⟩, fun h => absurd h (by simp [Sh.init])⟩
  show genOf (scanL []) < genOf [base1]
  rw [scan_nil.1]
  decide
 have := (restart_good g).2
 have e : (⟨false, dk1, 0⟩ : Rs).restart = ⟨true, dk1, 0⟩ := by
  have pk : (⟨false, dk1, 0⟩ : Rs).pick = 0 := by
   unfold Rs.pick
   show (if (if -1 < genOf (scanL (frm base1)) then genOf (scanL (frm base1)) else -1) < genOf (scanL []) then 1 else (if -1 < genOf (scanL (frm base1)) then 0 else 0)) = 0
   rw [scan1.1, scan_nil.1]
   rfl
  unfold Rs.restart
  rw [pk]
  show (⟨true, dk1.shorten 0 (scanC (frm base1)).2, 0⟩ : Rs) = _
  rw [scan1.2]
  unfold Dk.shorten Dk.put dk1 Dk.file
  simp
 rw [e] at this
 exact this
def ryC (cI cO cJ : Int) (b0 b1 : Nat) (f0 f1 : Value) : List Value := [.int .i64 cI, .int .i64 cO, .int .i64 cJ, .pointer (some ⟨b0, 0, none⟩), .pointer (some ⟨b1, 0, none⟩), f0, f1]
theorem rsAppendN (b : Nat) (r : Rs) (c : Nat) (l : List UInt8) (w : World) (h : At w b r.cells) (ok : r.d.Ok) (kb : kpB r.d.kp) (hc : c < 2) (hl : (r.d.file c).length + l.length <= 10000) :
  Calls Tryz.prog 101 #[.pointer (some ⟨b, 0, none⟩), .int .i64 1, .int .i64 c, .string (S l)] w fun e w' => e = .returned (.bool (r.put (r.d.append c l)).2) /\ At w' b (r.put (r.d.append c l)).1.cells /\ Only w w' (fun j => j = b) := by
 rcases (by omega : c = 0 ∨ c = 1) with e | e <;> rw [e] at hl ⊢
 ·exact rsAppend0 b r l w h ok kb hl
 ·exact rsAppend1 b r l w h ok kb hl
theorem rsSyncN (b : Nat) (r : Rs) (c : Nat) (w : World) (h : At w b r.cells) (ok : r.d.Ok) (kb : kpB r.d.kp) (hc : c < 2) :
  Calls Tryz.prog 101 #[.pointer (some ⟨b, 0, none⟩), .int .i64 2, .int .i64 c, .string (⟨#[]⟩)] w fun e w' => e = .returned (.bool (r.put (r.d.sync c)).2) /\ At w' b (r.put (r.d.sync c)).1.cells /\ Only w w' (fun j => j = b) := by
 rcases (by omega : c = 0 ∨ c = 1) with e | e <;> rw [e]
 ·exact rsSync0 b r w h ok kb
 ·exact rsSync1 b r w h ok kb
theorem rsCutN (b : Nat) (r : Rs) (c : Nat) (w : World) (h : At w b r.cells) (ok : r.d.Ok) (kb : kpB r.d.kp) (hc : c < 2) :
  Calls Tryz.prog 101 #[.pointer (some ⟨b, 0, none⟩), .int .i64 3, .int .i64 c, .string (⟨#[]⟩)] w fun e w' => e = .returned (.bool (r.put (r.d.cut c)).2) /\ At w' b (r.put (r.d.cut c)).1.cells /\ Only w w' (fun j => j = b) := by
 rcases (by omega : c = 0 ∨ c = 1) with e | e <;> rw [e]
 ·exact rsCut0 b r w h ok kb
 ·exact rsCut1 b r w h ok kb
theorem rUp_no (bp : Nat) (i : Int) (w : World) (hi : ¬ is01 i) :
  Calls Tryz.prog 94 #[.pointer (some ⟨bp, 0, none⟩), .int .i64 i] w fun e w' => e = .returned (.int .i64 2) /\ w' = w := by
 unfold is01 at hi
 have h0 : (i != 0) = true := by simp; omega
 have h1 : (i != 1) = true := by simp; omega
 clear hi
 go_enter Tryz.func94, Tryz.ntmps94
 go_wp2
 go_ret
 exact ⟨rfl, rfl⟩
theorem rUp_yes (bp b0 b1 : Nat) (cI cO cJ : Int) (f0 f1 : Value) (i : Int) (r : Rs) (w : World) (h : At w bp (ryC cI cO cJ b0 b1 f0 f1)) (hr : At w (pick01 b0 b1 i) r.cells) (hi : is01 i) :
  Calls Tryz.prog 94 #[.pointer (some ⟨bp, 0, none⟩), .int .i64 i] w fun e w' => e = .returned (.int .i64 (if r.up = true then 0 else 3)) /\ w' = w := by
 have c3 := h.c 3 _ rfl
 have c4 := h.c 4 _ rfl
 have r0 := hr.c 0 _ rfl
 clear h hr
 cases hu : r.up <;> rw [hu] at r0
 all_goals
  rcases hi with rfl | rfl
  all_goals
   simp only [pick01] at r0
   simp at r0
   go_enter Tryz.func94, Tryz.ntmps94
   go_wp2
   go_ret
   exact ⟨rfl, rfl⟩
theorem rUp_any (bp b0 b1 : Nat) (cI cO cJ : Int) (f0 f1 : Value) (i : Int) (r0 r1 : Rs) (w : World) (h : At w bp (ryC cI cO cJ b0 b1 f0 f1)) (h0 : At w b0 r0.cells) (h1 : At w b1 r1.cells) :
  Calls Tryz.prog 94 #[.pointer (some ⟨bp, 0, none⟩), .int .i64 i] w fun e w' => e = .returned (.int .i64 (upE r0.up r1.up i)) /\ w' = w := by
 by_cases hi : is01 i
 ·have e : upE r0.up r1.up i = if pick01 r0.up r1.up i = true then 0 else 3 := if_pos hi
  rw [e]
  rcases hi with rfl | rfl
  ·exact rUp_yes bp b0 b1 cI cO cJ f0 f1 0 r0 w h h0 (.inl rfl)
  ·exact rUp_yes bp b0 b1 cI cO cJ f0 f1 1 r1 w h h1 (.inr rfl)
 ·have e : upE r0.up r1.up i = 2 := if_neg hi
  rw [e]
  exact rUp_no bp i w hi
theorem put_ct (r : Rs) (a : Dk × Bool) : (r.put a).1.ct = r.ct := by unfold Rs.put; split <;> rfl
theorem put_dkp (r : Rs) (a : Dk × Bool) (h : a.1.kp = r.d.kp ∨ a.1.kp = 0) (hk : kpB r.d.kp) : kpB (r.put a).1.d.kp := by
 unfold Rs.put
 split
 ·exact kpB_or hk h
 ·exact hk
theorem put_ok (r : Rs) (a : Dk × Bool) (h : a.1.Ok) : (r.put a).1.d.Ok := by
 unfold Rs.put
 split
 ·exact h
 ·exact ⟨h.a0, h.a1, h.b0, h.b1, h.u, h.u'⟩
theorem rJournal_any (bp b0 b1 : Nat) (cI cO cJ : Int) (f0 f1 : Value) (i : Int) (r : Rs) (p : Rc) (w : World) (h : At w bp (ryC cI cO cJ b0 b1 f0 f1)) (hr : At w (pick01 b0 b1 i) r.cells) (hi : is01 i) (ok : r.d.Ok) (kb : kpB r.d.kp) (hct : r.ct < 2) (hcj : cJ <= 5000) (tp : Told p) (hp : p.items = [] /\ p.outs = []) (hne : bp ≠ pick01 b0 b1 i) :
  Calls Tryz.prog 98 #[.pointer (some ⟨bp, 0, none⟩), .int .i64 i, rv p.kind p.seq p.it p.mks (.slice none 0 0) (.slice none 0 0)] w fun e w' => e = .returned (.int .i64 (r.jrn cJ p).1) /\ At w' (pick01 b0 b1 i) (r.jrn cJ p).2.cells /\ Only w w' (fun j => j = pick01 b0 b1 i) := by
 obtain ⟨b, hb⟩ : ∃ b, pick01 b0 b1 i = b := ⟨_, rfl⟩
 rw [hb] at hr hne ⊢
 have G0 : Hid (w.grownBy (w.alloc (.cells #[.int .i64 p.kind, .int .i64 p.seq, .int .i64 p.it.sh, .int .i64 p.it.nu, .float .f32 p.it.pl, .float .f32 p.it.sp, .int .i64 p.mks.g, .int .i64 p.mks.m, .int .i64 p.mks.s, .int .i64 p.mks.a, .int .i64 p.mks.n, .slice none 0 0, .slice none 0 0] 139)) none) := World.grownBy_alloc w _ none
 have FR := Hid.mk' (refFramed_any p (.slice none 0 0) (.slice none 0 0) (w.alloc (.cells #[.int .i64 p.kind, .int .i64 p.seq, .int .i64 p.it.sh, .int .i64 p.it.nu, .float .f32 p.it.pl, .float .f32 p.it.sp, .int .i64 p.mks.g, .int .i64 p.mks.m, .int .i64 p.mks.s, .int .i64 p.mks.a, .int .i64 p.mks.n, .slice none 0 0, .slice none 0 0] 139)) (by rw [hp.1]; exact lies_nil _) (by rw [hp.2]; exact liesE_nil _) tp.wf tp.m (by rw [hp.1]; simp) (by rw [hp.2]; simp))
 have H := Hid.mk' h
 have HR := Hid.mk' hr
 have hsf := run_store_float
 have zf := S_size (frm p)
 have zr := S_size (r.d.file r.ct)
 obtain ⟨F, hF⟩ : ∃ F, frm p = F := ⟨_, rfl⟩
 have HF := Hid.mk' hF
 have fl : F.length <= 1200 := by
  have := (enc_len p tp.m).2
  rw [<- hF, frm_length]; omega
 have rl : (r.d.file r.ct).length <= 10000 := by
  unfold Dk.file
  split
  ·exact ok.b0
  ·exact ok.b1
 rw [hF] at FR zf
 have cfile : Hid (∀ W, At W b r.cells -> W.cell? ⟨b, 1 + r.ct, none⟩ = some (.string (S (r.d.file r.ct)))) := Hid.mk' fun W hW => by
  rcases (by omega : r.ct = 0 ∨ r.ct = 1) with e | e <;> rw [e]
  ·exact hW.c 1 _ rfl
  ·exact hW.c 2 _ rfl
 have pc : Hid (∀ W, At W bp (ryC cI cO cJ b0 b1 f0 f1) -> W.cell? ⟨bp, 3 + i.toNat, none⟩ = some (.pointer (some ⟨b, 0, none⟩))) := Hid.mk' fun W hW => by
  rw [<- hb]
  rcases hi with rfl | rfl
  ·exact hW.c 3 _ rfl
  ·exact hW.c 4 _ rfl
 have p0 := pc.out _ (h.grown G0.out)
 have AP := Hid.mk' fun W hW => rsAppendN b r r.ct F W hW ok kb hct
 have okA : Hid ((r.d.file r.ct).length + F.length <= 10000 -> (r.put (r.d.append r.ct F)).1.d.Ok) := Hid.mk' fun hl => put_ok _ _ ((ok.append r.ct F hl).act)
 have kA := Hid.mk' (put_dkp r (r.d.append r.ct F) (append_kp _ _ _) kb)
 have SY := Hid.mk' fun W hW ok' => rsSyncN b (r.put (r.d.append r.ct F)).1 r.ct W hW ok' kA.out hct
 have JR : Hid (r.jrn cJ p = if cJ < ((r.d.file r.ct).length : Int) + (F.length : Int) then (5, r)
   else if (r.put (r.d.append r.ct F)).2 = false then (3, (r.put (r.d.append r.ct F)).1)
   else if ((r.put (r.d.append r.ct F)).1.put ((r.put (r.d.append r.ct F)).1.d.sync r.ct)).2 = false then (3, ((r.put (r.d.append r.ct F)).1.put ((r.put (r.d.append r.ct F)).1.d.sync r.ct)).1)
   else (0, ((r.put (r.d.append r.ct F)).1.put ((r.put (r.d.append r.ct F)).1.d.sync r.ct)).1)) := by
  show _ = _
  unfold Rs.jrn
  rw [hF]
 have CT := Hid.mk' (put_ct r (r.d.append r.ct F))
 rw [JR.out]
 clear JR h hr hp tp hF ok kb
 have rc := HR.out.c 5 _ rfl
 have rbl := HR.out.lt
 have pbl := H.out.lt
 have l0 : Hid ((1 : Nat) + r.ct = 1 + r.ct) := rfl
 generalize r.d.file r.ct = T at *
 obtain ⟨A, hA⟩ : ∃ A, r.put (r.d.append r.ct F) = A := ⟨_, rfl⟩
 rw [hA] at AP okA kA SY CT ⊢
 obtain ⟨Bq, hBq⟩ : ∃ Bq, A.1.put (A.1.d.sync r.ct) = Bq := ⟨_, rfl⟩
 rw [hBq] at SY ⊢
 clear hA hBq
 generalize hcc : r.ct = c at *
 obtain ⟨c, rfl⟩ : ∃ c' : Nat, c' = c := ⟨c, rfl⟩
 have hc2 : c = 0 ∨ c = 1 := by omega
 have cf0 := cfile.out _ (HR.out.grown G0.out)
 have i0 : (0 : Int) <= i := by unfold is01 at hi; omega
 have i1 : i < 2 := by unfold is01 at hi; omega
 have cc0 : (0 : Int) <= (c : Int) := by omega
 have cc1 : (c : Int) < 2 := by omega
 unfold rv at FR ⊢
 clear hi
 have w64 : IntKind.i64.wrap ((T.length : Int) + (F.length : Int)) = (T.length : Int) + (F.length : Int) := by simp [IntKind.wrap, IntKind.bits, IntKind.signed]; omega
 by_cases cc : cJ < (T.length : Int) + (F.length : Int)
 ·rw [if_pos cc]
  go_enter Tryz.func98, Tryz.ntmps98
  go_wp2_with fail
  refine Calls.mono FR.out ?_
  rintro e w1 ⟨rfl, g1⟩
  have G1 := Hid.mk' (G0.out.trans g1)
  have H1 := Hid.mk' (H.out.grown G1.out)
  have HR1 := Hid.mk' (HR.out.grown G1.out)
  have q5 := HR1.out.c 5 _ rfl
  have q2 := H1.out.c 2 _ rfl
  have qf := cfile.out _ HR1.out
  rw [hcc] at q5
  clear cf0 p0 rc
  go_wp2_with fail
  go_quiet (fail)
  go_wp2
  go_ret
  exact ⟨rfl, HR1.out.drewN _, ((Only.grown (grownBy_drewN G1.out nq)).mono (by simp))⟩
 have hl : T.length + F.length <= 10000 := by omega
 have OKA := Hid.mk' (okA.out hl)
 rw [if_neg cc]
 have cc' : ¬ (T.length : Int) + (F.length : Int) > cJ := by omega
 cases hA2 : A.2
 ·rw [if_pos rfl]
  rw [hA2] at AP
  go_enter Tryz.func98, Tryz.ntmps98
  go_wp2_with fail
  refine Calls.mono FR.out ?_
  rintro e w1 ⟨rfl, g1⟩
  have G1 := Hid.mk' (G0.out.trans g1)
  have H1 := Hid.mk' (H.out.grown G1.out)
  have HR1 := Hid.mk' (HR.out.grown G1.out)
  have q5 := HR1.out.c 5 _ rfl
  have q2 := H1.out.c 2 _ rfl
  have qf := cfile.out _ HR1.out
  rw [hcc] at q5
  clear cf0 p0 rc
  go_wp2_with fail
  go_quiet (fail)
  have q5' := (HR1.out.drewN nq).c 5 _ rfl
  rw [hcc] at q5'
  go_wp2_with fail
  refine Calls.mono (AP.out _ (HR1.out.drewN nq) hl) ?_
  rintro e w2 ⟨rfl, a2, o2⟩
  go_wp2
  go_ret
  exact ⟨rfl, a2, ((Only.grown (grownBy_drewN G1.out nq)).mono (by simp)).trans (o2.mono (fun _ _ e => .inl e))⟩
 rw [if_neg (by simp)]
 rw [hA2] at AP
 cases hB2 : Bq.2
 ·rw [if_pos rfl]
  rw [hB2] at SY
  go_enter Tryz.func98, Tryz.ntmps98
  go_wp2_with fail
  refine Calls.mono FR.out ?_
  rintro e w1 ⟨rfl, g1⟩
  have G1 := Hid.mk' (G0.out.trans g1)
  have H1 := Hid.mk' (H.out.grown G1.out)
  have HR1 := Hid.mk' (HR.out.grown G1.out)
  have q5 := HR1.out.c 5 _ rfl
  have q2 := H1.out.c 2 _ rfl
  have qf := cfile.out _ HR1.out
  rw [hcc] at q5
  clear cf0 p0 rc
  go_wp2_with fail
  go_quiet (fail)
  have q5' := (HR1.out.drewN nq).c 5 _ rfl
  rw [hcc] at q5'
  go_wp2_with fail
  refine Calls.mono (AP.out _ (HR1.out.drewN nq) hl) ?_
  rintro e w2 ⟨rfl, a2, o2⟩
  have A2 := Hid.mk' a2
  have r5 := a2.c 5 _ rfl
  rw [CT.out] at r5
  clear a2
  go_wp2_with fail
  refine Calls.mono (SY.out _ A2.out OKA.out) ?_
  rintro e w3 ⟨rfl, a3, o3⟩
  go_wp2
  go_ret
  exact ⟨rfl, a3, (((Only.grown (grownBy_drewN G1.out nq)).mono (by simp)).trans (o2.mono (fun _ _ e => .inl e))).trans (o3.mono (fun _ _ e => .inl e))⟩
 ·rw [if_neg (by simp)]
  rw [hB2] at SY
  go_enter Tryz.func98, Tryz.ntmps98
  go_wp2_with fail
  refine Calls.mono FR.out ?_
  rintro e w1 ⟨rfl, g1⟩
  have G1 := Hid.mk' (G0.out.trans g1)
  have H1 := Hid.mk' (H.out.grown G1.out)
  have HR1 := Hid.mk' (HR.out.grown G1.out)
  have q5 := HR1.out.c 5 _ rfl
  have q2 := H1.out.c 2 _ rfl
  have qf := cfile.out _ HR1.out
  rw [hcc] at q5
  clear cf0 p0 rc
  go_wp2_with fail
  go_quiet (fail)
  have q5' := (HR1.out.drewN nq).c 5 _ rfl
  rw [hcc] at q5'
  go_wp2_with fail
  refine Calls.mono (AP.out _ (HR1.out.drewN nq) hl) ?_
  rintro e w2 ⟨rfl, a2, o2⟩
  have A2 := Hid.mk' a2
  have r5 := a2.c 5 _ rfl
  rw [CT.out] at r5
  clear a2
  go_wp2_with fail
  refine Calls.mono (SY.out _ A2.out OKA.out) ?_
  rintro e w3 ⟨rfl, a3, o3⟩
  go_wp2
  go_ret
  exact ⟨rfl, a3, (((Only.grown (grownBy_drewN G1.out nq)).mono (by simp)).trans (o2.mono (fun _ _ e => .inl e))).trans (o3.mono (fun _ _ e => .inl e))⟩
structure RY (w : World) (bp b0 b1 : Nat) (cI cO cJ : Int) (r0 r1 : Rs) : Prop where
 at_ : At w bp (ryC cI cO cJ b0 b1 (.slice none 0 0) (.slice none 0 0))
 a0 : At w b0 r0.cells
 a1 : At w b1 r1.cells
 d01 : b0 ≠ b1
 dp0 : bp ≠ b0
 dp1 : bp ≠ b1
theorem RY.at {w : World} {bp b0 b1 : Nat} {cI cO cJ : Int} {r0 r1 : Rs} (h : RY w bp b0 b1 cI cO cJ r0 r1) {i : Int} (hi : is01 i) : At w (pick01 b0 b1 i) (pick01 r0 r1 i).cells /\ bp ≠ pick01 b0 b1 i := by
 rcases hi with rfl | rfl
 ·exact ⟨h.a0, h.dp0⟩
 ·exact ⟨h.a1, h.dp1⟩
theorem RY.only {w w' : World} {bp b0 b1 : Nat} {cI cO cJ : Int} {r0 r1 : Rs} {A : Nat -> Prop} (h : RY w bp b0 b1 cI cO cJ r0 r1) (o : Only w w' A) (n : ¬ A bp) (n0 : ¬ A b0) (n1 : ¬ A b1) : RY w' bp b0 b1 cI cO cJ r0 r1 :=
 ⟨h.at_.only o n, h.a0.only o n0, h.a1.only o n1, h.d01, h.dp0, h.dp1⟩
theorem RY.grown {w w' : World} {bp b0 b1 : Nat} {cI cO cJ : Int} {r0 r1 : Rs} (h : RY w bp b0 b1 cI cO cJ r0 r1) (g : w.grownBy w' none) : RY w' bp b0 b1 cI cO cJ r0 r1 := h.only (Only.grown g) (by simp) (by simp) (by simp)
def put01 {α : Type} (x y z : α) (i : Int) : α × α := if i = 0 then (z, y) else (x, z)
theorem RY.put {w w' : World} {bp b0 b1 : Nat} {cI cO cJ : Int} {r0 r1 r : Rs} (h : RY w bp b0 b1 cI cO cJ r0 r1) {i : Int} (hi : is01 i) (o : Only w w' (fun j => j = pick01 b0 b1 i)) (a : At w' (pick01 b0 b1 i) r.cells) : RY w' bp b0 b1 cI cO cJ (put01 r0 r1 r i).1 (put01 r0 r1 r i).2 := by
 rcases hi with rfl | rfl
 ·exact ⟨h.at_.only o h.dp0, a, h.a1.only o h.d01.symm, h.d01, h.dp0, h.dp1⟩
 ·exact ⟨h.at_.only o h.dp1, h.a0.only o h.d01, a, h.d01, h.dp0, h.dp1⟩
theorem rTick_w (bp b0 b1 : Nat) (cI cO cJ : Int) (r0 r1 : Rs) (i : Int) (w : World) (h : RY w bp b0 b1 cI cO cJ r0 r1) (Q : Ending -> World -> Prop)
  (hno : upE r0.up r1.up i ≠ 0 -> Q (.returned (.int .i64 (upE r0.up r1.up i))) w) (hok : upE r0.up r1.up i = 0 -> Calls Tryz.prog 98 #[.pointer (some ⟨bp, 0, none⟩), .int .i64 i, rv 3 0 it0 mk0 (.slice none 0 0) (.slice none 0 0)] w fun e w' => ∃ v, e = .returned v /\ Q (.returned v) w') :
  Calls Tryz.prog 50 #[.pointer (some ⟨bp, 0, none⟩), .int .i64 i] w Q := by
 have U := Hid.mk' (rUp_any bp b0 b1 cI cO cJ _ _ i r0 r1 w h.at_ h.a0 h.a1)
 clear h
 by_cases c : upE r0.up r1.up i = 0
 ·have OK := Hid.mk' (hok c)
  rw [c] at U
  unfold rv it0 mk0 at OK
  clear hno hok c
  go_enter Tryz.func50, Tryz.ntmps50
  go_wp2_with fail
  refine Calls.mono U.out ?_
  rintro e w1 ⟨rfl, rfl⟩
  go_wp2_with fail
  refine Calls.mono OK.out ?_
  rintro e w2 ⟨v, rfl, q⟩
  go_wp2
  first | exact q | (go_ret; exact q)
 ·have NO := Hid.mk' (hno c)
  have cb : (upE r0.up r1.up i != 0) = true := by simpa using c
  generalize upE r0.up r1.up i = z at *
  clear hno hok
  go_enter Tryz.func50, Tryz.ntmps50
  go_wp2_with fail
  refine Calls.mono U.out ?_
  rintro e w1 ⟨rfl, rfl⟩
  go_wp2
  first | exact NO.out | (go_ret; exact NO.out)
theorem RY.ptr {w : World} {bp b0 b1 : Nat} {cI cO cJ : Int} {f0 f1 : Value} (h : At w bp (ryC cI cO cJ b0 b1 f0 f1)) {i : Int} (hi : is01 i) : w.cell? ⟨bp, 3 + i.toNat, none⟩ = some (.pointer (some ⟨pick01 b0 b1 i, 0, none⟩)) := by
 rcases hi with rfl | rfl
 ·exact h.c 3 _ rfl
 ·exact h.c 4 _ rfl
theorem is01_bd {i : Int} (hi : is01 i) : 0 <= i /\ i < 2 := by unfold is01 at hi; omega
theorem rBreak_any (bp b0 b1 : Nat) (cI cO cJ : Int) (r0 r1 : Rs) (i k n : Int) (w : World) (h : RY w bp b0 b1 cI cO cJ r0 r1) :
  Calls Tryz.prog 52 #[.pointer (some ⟨bp, 0, none⟩), .int .i64 i, .int .i64 k, .int .i64 n] w fun e w' => (¬ is01 i ∨ k < 0 -> e = .returned (.int .i64 2) /\ w' = w) /\ (is01 i /\ 0 <= k -> e = .returned (.int .i64 0) /\ At w' (pick01 b0 b1 i) (⟨(pick01 r0 r1 i).up, { (pick01 r0 r1 i).d with un := k, kp := n }, (pick01 r0 r1 i).ct⟩ : Rs).cells /\ Only w w' (fun j => j = pick01 b0 b1 i)) := by
 by_cases hi : is01 i
 ·obtain ⟨ha, hne⟩ := h.at hi
  have p0 := RY.ptr h.at_ hi
  obtain ⟨i0, i1⟩ := is01_bd hi
  generalize pick01 r0 r1 i = r at *
  generalize pick01 b0 b1 i = b at *
  have HA := Hid.mk' ha
  have cf := ha.f
  have c6 := ha.c 6 _ rfl
  have c7 := ha.c 7 _ rfl
  have bl := ha.lt
  have HI := Hid.mk' hi
  have n01 : (i != 0 && i != 1) = false := by rcases hi with rfl | rfl <;> rfl
  clear h ha
  have p1 : (w.setCell ⟨b, 6, none⟩ (.int .i64 k)).cell? ⟨bp, 3 + i.toNat, none⟩ = some (.pointer (some ⟨b, 0, none⟩)) := (Only.set w b 6 (.int .i64 k)).cell p0 (fun e => hne e)
  by_cases hk : k < 0
  ·rcases hi with rfl | rfl
   all_goals
    go_enter Tryz.func52, Tryz.ntmps52
    go_wp2
    go_ret
    exact ⟨fun _ => ⟨rfl, rfl⟩, fun h => by omega⟩
  ·have hk' : 0 <= k := by omega
   rcases hi with rfl | rfl
   all_goals
    simp at p0 p1
    go_enter Tryz.func52, Tryz.ntmps52
    go_wp2
    go_ret
    exact ⟨fun h => by first | omega | (rcases h with h | h; exact absurd HI.out h; omega), fun _ => ⟨rfl, (HA.out.put 6 _ (by simp [Rs.cells])).put 7 _ (by simp [Rs.cells]), Only.set2 w b 6 7 _ _⟩⟩
 ·have h0 : (i != 0) = true := by unfold is01 at hi; simp; omega
  have h1 : (i != 1) = true := by unfold is01 at hi; simp; omega
  have HI := Hid.mk' hi
  clear h hi
  go_enter Tryz.func52, Tryz.ntmps52
  go_wp2
  go_ret
  exact ⟨fun _ => ⟨rfl, rfl⟩, fun h => absurd h.1 HI.out⟩
theorem rCrash_any (bp b0 b1 : Nat) (cI cO cJ : Int) (r0 r1 : Rs) (i n : Int) (w : World) (h : RY w bp b0 b1 cI cO cJ r0 r1) (ok0 : r0.d.Ok) (ok1 : r1.d.Ok) (hn : kpB n) :
  Calls Tryz.prog 53 #[.pointer (some ⟨bp, 0, none⟩), .int .i64 i, .int .i64 n] w fun e w' => e = .returned (.int .i64 (upE r0.up r1.up i)) /\ (upE r0.up r1.up i ≠ 0 -> w' = w) /\ (upE r0.up r1.up i = 0 -> At w' (pick01 b0 b1 i) ((pick01 r0 r1 i).lost n).cells /\ Only w w' (fun j => j = pick01 b0 b1 i)) := by
 have U := Hid.mk' (rUp_any bp b0 b1 cI cO cJ _ _ i r0 r1 w h.at_ h.a0 h.a1)
 by_cases c : upE r0.up r1.up i = 0
 ·have hi : is01 i := by
   refine Decidable.byContradiction fun hi => ?_
   unfold upE at c
   rw [if_neg hi] at c
   omega
  obtain ⟨ha, hne⟩ := h.at hi
  have p0 := RY.ptr h.at_ hi
  have ok : (pick01 r0 r1 i).d.Ok := by rcases hi with rfl | rfl; exact ok0; exact ok1
  obtain ⟨i0, i1⟩ := is01_bd hi
  rw [c] at U
  have C := Hid.mk' c
  generalize pick01 r0 r1 i = r at *
  generalize pick01 b0 b1 i = b at *
  have LO := Hid.mk' (rsLost_any b r n w ha ok hn)
  clear h ha ok ok0 ok1
  go_enter Tryz.func53, Tryz.ntmps53
  go_wp2_with fail
  refine Calls.mono U.out ?_
  rintro e w1 ⟨rfl, rfl⟩
  go_wp2_with fail
  refine Calls.mono LO.out ?_
  rintro e w2 ⟨rfl, a2, o2⟩
  go_wp2
  go_ret
  exact ⟨by rw [C.out]; rfl, fun h => absurd C.out h, fun _ => ⟨a2, o2⟩⟩
 ·have cb : (upE r0.up r1.up i == 0) = false := by simpa using c
  generalize upE r0.up r1.up i = z at *
  clear h ok0 ok1
  go_enter Tryz.func53, Tryz.ntmps53
  go_wp2_with fail
  refine Calls.mono U.out ?_
  rintro e w1 ⟨rfl, rfl⟩
  go_wp2
  go_ret
  exact ⟨rfl, fun _ => rfl, fun h => absurd h c⟩
theorem rFile_any (bp b0 b1 : Nat) (cI cO cJ : Int) (r0 r1 : Rs) (i k : Int) (w : World) (h : RY w bp b0 b1 cI cO cJ r0 r1) :
  Calls Tryz.prog 119 #[.pointer (some ⟨bp, 0, none⟩), .int .i64 i, .int .i64 k] w fun e w' => e = .returned (.tuple #[.string (if is01 i /\ is01 k then S ((pick01 r0 r1 i).d.file k.toNat) else S []), .int .i64 (if is01 i then (if is01 k then 0 else 4) else 2)]) /\ w' = w := by
 by_cases hi : is01 i
 ·obtain ⟨ha, hne⟩ := h.at hi
  have p0 := RY.ptr h.at_ hi
  obtain ⟨i0, i1⟩ := is01_bd hi
  generalize pick01 r0 r1 i = r at *
  generalize pick01 b0 b1 i = b at *
  have c1 := ha.c 1 _ rfl
  have c2 := ha.c 2 _ rfl
  clear h ha
  rw [if_pos hi]
  by_cases hk : is01 k
  ·rw [if_pos ⟨hi, hk⟩, if_pos hk]
   rcases hi with rfl | rfl
   all_goals
    simp at p0
    rcases hk with rfl | rfl
    all_goals
     go_enter Tryz.func119, Tryz.ntmps119
     go_wp2
     go_ret2
     exact ⟨rfl, rfl⟩
  ·rw [if_neg (fun h => hk h.2), if_neg hk]
   have h0 : (k != 0) = true := by unfold is01 at hk; simp; omega
   have h1 : (k != 1) = true := by unfold is01 at hk; simp; omega
   clear hk
   rcases hi with rfl | rfl
   all_goals
    go_enter Tryz.func119, Tryz.ntmps119
    go_wp2
    go_ret2
    exact ⟨rfl, rfl⟩
 ·rw [if_neg hi, if_neg (fun h => hi h.1)]
  have h0 : (i != 0) = true := by unfold is01 at hi; simp; omega
  have h1 : (i != 1) = true := by unfold is01 at hi; simp; omega
  clear h hi
  go_enter Tryz.func119, Tryz.ntmps119
  go_wp2
  go_ret2
  exact ⟨rfl, rfl⟩
theorem rFlying_nil (bp b0 b1 : Nat) (cI cO cJ : Int) (r0 r1 : Rs) (i : Int) (w : World) (h : RY w bp b0 b1 cI cO cJ r0 r1) :
  Calls Tryz.prog 115 #[.pointer (some ⟨bp, 0, none⟩), .int .i64 i] w fun e w' => e = .returned (.tuple #[.slice none 0 0, .int .i64 (if is01 i then 0 else 2)]) /\ w' = w := by
 by_cases hi : is01 i
 ·rw [if_pos hi]
  have c5 := h.at_.c 5 _ rfl
  have c6 := h.at_.c 6 _ rfl
  clear h
  rcases hi with rfl | rfl
  all_goals
   go_enter Tryz.func115, Tryz.ntmps115
   go_wp2
   go_ret2
   exact ⟨rfl, rfl⟩
 ·rw [if_neg hi]
  have h0 : (i != 0) = true := by unfold is01 at hi; simp; omega
  have h1 : (i != 1) = true := by unfold is01 at hi; simp; omega
  clear h hi
  go_enter Tryz.func115, Tryz.ntmps115
  go_wp2
  go_ret2
  exact ⟨rfl, rfl⟩
@[reducible] def cfgB (cI cO cJ : Int) : Prop := (1 <= cI /\ cI <= 16) /\ (1 <= cO /\ cO <= 8) /\ (1 <= cJ /\ cJ <= 2000)
def rs1 : Rs := ⟨true, dk1, 0⟩
theorem rNew_no (cI cO cJ : Int) (w : World) (hv : ¬ cfgB cI cO cJ) :
  Calls Tryz.prog 45 #[.agg #[.int .i64 cI, .int .i64 cO, .int .i64 cJ]] w fun e w' => e = .returned (.tuple #[.pointer none, .int .i64 1]) /\ w.grownBy w' none := by
 unfold cfgB at hv
 have G0 := Hid.mk' (World.grownBy_alloc w (.cells #[.int .i64 cI, .int .i64 cO, .int .i64 cJ] 23) none)
 by_cases a1 : cI < 1
 ·clear hv
  go_enter Tryz.func45, Tryz.ntmps45
  go_wp2
  go_ret2
  exact ⟨rfl, G0.out⟩
 have a1' : 1 <= cI := by omega
 by_cases a2 : 16 < cI
 ·clear hv
  go_enter Tryz.func45, Tryz.ntmps45
  go_wp2
  go_ret2
  exact ⟨rfl, G0.out⟩
 have a2' : cI <= 16 := by omega
 by_cases a3 : cO < 1
 ·clear hv
  go_enter Tryz.func45, Tryz.ntmps45
  go_wp2
  go_ret2
  exact ⟨rfl, G0.out⟩
 have a3' : 1 <= cO := by omega
 by_cases a4 : 8 < cO
 ·clear hv
  go_enter Tryz.func45, Tryz.ntmps45
  go_wp2
  go_ret2
  exact ⟨rfl, G0.out⟩
 have a4' : cO <= 8 := by omega
 by_cases a5 : cJ < 1
 ·clear hv
  go_enter Tryz.func45, Tryz.ntmps45
  go_wp2
  go_ret2
  exact ⟨rfl, G0.out⟩
 have a5' : 1 <= cJ := by omega
 have a6 : 2000 < cJ := by omega
 clear hv
 go_enter Tryz.func45, Tryz.ntmps45
 go_wp2
 go_ret2
 exact ⟨rfl, G0.out⟩
def Made (w wr : World) (bp k : Nat) (cI cO cJ : Int) : Prop :=
 w.heap.size <= bp /\ w.grownBy wr none /\ ((k = 0 /\ At wr bp [.int .i64 cI, .int .i64 cO, .int .i64 cJ, .pointer none, .pointer none, .slice none 0 0, .slice none 0 0]) ∨
  (k = 1 /\ ∃ b0, At wr bp [.int .i64 cI, .int .i64 cO, .int .i64 cJ, .pointer (some ⟨b0, 0, none⟩), .pointer none, .slice none 0 0, .slice none 0 0] /\ At wr b0 rs1.cells /\ w.heap.size <= b0 /\ bp ≠ b0) ∨
  (k = 2 /\ ∃ b0 b1, RY wr bp b0 b1 cI cO cJ rs1 rs1 /\ w.heap.size <= b0 /\ w.heap.size <= b1))
theorem rNew_yes (cI cO cJ : Int) (w : World) (hv : cfgB cI cO cJ) :
  Calls Tryz.prog 45 #[.agg #[.int .i64 cI, .int .i64 cO, .int .i64 cJ]] w fun e w' => ∃ bp b0 b1, e = .returned (.tuple #[.pointer (some ⟨bp, 0, none⟩), .int .i64 0]) /\ RY w' bp b0 b1 cI cO cJ rs1 rs1 /\ w.heap.size <= bp /\ w.heap.size <= b0 /\ w.heap.size <= b1 /\ w.grownBy w' none := by
 obtain ⟨⟨a1, a2⟩, ⟨a3, a4⟩, ⟨a5, a6⟩⟩ := hv
 have a1' : ¬ cI < 1 := by omega
 have a2' : ¬ 16 < cI := by omega
 have a3' : ¬ cO < 1 := by omega
 have a4' : ¬ 8 < cO := by omega
 have a5' : ¬ cJ < 1 := by omega
 have a6' : ¬ 2000 < cJ := by omega
 have fl := frm1_len
 have zf := S_size (frm base1)
 obtain ⟨F, hF⟩ : ∃ F, frm base1 = F := ⟨_, rfl⟩
 have HF := Hid.mk' hF
 have FR : Hid (∀ W : World, Calls Tryz.prog 92 #[rv 6 0 it0 ⟨1, 0, 0, 0, 0⟩ (.slice none 0 0) (.slice none 0 0)] W fun e w' => e = .returned (.string (S F)) /\ W.grownBy w' none) := Hid.mk' fun W => by
  have := refFramed_any base1 (.slice none 0 0) (.slice none 0 0) W (lies_nil W) (liesE_nil W) told1.wf told1.m (by simp [base1]) (by simp [base1])
  rw [hF] at this
  exact this
 unfold rv it0 at FR
 rw [hF] at fl zf
 have RC : Hid (rs1.cells = [.bool true, .string (S F), .string (S []), .int .i64 (F.length : Nat), .int .i64 0, .int .i64 0, .int .i64 0, .int .i64 0]) := by
  show _ = _
  rw [<- hF]; rfl
 clear hF
 go_enter Tryz.func45, Tryz.ntmps45
 go_wp2_with fail
 refine Calls.mono (FR.out _) ?_
 rintro e w1 ⟨rfl, g1⟩
 have M0 : Hid (Made w w1 (w.heap.size + 1) 0 cI cO cJ) := by
  refine ⟨by omega, (grownBy_two w _ _).trans g1, .inl ⟨rfl, ?_⟩⟩
  have := (At.new (w.alloc (.cells #[.int .i64 cI, .int .i64 cO, .int .i64 cJ] 23)) [.int .i64 cI, .int .i64 cO, .int .i64 cJ, .pointer none, .pointer none, .slice none 0 0, .slice none 0 0] 145).grown g1
  simpa using this
 clear g1
 go_wp2_with fail
 go_loopw [6] (fun f wr => ∃ k : Nat, k <= 2 /\ f = .int .i64 k /\ Made w wr (w.heap.size + 1) k cI cO cJ) (fun f _ => 2 - (intOf f).toNat)
 case atStart => exact ⟨0, by omega, rfl, M0.out⟩
 case round =>
  clear M0
  obtain ⟨k, hk, rfl, h1, g1, hm⟩ := hrel
  have G1 := Hid.mk' g1
  have z1 := g1.size
  rcases hm with ⟨rfl, at0⟩ | ⟨rfl, b0, at0, ab, hb0, hne⟩ | ⟨rfl, b0, b1, ry, hb0, hb1⟩
  ·have A0 := Hid.mk' at0
   have c3 := at0.c 3 _ rfl
   have cf := at0.f
   have cl := at0.lt
   have nb : ¬ w.heap.size + 1 = wr.heap.size := by omega
   clear at0 g1
   go_wp2
   have NB : At ((wr.setCell ⟨w.heap.size + 1, 3, none⟩ (.pointer (some ⟨wr.heap.size, 0, none⟩))).alloc (.cells #[.bool true, .string (S F), .string (S []), .int .i64 (F.length : Nat), .int .i64 0, .int .i64 0, .int .i64 0, .int .i64 0] 150)) wr.heap.size rs1.cells := by
    rw [RC.out]
    have := At.new (wr.setCell ⟨w.heap.size + 1, 3, none⟩ (.pointer (some ⟨wr.heap.size, 0, none⟩))) [.bool true, .string (S F), .string (S []), .int .i64 (F.length : Nat), .int .i64 0, .int .i64 0, .int .i64 0, .int .i64 0] 150
    simpa using this
   have NG := grownBy_alloc' (grownBy_store G1.out (k := w.heap.size + 1) (by omega) 3 (.pointer (some ⟨wr.heap.size, 0, none⟩))) (.cells #[.bool true, .string (S F), .string (S []), .int .i64 (F.length : Nat), .int .i64 0, .int .i64 0, .int .i64 0, .int .i64 0] 150)
   exact ⟨⟨1, by omega, rfl, h1, NG, .inr (.inl ⟨rfl, wr.heap.size, (A0.out.put 3 _ (by simp)).alloc _, NB, by omega, by omega⟩)⟩, by simp [intOf]⟩
  ·have A0 := Hid.mk' at0
   have B0 := Hid.mk' ab
   have c4 := at0.c 4 _ rfl
   have cf := at0.f
   have cl := at0.lt
   have bl0 := ab.lt
   have nb : ¬ w.heap.size + 1 = wr.heap.size := by omega
   clear at0 ab g1
   go_wp2
   have NB : At ((wr.setCell ⟨w.heap.size + 1, 4, none⟩ (.pointer (some ⟨wr.heap.size, 0, none⟩))).alloc (.cells #[.bool true, .string (S F), .string (S []), .int .i64 (F.length : Nat), .int .i64 0, .int .i64 0, .int .i64 0, .int .i64 0] 150)) wr.heap.size rs1.cells := by
    rw [RC.out]
    have := At.new (wr.setCell ⟨w.heap.size + 1, 4, none⟩ (.pointer (some ⟨wr.heap.size, 0, none⟩))) [.bool true, .string (S F), .string (S []), .int .i64 (F.length : Nat), .int .i64 0, .int .i64 0, .int .i64 0, .int .i64 0] 150
    simpa using this
   have NG := grownBy_alloc' (grownBy_store G1.out (k := w.heap.size + 1) (by omega) 4 (.pointer (some ⟨wr.heap.size, 0, none⟩))) (.cells #[.bool true, .string (S F), .string (S []), .int .i64 (F.length : Nat), .int .i64 0, .int .i64 0, .int .i64 0, .int .i64 0] 150)
   exact ⟨⟨2, by omega, rfl, h1, NG, .inr (.inr ⟨rfl, b0, wr.heap.size, ⟨(A0.out.put 4 _ (by simp)).alloc _, (B0.out.only (Only.set wr (w.heap.size + 1) 4 _) (fun e => hne e.symm)).alloc _, NB, by omega, hne, by omega⟩, hb0, by omega⟩)⟩, by simp [intOf]⟩
  ·have R := Hid.mk' ry
   clear ry g1
   go_wp2
   go_ret2
   exact ⟨_, b0, b1, rfl, R.out, h1, hb0, hb1, G1.out⟩
theorem within_any (n m : Int) (w : World) : Calls Tryz.prog 132 #[.int .i64 n, .int .i64 m] w fun e w' => e = .returned (.bool (decide (1 <= n /\ n <= m))) /\ w' = w := by
 by_cases h1 : 1 <= n
 ·by_cases h2 : n <= m
  ·rw [decide_eq_true ⟨h1, h2⟩]
   go_enter Tryz.func132, Tryz.ntmps132
   go_wp2
   go_ret
   exact ⟨rfl, rfl⟩
  ·rw [decide_eq_false (fun h => h2 h.2)]
   go_enter Tryz.func132, Tryz.ntmps132
   go_wp2
   go_ret
   exact ⟨rfl, rfl⟩
 ·rw [decide_eq_false (fun h => h1 h.1)]
  go_enter Tryz.func132, Tryz.ntmps132
  go_wp2
  go_ret
  exact ⟨rfl, rfl⟩
theorem cfg_any (cI cO cJ : Int) (w : World) : Calls Tryz.prog 76 #[.agg #[.int .i64 cI, .int .i64 cO, .int .i64 cJ]] w fun e w' => e = .returned (.bool (decide (cfgB cI cO cJ))) /\ w.grownBy w' none := by
 have G0 := Hid.mk' (World.grownBy_alloc w (.cells #[.int .i64 cI, .int .i64 cO, .int .i64 cJ] 23) none)
 have W1 := Hid.mk' fun W => within_any cI 16 W
 have W2 := Hid.mk' fun W => within_any cO 8 W
 have W3 := Hid.mk' fun W => within_any cJ 2000 W
 by_cases h1 : 1 <= cI /\ cI <= 16
 ·rw [decide_eq_true h1] at W1
  by_cases h2 : 1 <= cO /\ cO <= 8
  ·rw [decide_eq_true h2] at W2
   have e : decide (cfgB cI cO cJ) = decide (1 <= cJ /\ cJ <= 2000) := by unfold cfgB; simp [h1, h2]
   rw [e]
   generalize decide (1 <= cJ /\ cJ <= 2000) = z at *
   clear h1 h2 e
   go_enter Tryz.func76, Tryz.ntmps76
   go_wp2_with fail
   refine Calls.mono (W1.out _) ?_
   rintro e w1 ⟨rfl, rfl⟩
   go_wp2_with fail
   refine Calls.mono (W2.out _) ?_
   rintro e w1 ⟨rfl, rfl⟩
   go_wp2_with fail
   refine Calls.mono (W3.out _) ?_
   rintro e w1 ⟨rfl, rfl⟩
   go_wp2
   go_ret
   exact ⟨rfl, G0.out⟩
  ·rw [decide_eq_false h2] at W2
   rw [decide_eq_false (fun h => h2 h.2.1)]
   clear h1 h2
   go_enter Tryz.func76, Tryz.ntmps76
   go_wp2_with fail
   refine Calls.mono (W1.out _) ?_
   rintro e w1 ⟨rfl, rfl⟩
   go_wp2_with fail
   refine Calls.mono (W2.out _) ?_
   rintro e w1 ⟨rfl, rfl⟩
   go_wp2
   go_ret
   exact ⟨rfl, G0.out⟩
 ·rw [decide_eq_false h1] at W1
  rw [decide_eq_false (fun h => h1 h.1)]
  clear h1
  go_enter Tryz.func76, Tryz.ntmps76
  go_wp2_with fail
  refine Calls.mono (W1.out _) ?_
  rintro e w1 ⟨rfl, rfl⟩
  go_wp2
  go_ret
  exact ⟨rfl, G0.out⟩
theorem pNew_no (cI cO cJ : Int) (w : World) (hv : ¬ cfgB cI cO cJ) :
  Calls Tryz.prog 31 #[.agg #[.int .i64 cI, .int .i64 cO, .int .i64 cJ]] w fun e w' => e = .returned (.tuple #[.pointer none, .int .i64 1]) /\ w.grownBy w' none := by
 have G0 := Hid.mk' (World.grownBy_alloc w (.cells #[.int .i64 cI, .int .i64 cO, .int .i64 cJ] 23) none)
 have C := Hid.mk' fun W => cfg_any cI cO cJ W
 rw [decide_eq_false hv] at C
 clear hv
 go_enter Tryz.func31, Tryz.ntmps31
 go_wp2_with fail
 refine Calls.mono (C.out _) ?_
 rintro e w1 ⟨rfl, g1⟩
 go_wp2
 go_ret2
 exact ⟨rfl, G0.out.trans g1⟩
structure PP (w : World) (bp b0 b1 : Nat) (s0 s1 : Sh) (F0 F1 : Nat -> Prop) : Prop where
 at_ : At w bp (ppC b0 b1 (.slice none 0 0) (.slice none 0 0))
 p0 : PS w b0 s0 F0
 p1 : PS w b1 s1 F1
 n0 : ¬ F0 bp
 n1 : ¬ F1 bp
 dj : ∀ j, F0 j -> ¬ F1 j
 l0 : ∀ j, F0 j -> j < w.heap.size
 l1 : ∀ j, F1 j -> j < w.heap.size
def sh1 (no : Nat) (cI cO cJ : Int) : Sh := (Sh.init no cI cO cJ).restart
def PMade (w wr : World) (bp k : Nat) (cI cO cJ : Int) : Prop :=
 w.heap.size < bp /\ w.grownBy wr none /\ At wr w.heap.size [.int .i64 cI, .int .i64 cO, .int .i64 cJ] /\ ((k = 0 /\ At wr bp [.pointer none, .pointer none, .slice none 0 0, .slice none 0 0]) ∨
  (k = 1 /\ ∃ b0 F0, At wr bp [.pointer (some ⟨b0, 0, none⟩), .pointer none, .slice none 0 0, .slice none 0 0] /\ PS wr b0 (sh1 0 cI cO cJ) F0 /\ (∀ j, F0 j -> bp < j /\ j < wr.heap.size)) ∨
  (k = 2 /\ ∃ b0 b1 F0 F1, PP wr bp b0 b1 (sh1 0 cI cO cJ) (sh1 1 cI cO cJ) F0 F1 /\ (∀ j, F0 j -> w.heap.size <= j) /\ (∀ j, F1 j -> w.heap.size <= j)))
theorem pNew_yes (cI cO cJ : Int) (w : World) (hv : cfgB cI cO cJ) :
  Calls Tryz.prog 31 #[.agg #[.int .i64 cI, .int .i64 cO, .int .i64 cJ]] w fun e w' => ∃ bp b0 b1 F0 F1, e = .returned (.tuple #[.pointer (some ⟨bp, 0, none⟩), .int .i64 0]) /\ PP w' bp b0 b1 (sh1 0 cI cO cJ) (sh1 1 cI cO cJ) F0 F1 /\ w.heap.size <= bp /\ (∀ j, F0 j -> w.heap.size <= j) /\ (∀ j, F1 j -> w.heap.size <= j) /\ w.grownBy w' none := by
 have G0 := Hid.mk' (World.grownBy_alloc w (.cells #[.int .i64 cI, .int .i64 cO, .int .i64 cJ] 23) none)
 have C := Hid.mk' fun W => cfg_any cI cO cJ W
 rw [decide_eq_true hv] at C
 have SN0 := Hid.mk' fun W => shNew_any 0 cI cO cJ W
 have SN1 := Hid.mk' fun W => shNew_any 1 cI cO cJ W
 clear hv
 go_enter Tryz.func31, Tryz.ntmps31
 go_wp2_with fail
 refine Calls.mono (C.out _) ?_
 rintro e w1 ⟨rfl, g1⟩
 have z1 := g1.size
 have M0 : Hid (PMade w (w1.alloc (.cells #[.pointer none, .pointer none, .slice none 0 0, .slice none 0 0] 121)) w1.heap.size 0 cI cO cJ) := by
  refine ⟨by simp at z1; omega, grownBy_alloc' (G0.out.trans g1) _, ((At.new w [.int .i64 cI, .int .i64 cO, .int .i64 cJ] 23).grown g1).alloc _, .inl ⟨rfl, At.new w1 _ _⟩⟩
 clear g1
 generalize hbp : w1.heap.size = bp at *
 go_wp2_with fail
 go_loopw [10] (fun f wr => ∃ k : Nat, k <= 2 /\ f = .int .i64 k /\ PMade w wr bp k cI cO cJ) (fun f _ => 2 - (intOf f).toNat)
 case atStart => rw [<- hbp]; rw [<- hbp] at M0; exact ⟨0, by omega, rfl, M0.out⟩
 case round =>
  clear M0
  obtain ⟨k, hk, rfl, h1, g1, ac, hm⟩ := hrel
  have G1 := Hid.mk' g1
  have AC := Hid.mk' ac
  have zr := g1.size
  clear g1 ac
  rcases hm with ⟨rfl, at0⟩ | ⟨rfl, b0, F0, at0, ps, hF⟩ | ⟨rfl, b0, b1, F0, F1, pp, hF0, hF1⟩
  ·have A0 := Hid.mk' at0
   have x0 := at0.c 0 _ rfl
   have q0 := AC.out.c 0 _ rfl
   have bpl := at0.lt
   clear at0
   go_wp2_with fail
   refine wp_region_held_drew (S := fun w' => At w' w.heap.size [.int .i64 cI, .int .i64 cO, .int .i64 cJ]) (by kernel_rfl) (AC.out.drew) (fun hHeld => ?_)
   refine hTk 0 ?_
   simp only [lS0, lS1]
   refine hTk 1 ?_
   simp only [lS0, lS1]
   refine hTk 2 ?_
   simp only [lS0, lS1]
   refine hTy 3 rfl (by intro w hSw; have S0 := hSw.c 0 _ rfl; have S1 := hSw.c 1 _ rfl; have S2 := hSw.c 2 _ rfl; go_simp; try with_reducible rfl) ?_
   simp only [lS0, lS1]
   refine hTk 5 ?_
   simp only [lS0, lS1]
   refine hTk 6 ?_
   simp only [lS0, lS1]
   refine hCall 4 (f := 77) (args := #[.int .i64 0, .agg #[.int .i64 cI, .int .i64 cO, .int .i64 cJ]]) (by kernel_rfl) (by rfl) (by rfl) (by go_simp) ?_
   refine Calls.mono (SN0.out _) ?_
   rintro e w2 ⟨bn, rfl, ps, g2⟩
   have PSN := Hid.mk' ps
   have G2 : Hid (wr.grownBy w2 none) := (grownBy_drew (grownBy_refl _ _)).trans g2
   have h2 : At w2 w.heap.size [.int .i64 cI, .int .i64 cO, .int .i64 cJ] := hHeld.grown g2
   clear hHeld g2 ps
   have hHeld := h2
   refine ⟨_, rfl, hHeld, ?_⟩
   simp only [lS0, lS1]
   refine hTk 7 ?_
   simp only [lS0, lS1]
   refine hRun 8 (by kernel_rfl) (by rfl) (by rfl) ?_
   intro K hK
   have A2 := Hid.mk' (A0.out.grown G2.out)
   have t3 := A2.out.c 0 _ rfl
   have tf := A2.out.f
   have HH := Hid.mk' hHeld
   clear hHeld h2
   go_simp
   refine hK _ _ (HH.out.only (Only.set w2 bp 0 _) (fun e => by omega)) ?_
   clear hK K
   refine wpAnyH_done (by kernel_rfl) ?_ _
   have z2 := G2.out.size
   go_wp2
   refine ⟨⟨1, by omega, rfl, h1, ?_, HH.out.only (Only.set w2 bp 0 _) (fun e => by omega), .inr (.inl ⟨rfl, bn, _, A2.out.put 0 _ (by simp), PSN.out.only (Only.set w2 bp 0 _) (fun j hj e => by have := hj.1; simp at this; omega), fun j hj => ⟨by have := hj.1; simp at this; omega, by have := hj.2; simpa using this⟩⟩)⟩, by simp [intOf]⟩
   exact grownBy_store (G1.out.trans G2.out) (k := bp) (by omega) 0 _
  ·have A0 := Hid.mk' at0
   have P0 := Hid.mk' ps
   have HF := Hid.mk' hF
   have bpl := at0.lt
   clear at0 ps hF
   go_wp2_with fail
   refine wp_region_held_drew (S := fun w' => At w' w.heap.size [.int .i64 cI, .int .i64 cO, .int .i64 cJ]) (by kernel_rfl) (AC.out.drew) (fun hHeld => ?_)
   refine hTk 0 ?_
   simp only [lS0, lS1]
   refine hTk 1 ?_
   simp only [lS0, lS1]
   refine hTk 2 ?_
   simp only [lS0, lS1]
   refine hTy 3 rfl (by intro w hSw; have S0 := hSw.c 0 _ rfl; have S1 := hSw.c 1 _ rfl; have S2 := hSw.c 2 _ rfl; go_simp; try with_reducible rfl) ?_
   simp only [lS0, lS1]
   refine hTk 5 ?_
   simp only [lS0, lS1]
   refine hTk 6 ?_
   simp only [lS0, lS1]
   refine hCall 4 (f := 77) (args := #[.int .i64 1, .agg #[.int .i64 cI, .int .i64 cO, .int .i64 cJ]]) (by kernel_rfl) (by rfl) (by rfl) (by go_simp) ?_
   refine Calls.mono (SN1.out _) ?_
   rintro e w2 ⟨bn, rfl, ps, g2⟩
   have PSN := Hid.mk' ps
   have G2 : Hid (wr.grownBy w2 none) := (grownBy_drew (grownBy_refl _ _)).trans g2
   have h2 : At w2 w.heap.size [.int .i64 cI, .int .i64 cO, .int .i64 cJ] := hHeld.grown g2
   clear hHeld g2 ps
   have hHeld := h2
   refine ⟨_, rfl, hHeld, ?_⟩
   simp only [lS0, lS1]
   refine hTk 7 ?_
   simp only [lS0, lS1]
   refine hRun 8 (by kernel_rfl) (by rfl) (by rfl) ?_
   intro K hK
   have A2 := Hid.mk' (A0.out.grown G2.out)
   have t3 := A2.out.c 1 _ rfl
   have tf := A2.out.f
   have HH := Hid.mk' hHeld
   clear hHeld h2
   go_simp
   refine hK _ _ (HH.out.only (Only.set w2 bp 1 _) (fun e => by omega)) ?_
   clear hK K
   refine wpAnyH_done (by kernel_rfl) ?_ _
   have z2 := G2.out.size
   go_wp2
   have P0' := P0.out.only ((Only.grown G2.out).mono (A' := fun _ => False) (by simp)) (fun _ _ h => h)
   refine ⟨⟨2, by omega, rfl, h1, ?_, HH.out.only (Only.set w2 bp 1 _) (fun e => by omega), .inr (.inr ⟨rfl, b0, bn, F0, _, ⟨A2.out.put 1 _ (by simp), P0'.only (Only.set w2 bp 1 _) (fun j hj e => by have := (HF.out j hj).1; omega), PSN.out.only (Only.set w2 bp 1 _) (fun j hj e => by have := hj.1; simp at this; omega), fun h => by have := (HF.out _ h).1; omega, fun h => by have := h.1; simp at this; omega, fun j hj h => by have h2 := (HF.out j hj).2; have h3 := h.1; simp at h3; omega, fun j hj => by have := (HF.out j hj).2; simp; omega, fun j hj => by have := hj.2; simpa using this⟩, fun j hj => by have := (HF.out j hj).1; omega, fun j hj => by have := hj.1; simp at this; omega⟩)⟩, by simp [intOf]⟩
   exact grownBy_store (G1.out.trans G2.out) (k := bp) (by omega) 1 _
  ·have R := Hid.mk' pp
   have HF0 := Hid.mk' hF0
   have HF1 := Hid.mk' hF1
   clear pp hF0 hF1
   go_wp2
   go_ret2
   exact ⟨_, b0, b1, F0, F1, rfl, R.out, by omega, HF0.out, HF1.out, G1.out⟩
def Ds.after (no : Nat) (cO : Int) (d : Ds) (k : Nat) : Ds := (d.it.take k).foldl (Ds.tickOne no cO) ⟨[], d.ob, d.ms⟩
theorem Ds.after_succ (no : Nat) (cO : Int) (d : Ds) (k : Nat) (hk : k < d.it.length) : d.after no cO (k + 1) = (d.after no cO k).tickOne no cO d.it[k] := by
 unfold Ds.after
 rw [List.take_succ_eq_append_getElem hk, List.foldl_append]
 rfl
theorem tickOne_len (no : Nat) (cO : Int) (a : Ds) (i : It) : (a.tickOne no cO i).it.length <= a.it.length + 1 /\ (a.tickOne no cO i).ob.length <= a.ob.length + 1 /\ (0 <= a.ms.s -> a.ms.s <= 65535 -> 0 <= (a.tickOne no cO i).ms.s /\ (a.tickOne no cO i).ms.s <= 65535) := by
 unfold Ds.tickOne
 split
 ·exact ⟨by simp, by simp, fun h1 h2 => ⟨h1, h2⟩⟩
 split
 ·exact ⟨by simp, by simp, fun h1 h2 => ⟨h1, h2⟩⟩
 split
 ·exact ⟨by simp, by simp, fun h1 h2 => ⟨by show 0 <= a.ms.s + 1; omega, by show a.ms.s + 1 <= 65535; omega⟩⟩
 ·exact ⟨by simp, by simp, fun h1 h2 => ⟨h1, h2⟩⟩
theorem after_len (no : Nat) (cO : Int) (d : Ds) (h0 : 0 <= d.ms.s) (h1 : d.ms.s <= 65535) : ∀ k, k <= d.it.length -> (d.after no cO k).it.length <= k /\ (d.after no cO k).ob.length <= d.ob.length + k /\ 0 <= (d.after no cO k).ms.s /\ (d.after no cO k).ms.s <= 65535
 | 0, _ => ⟨Nat.le_refl _, Nat.le_refl _, h0, h1⟩
 | k + 1, h => by
  rw [Ds.after_succ no cO d k (by omega)]
  have h1' := tickOne_len no cO (d.after no cO k) d.it[k]
  have h2 := after_len no cO d h0 h1 k (by omega)
  have h3 := h1'.2.2 h2.2.2.1 h2.2.2.2
  omega
structure Tk (w wr : World) (b B no : Nat) (vi vo v vk : Value) (is : List It) (a : Ds) : Prop where
 at_ : At wr b (stC no vi vk a.ms)
 li : OwnI B wr vi is
 ol : OwnI w.heap.size wr v a.it
 oe : OwnE B wr vk a.ob
 on : Only w wr (fun j => j = b ∨ vo.ownBlock = some j)
 nv : ∀ j, vk.ownBlock = some j -> vo.ownBlock = some j ∨ w.heap.size <= j
 ne : ∀ j, v.ownBlock = some j -> vk.ownBlock ≠ some j
 nb : vk.ownBlock ≠ some b
 ni : ∀ j, vi.ownBlock = some j -> vk.ownBlock ≠ some j
 nl : ∀ j, vi.ownBlock = some j -> j < w.heap.size
 bl : b < w.heap.size
 vib : vi.ownBlock ≠ some b
theorem Tk.put {w wr w1 w2 : World} {b B no : Nat} {vi vo v vk v' : Value} {is : List It} {a : Ds} {x : It} (h : Tk w wr b B no vi vo v vk is a) (g : wr.grownBy w1 none) (g2 : w1.grownBy w2 v.ownBlock) (o : OwnI w.heap.size w2 v' (a.it ++ [x])) (hv : v'.ownBlock = v.ownBlock ∨ v'.ownBlock = some w1.heap.size) : Tk w w2 b B no vi vo v' vk is { a with it := a.it ++ [x] } := by
 have z := h.on.size
 have z1 := g.size
 have vl : ∀ j, v.ownBlock = some j -> w.heap.size <= j := fun j hj => (h.ol.lt j hj).1
 have o2 : Only wr w2 (fun j => v.ownBlock = some j) := ((Only.grown g).mono (by simp)).trans ((Only.grown g2).mono (fun _ _ e => .inl e))
 have kl : ∀ j, vk.ownBlock = some j -> j < wr.heap.size := fun j hj => (h.oe.lt j hj).2
 refine ⟨h.at_.only o2 (fun e => ?_), o2.own h.li (fun j hj e => ?_), o, o2.own h.oe (fun j hj e => ?_), h.on.trans (o2.mono (fun k _ e => .inr (vl k e))), h.nv, fun j hj => ?_, h.nb, h.ni, h.nl, h.bl, h.vib⟩
 ·have := vl b e; have := h.bl; omega
 ·have := vl j e; have := h.nl j hj; omega
 ·exact h.ne j e hj
 ·rcases hv with e | e
  ·exact h.ne j (e ▸ hj)
  ·intro e'
   have := kl j e'
   rw [e] at hj
   injection hj with hj
   omega
theorem Tk.leave {w wr W2 W3 w4 : World} {b B no : Nat} {vi vo v vk v' : Value} {is : List It} {a : Ds} {e : En} {m : Mk} (h : Tk w wr b B no vi vo v vk is a) (A2 : At W2 b (stC no vi vk m)) (o : Only wr W2 (fun j => j = b)) (g3 : W2.grownBy W3 none) (g4 : W3.grownBy w4 vk.ownBlock) (o4 : OwnE B w4 v' (a.ob ++ [e])) (h4 : v'.ownBlock = vk.ownBlock ∨ v'.ownBlock = some W3.heap.size) : Tk w (w4.setCell ⟨b, 2, none⟩ v') b B no vi vo v v' is ⟨a.it, a.ob ++ [e], m⟩ := by
 have z := h.on.size
 have z2 := o.size
 have z3 := g3.size
 have bl := h.at_.lt
 have nb' : v'.ownBlock ≠ some b := fun e' => by
  rcases h4 with e | e
  ·exact h.nb (e ▸ e')
  ·rw [e] at e'; injection e' with e'; omega
 have o5 : Only wr (w4.setCell ⟨b, 2, none⟩ v') (fun j => j = b ∨ vk.ownBlock = some j) := ((o.mono (fun _ _ e => .inl e)).trans ((Only.grown g3).mono (by simp))).trans (((Only.grown g4).mono (A' := fun j => (j = b ∨ vk.ownBlock = some j) ∨ wr.heap.size <= j) (fun _ _ e => .inl (.inr e))).trans ((Only.set w4 b 2 v').mono (fun _ _ e => .inl (.inl (.inl e)))))
 refine ⟨((A2.grown g3).only (Only.grown g4) h.nb).put 2 v' (by simp [stC]), o5.own h.li (fun j hj e => ?_), o5.own h.ol (fun j hj e => ?_), own_store o4 b 2 v' nb', h.on.trans (o5.mono (fun k _ e => ?_)), fun j hj => ?_, fun j hj e' => ?_, nb', fun j hj e' => ?_, h.nl, h.bl, h.vib⟩
 ·rcases e with e | e
  ·exact h.vib (e ▸ hj)
  ·exact h.ni j hj e
 ·rcases e with e | e
  ·have := (h.ol.lt j hj).1; have := h.bl; omega
  ·exact h.ne j hj e
 ·rcases e with e | e
  ·exact .inl (.inl e)
  ·rcases h.nv k e with e | e
   ·exact .inl (.inr e)
   ·exact .inr e
 ·rcases h4 with e | e
  ·exact h.nv j (e ▸ hj)
  ·rw [e] at hj; injection hj with hj; exact .inr (by omega)
 ·rcases h4 with e | e
  ·exact h.ne j hj (e ▸ e')
  ·have := (h.ol.lt j hj).2
   rw [e] at e'; injection e' with e'; omega
 ·rcases h4 with e | e
  ·exact h.ni j hj (e ▸ e')
  ·have := h.nl j hj
   rw [e] at e'; injection e' with e'; omega
theorem refTick_any (no b B : Nat) (cO : Int) (d : Ds) (vi vo : Value) (w : World) (h : At w b (stC no vi vo d.ms)) (hi : OwnI B w vi d.it) (ho : OwnE B w vo d.ob) (n1 : vi.ownBlock ≠ some b) (n2 : vo.ownBlock ≠ some b) (n3 : ∀ j, vi.ownBlock = some j -> vo.ownBlock ≠ some j) (hB : B <= w.heap.size) (hl : d.it.length <= 1000) (hlo : d.ob.length <= 1000) (hn : ∀ x ∈ d.it, nearB x.pl = true /\ nearB x.sp = true) (hs0 : 0 <= d.ms.s) (hs1 : d.ms.s <= 65535) :
  Calls Tryz.prog 150 #[.pointer (some ⟨b, 0, none⟩), .int .i64 cO] w fun e w' => e = .returned (.tuple #[]) /\ ∃ vi' vo', At w' b (stC no vi' vo' (d.tick no cO).ms) /\ OwnI w.heap.size w' vi' (d.tick no cO).it /\ OwnE B w' vo' (d.tick no cO).ob /\ Only w w' (fun j => j = b ∨ vo.ownBlock = some j) /\ (∀ j, vo'.ownBlock = some j -> vo.ownBlock = some j ∨ w.heap.size <= j) /\ (∀ j, vi'.ownBlock = some j -> vo'.ownBlock ≠ some j) /\ vi'.ownBlock ≠ some b /\ vo'.ownBlock ≠ some b := by
 obtain ⟨a, c, rfl⟩ := slice_len hi
 have hbl := h.lt
 obtain ⟨n, hL⟩ : ∃ n, d.it.length = n := ⟨_, rfl⟩
 have HL : Hid (d.it.length = n) := hL
 have HNR := Hid.mk' hn
 have T0 : Hid (Tk w w b B no (.slice a n c) vo (.slice none 0 0) vo d.it (d.after no cO 0)) := by
  rw [hL] at h hi n1 n3
  exact ⟨h, hi, OwnI.nil _ _, ho, Only.refl _ _, fun j hj => .inl hj, by simp [Value.ownBlock], n2, n3, fun j hj => (hi.lt j hj).2, hbl, n1⟩
 have AL := Hid.mk' (after_len no cO d hs0 hs1)
 rw [hL] at hl
 have hsf := run_store_float
 have hadd := run_add_f32
 have hneg := run_neg_f32
 clear h hi ho n1 n2 n3 hL hn
 go_enter Tryz.func150, Tryz.ntmps150
 go_wp2
 go_loopw [4, 5] (fun v i wr => ∃ (k : Nat) (vk : Value), k <= n /\ i = .int .i64 k /\ Tk w wr b B no (.slice a n c) vo v vk d.it (d.after no cO k)) (fun _ i _ => n - (intOf i).toNat)
 case atStart => exact ⟨0, vo, by omega, rfl, T0.out⟩
 case round =>
  clear T0
  obtain ⟨k, vk, hk, rfl, tk⟩ := hrel
  have TK := Hid.mk' tk
  obtain ⟨ak, ck, rfl⟩ := slice_len tk.oe
  have al := AL.out k (by rw [HL.out]; exact hk)
  have c1 := tk.at_.c 1 _ rfl
  clear tk
  by_cases hlt : k < n
  ·have hkl : k < d.it.length := by rw [HL.out]; exact hlt
   obtain ⟨y, hi⟩ : ∃ y, d.it[k] = y := ⟨_, rfl⟩
   have AS : Hid (d.after no cO (k + 1) = (d.after no cO k).tickOne no cO y) := by
    show _ = _
    rw [Ds.after_succ no cO d k hkl, hi]
   have ny := HNR.out y (by rw [<- hi]; exact List.getElem_mem hkl)
   have li := Lies.of_own TK.out.li
   obtain ⟨a', c', hv, hx⟩ := li
   rw [HL.out] at hv hx
   obtain ⟨g, off, rfl, hc⟩ := hx (by omega)
   injection hv with hv _ _
   subst hv
   have dd : ∀ j (hj : j < 4) u, y.cells[j]? = some u -> wr.cell? ⟨g, off + k * 4 + j, none⟩ = some u := fun j hj u hu => by
    have := hc (4 * k + j) u (by rw [flat_at4 d.it k j hkl hj, hi]; exact hu)
    rw [show off + (4 * k + j) = off + k * 4 + j by omega] at this
    exact this
   have d0 := dd 0 (by omega) _ rfl
   have d1 := dd 1 (by omega) _ rfl
   have d2 := dd 2 (by omega) _ rfl
   have d3 := dd 3 (by omega) _ rfl
   rw [Nat.add_zero] at d0
   clear dd hc hx hi
   have y0 : (0 : Int) <= (k : Int) := by omega
   have y1 : (k : Int) < (n : Int) := by omega
   have had := hadd y.pl y.sp ny.1 ny.2
   clear hadd
   have bw : b < wr.heap.size := TK.out.at_.lt
   have zw := TK.out.on.size
   have OL := Hid.mk' TK.out.ol
   have HV : Hid (∀ j, Value.ownBlock _ = some j -> w.heap.size <= j) := fun j hj => (OL.out.lt j hj).1
   have NR := Hid.mk' fun W => refNear_any (addF y.pl y.sp) W
   by_cases cn : nearB (addF y.pl y.sp) = false
   ·have E1 : Hid ((d.after no cO k).tickOne no cO y = { d.after no cO k with it := (d.after no cO k).it ++ [⟨y.sh, y.nu, y.pl, negF y.sp⟩] }) := if_pos cn
    rw [cn] at NR
    clear cn
    go_wp2_with fail
    refine Calls.mono (NR.out _) ?_
    rintro e w1 ⟨rfl, rfl⟩
    go_wp2_with (at_builtin; refine wp_appI rfl _ _ rfl w.heap.size _ (d.after no cO k).it rfl (World.ownsRow.alloc (World.ownsRow.alloc OL.out _) _) ⟨wr.heap.size + 1, 0, none⟩ ⟨y.sh, y.nu, y.pl, negF y.sp⟩ rfl (cells_new _ (⟨y.sh, y.nu, y.pl, negF y.sp⟩ : It).cells _ _ (by simp)) (by omega) (by simp; omega) ?_; intro v3 w3 o3 g3 h3)
    go_wp2
    go_roundw
    case rel =>
     refine ⟨k + 1, .slice ak (d.after no cO k).ob.length ck, by omega, by go_num, ?_⟩
     rw [AS.out, E1.out]
     exact TK.out.put (grownBy_alloc' (World.grownBy_alloc wr (.cells #[.int .i64 y.sh, .int .i64 y.nu, .float .f32 (y.pl), .float .f32 (negF y.sp)] 75) none) _) g3 o3 h3
    case measure => simp [intOf]; omega
   have cn' : nearB (addF y.pl y.sp) = true := by simpa using cn
   rw [cn'] at NR
   have SD := Hid.mk' fun W => refSide_any (addF y.pl y.sp) W
   have c0 := TK.out.at_.c 0 _ rfl
   by_cases cs : sideB (addF y.pl y.sp) = (no : Int)
   ·have E1 : Hid ((d.after no cO k).tickOne no cO y = { d.after no cO k with it := (d.after no cO k).it ++ [⟨y.sh, y.nu, addF y.pl y.sp, y.sp⟩] }) := by
     show _ = _
     unfold Ds.tickOne
     rw [if_neg cn, if_pos cs]
    rw [cs] at SD
    clear cn cs cn'
    go_wp2_with fail
    refine Calls.mono (NR.out _) ?_
    rintro e w1 ⟨rfl, rfl⟩
    go_wp2_with fail
    go_quiet (exact (SD.out _).mono (fun _ _ h => ⟨h.1, _, h.2⟩))
    go_wp2_with (at_builtin; refine wp_appI rfl _ _ rfl w.heap.size _ (d.after no cO k).it rfl (World.ownsRow.alloc (own_grown OL.out (grownBy_store (grownBy_drewN (World.grownBy_alloc wr (.cells #[.int .i64 y.sh, .int .i64 y.nu, .float .f32 y.pl, .float .f32 y.sp] 75) none) nq) (k := wr.heap.size) (Nat.le_refl _) 2 (.float .f32 (addF y.pl y.sp)))) _) ⟨wr.heap.size + 1, 0, none⟩ ⟨y.sh, y.nu, addF y.pl y.sp, y.sp⟩ rfl (cells_new _ (⟨y.sh, y.nu, addF y.pl y.sp, y.sp⟩ : It).cells _ _ (by simp)) (by omega) (by simp; omega) ?_; intro v3 w3 o3 g3 h3)
    go_wp2
    go_roundw
    case rel =>
     refine ⟨k + 1, .slice ak (d.after no cO k).ob.length ck, by omega, by go_num, ?_⟩
     rw [AS.out, E1.out]
     exact TK.out.put (grownBy_alloc' (grownBy_store (grownBy_drewN (World.grownBy_alloc wr (.cells #[.int .i64 y.sh, .int .i64 y.nu, .float .f32 y.pl, .float .f32 y.sp] 75) none) nq) (k := wr.heap.size) (Nat.le_refl _) 2 (.float .f32 (addF y.pl y.sp))) _) g3 o3 h3
    case measure => simp [intOf]; omega
   have c2 := TK.out.at_.c 2 _ rfl
   have c5 := TK.out.at_.c 5 _ rfl
   have cf := TK.out.at_.f
   have csb : (sideB (addF y.pl y.sp) == (no : Int)) = false := by simpa using cs
   obtain ⟨nk, hnk⟩ : ∃ nk, (d.after no cO k).ob.length = nk := ⟨_, rfl⟩
   obtain ⟨sk, hsk⟩ : ∃ sk, (d.after no cO k).ms.s = sk := ⟨_, rfl⟩
   have HNK := Hid.mk' hnk
   have HSK := Hid.mk' hsk
   rw [hnk] at c2 al
   rw [hsk] at c5 al
   obtain ⟨al1, al2, al3, al4⟩ := al
   have EA : Hid ((nk : Int) < cO /\ sk < 65535 -> (d.after no cO k).tickOne no cO y = ⟨(d.after no cO k).it, (d.after no cO k).ob ++ [⟨sk + 1, ⟨y.sh, y.nu, addF y.pl y.sp, y.sp⟩⟩], { (d.after no cO k).ms with s := sk + 1 }⟩) := Hid.mk' fun c3 => by
    unfold Ds.tickOne
    rw [if_neg cn, if_neg cs, hnk, hsk, if_pos c3]
   have EB : Hid (¬ ((nk : Int) < cO /\ sk < 65535) -> (d.after no cO k).tickOne no cO y = { d.after no cO k with it := (d.after no cO k).it ++ [⟨y.sh, y.nu, y.pl, y.sp⟩] }) := Hid.mk' fun c3 => by
    unfold Ds.tickOne
    rw [if_neg cn, if_neg cs, hnk, hsk, if_neg c3]
   clear cn cs cn' hnk hsk
   generalize sideB (addF y.pl y.sp) = z at *
   by_cases c3 : (nk : Int) < cO /\ sk < 65535
   ·have E1 := Hid.mk' (EA.out c3)
    clear EA EB
    obtain ⟨c3a, c3b⟩ := c3
    go_wp2_with fail
    refine Calls.mono (NR.out _) ?_
    rintro e w1 ⟨rfl, rfl⟩
    go_wp2_with fail
    go_quiet (exact (SD.out _).mono (fun _ _ h => ⟨h.1, _, h.2⟩))
    have A1 := Hid.mk' (TK.out.at_.grown (grownBy_drewN (World.grownBy_alloc wr (.cells #[.int .i64 y.sh, .int .i64 y.nu, .float .f32 y.pl, .float .f32 y.sp] 75) none) nq))
    have X1 := Hid.mk' ((At.new wr [.int .i64 y.sh, .int .i64 y.nu, .float .f32 y.pl, .float .f32 y.sp] 75).drewN nq)
    have hbx : ¬ b = wr.heap.size := by omega
    have hbx' : ¬ wr.heap.size = b := by omega
    have A2 := Hid.mk' ((A1.out.only (Only.set _ wr.heap.size 2 (.float .f32 (addF y.pl y.sp))) hbx).put 5 (.int .i64 (sk + 1)) (by simp [stC]))
    have X2 := Hid.mk' ((X1.out.put 2 (.float .f32 (addF y.pl y.sp)) (by simp)).only (Only.set _ b 5 (.int .i64 (sk + 1))) hbx')
    have P2 : Hid (Only wr (((((wr.alloc (.cells #[.int .i64 y.sh, .int .i64 y.nu, .float .f32 y.pl, .float .f32 y.sp] 75)).drewN nq).setCell ⟨wr.heap.size, 2, none⟩ (.float .f32 (addF y.pl y.sp))).setCell ⟨b, 5, none⟩ (.int .i64 (sk + 1)))) (fun j => j = b)) := (((Only.grown (grownBy_drewN (World.grownBy_alloc wr (.cells #[.int .i64 y.sh, .int .i64 y.nu, .float .f32 y.pl, .float .f32 y.sp] 75) none) nq)).mono (by simp)).trans ((Only.set _ wr.heap.size 2 _).mono (fun _ _ e => .inr (by omega)))).trans ((Only.set _ b 5 _).mono (fun _ _ e => .inl e))
    have O2 := Hid.mk' (P2.out.own TK.out.oe (fun j hj e => TK.out.nb (e ▸ hj)))
    have B2 := P2.out.size
    have hBz : B <= (((((wr.alloc (.cells #[.int .i64 y.sh, .int .i64 y.nu, .float .f32 y.pl, .float .f32 y.sp] 75)).drewN nq).setCell ⟨wr.heap.size, 2, none⟩ (.float .f32 (addF y.pl y.sp))).setCell ⟨b, 5, none⟩ (.int .i64 (sk + 1)))).heap.size := by simp; omega
    have xs : wr.heap.size < (((((wr.alloc (.cells #[.int .i64 y.sh, .int .i64 y.nu, .float .f32 y.pl, .float .f32 y.sp] 75)).drewN nq).setCell ⟨wr.heap.size, 2, none⟩ (.float .f32 (addF y.pl y.sp))).setCell ⟨b, 5, none⟩ (.int .i64 (sk + 1)))).heap.size := X2.out.lt
    have KE : Hid ((⟨sk + 1, ⟨y.sh, y.nu, addF y.pl y.sp, y.sp⟩⟩ : En).cells = [.int .i64 (sk + 1), .int .i64 y.sh, .int .i64 y.nu, .float .f32 (addF y.pl y.sp), .float .f32 y.sp]) := rfl
    go_wp2_with fail
    generalize (((((wr.alloc (.cells #[.int .i64 y.sh, .int .i64 y.nu, .float .f32 y.pl, .float .f32 y.sp] 75)).drewN nq).setCell ⟨wr.heap.size, 2, none⟩ (.float .f32 (addF y.pl y.sp))).setCell ⟨b, 5, none⟩ (.int .i64 (sk + 1)))) = W2 at *
    clear c0 c1 c2 c5 cf d0 d1 d2 d3 A1 X1 had
    have c2 := A2.out.c 2 _ rfl
    have c5 := A2.out.c 5 _ rfl
    have cf := A2.out.f
    have x0 := X2.out.c 0 _ rfl
    have x1 := X2.out.c 1 _ rfl
    have x2 := X2.out.c 2 _ rfl
    have x3 := X2.out.c 3 _ rfl
    have hw5 : b ≠ W2.heap.size := by omega
    have hw6 : wr.heap.size ≠ W2.heap.size := by omega
    have hw7 : b < W2.heap.size := by omega
    have N1 := Hid.mk' TK.out.nb
    have lo : (d.after no cO k).ob.length + 1 <= 1000000 := by rw [HNK.out]; omega
    go_region_law (first | (refine step_appE rfl (.tmp 90) (.tmp 98) rfl B (.slice ak (d.after no cO k).ob.length ck) (d.after no cO k).ob (by simp [Act.eval]) (World.ownsRow.alloc (World.ownsRow.drew O2.out) _) ⟨W2.heap.size, 0, none⟩ ⟨sk + 1, ⟨y.sh, y.nu, addF y.pl y.sp, y.sp⟩⟩ (by simp [Act.eval]) (cells_new _ (⟨sk + 1, ⟨y.sh, y.nu, addF y.pl y.sp, y.sp⟩⟩ : En).cells _ _ rfl) lo (by simp; omega) ?_; intro v' w4 o4 g4 h4; obtain ⟨a', n', c', rfl⟩ := slice_of o4; have A4 := Hid.mk' ((A2.out.grown (grownBy_alloc' (grownBy_drew (grownBy_refl W2 none)) _)).only (Only.grown g4) N1.out); have s2 := A4.out.c 2 _ rfl; have f4 := A4.out.f))
    all_goals
     go_wp2
     go_roundw
     case rel =>
      refine ⟨k + 1, .slice a' n' c', by omega, by go_num, ?_⟩
      rw [AS.out, E1.out]
      exact TK.out.leave A2.out P2.out (grownBy_drew (World.grownBy_alloc W2 _ none)) g4 o4 h4
     case measure => simp [intOf]; omega
   ·have E1 := Hid.mk' (EB.out c3)
    clear EA EB
    by_cases c4 : cO <= (nk : Int)
    ·clear c3
     go_wp2_with fail
     refine Calls.mono (NR.out _) ?_
     rintro e w1 ⟨rfl, rfl⟩
     go_wp2_with fail
     go_quiet (exact (SD.out _).mono (fun _ _ h => ⟨h.1, _, h.2⟩))
     go_wp2_with (at_builtin; refine wp_appI rfl _ _ rfl w.heap.size _ (d.after no cO k).it rfl (World.ownsRow.alloc (own_grown OL.out (grownBy_drewN (World.grownBy_alloc wr (.cells #[.int .i64 y.sh, .int .i64 y.nu, .float .f32 y.pl, .float .f32 y.sp] 75) none) nq)) _) ⟨wr.heap.size + 1, 0, none⟩ ⟨y.sh, y.nu, y.pl, y.sp⟩ rfl (cells_new _ (⟨y.sh, y.nu, y.pl, y.sp⟩ : It).cells _ _ (by simp)) (by omega) (by simp; omega) ?_; intro v3 w3 o3 g3 h3)
     go_wp2
     go_roundw
     case rel =>
      refine ⟨k + 1, .slice ak (d.after no cO k).ob.length ck, by omega, by go_num, ?_⟩
      rw [AS.out, E1.out]
      exact TK.out.put (grownBy_alloc' (grownBy_drewN (World.grownBy_alloc wr (.cells #[.int .i64 y.sh, .int .i64 y.nu, .float .f32 y.pl, .float .f32 y.sp] 75) none) nq) _) g3 o3 h3
     case measure => simp [intOf]; omega
    ·have c5' : 65535 <= sk := by omega
     have c4' : (nk : Int) < cO := by omega
     clear c3 c4
     go_wp2_with fail
     refine Calls.mono (NR.out _) ?_
     rintro e w1 ⟨rfl, rfl⟩
     go_wp2_with fail
     go_quiet (exact (SD.out _).mono (fun _ _ h => ⟨h.1, _, h.2⟩))
     go_wp2_with (at_builtin; refine wp_appI rfl _ _ rfl w.heap.size _ (d.after no cO k).it rfl (World.ownsRow.alloc (own_grown OL.out (grownBy_drewN (World.grownBy_alloc wr (.cells #[.int .i64 y.sh, .int .i64 y.nu, .float .f32 y.pl, .float .f32 y.sp] 75) none) nq)) _) ⟨wr.heap.size + 1, 0, none⟩ ⟨y.sh, y.nu, y.pl, y.sp⟩ rfl (cells_new _ (⟨y.sh, y.nu, y.pl, y.sp⟩ : It).cells _ _ (by simp)) (by omega) (by simp; omega) ?_; intro v3 w3 o3 g3 h3)
     go_wp2
     go_roundw
     case rel =>
      refine ⟨k + 1, .slice ak (d.after no cO k).ob.length ck, by omega, by go_num, ?_⟩
      rw [AS.out, E1.out]
      exact TK.out.put (grownBy_alloc' (grownBy_drewN (World.grownBy_alloc wr (.cells #[.int .i64 y.sh, .int .i64 y.nu, .float .f32 y.pl, .float .f32 y.sp] 75) none) nq) _) g3 o3 h3
     case measure => simp [intOf]; omega
  ·have hkn : k = n := by omega
   subst hkn
   have bw : b < wr.heap.size := TK.out.at_.lt
   have cf := TK.out.at_.f
   have EQ : Hid (d.tick no cO = d.after no cO k) := by
    show d.it.foldl _ _ = (d.it.take k).foldl _ _
    rw [List.take_of_length_le (by rw [HL.out]; omega)]
   obtain ⟨av, cv, rfl⟩ := slice_len TK.out.ol
   go_wp2
   refine bodyPost_end (v := .tuple #[]) (by simp [results, Tryz.results150]) rfl ?_
   have T := TK.out
   have vl : ∀ j, (Value.slice av (d.after no cO k).it.length cv).ownBlock = some j -> w.heap.size <= j := fun j hj => (T.ol.lt j hj).1
   have nb' : (Value.slice av (d.after no cO k).it.length cv).ownBlock ≠ some b := fun e => by have := vl b e; omega
   rw [EQ.out]
   exact ⟨rfl, _, _, T.at_.put 1 _ (by simp [stC]), own_store T.ol b 1 _ nb', own_store T.oe b 1 _ T.nb, T.on.trans ((Only.set wr b 1 _).mono (fun _ _ e => .inl (.inl e))), T.nv, T.ne, nb', T.nb⟩
end Go.Proofs.YtammnaafdhhjaaaGreat
