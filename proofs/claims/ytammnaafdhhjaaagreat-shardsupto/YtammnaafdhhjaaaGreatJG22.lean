import Derived.Test.YtammnaafdhhjaaaGreatRows
import Derived.Test.YtammnaafdhhjaaaGreatJG13
import Derived.Test.YtammnaafdhhjaaaGreatJG16
import Derived.Test.YtammnaafdhhjaaaGreatA7
set_option maxHeartbeats 16000000
set_option maxRecDepth 100000
namespace Go.Proofs.YtammnaafdhhjaaaGreat
open Go.RowKit
def Sh.doTick (s : Sh) : Sh := (srtTh s.th).foldl Sh.driftOne s
def Sh.doR (s : Sh) (r : Rc) : Sh :=
 if r.kind = 6 then s.doBase r.mks r.items r.outs else if r.kind = 1 then s.doMint r.it else if r.kind = 2 then s.doDestroy r.it else if r.kind = 3 then s.doTick else if r.kind = 4 then s.doArrive r.seq r.it else if r.kind = 5 then s.doAcked r.seq else s
structure DoOk (s : Sh) (r : Rc) : Prop where
 kind : r.kind = 1 ∨ r.kind = 2 ∨ r.kind = 3 ∨ r.kind = 4 ∨ r.kind = 5
 ids : i64B r.it.sh /\ i64B r.it.nu
 tick : r.kind = 3 -> DrInv s /\ s.th.length <= 1000 /\ ∀ x ∈ s.th, nearB x.pl = true /\ nearB x.sp = true
 ack : r.kind = 5 -> s.ob.length <= 1000
theorem do_any (B b bd bm : Nat) (ov : Value) (s : Sh) (r : Rc) (ai ao : Option Addr) (ni ci no co : Nat) (w : World) (h : HS w B b s bd bm ov) (ok : DoOk s r) :
  Calls Tryz.prog 89 #[.pointer (some ⟨b, 0, none⟩), rv r.kind r.seq r.it r.mks (.slice ai ni ci) (.slice ao no co)] w fun e w' => e = .returned (.tuple #[]) /\ ∃ ov', HS w' B b (s.doR r) bd bm ov' /\ Only w w' (HS.foot b bm ov) /\ (∀ j, ov'.ownBlock = some j -> ov.ownBlock = some j ∨ w.heap.size <= j) := by
 obtain ⟨K, q, i, m, is, os⟩ := r
 rcases ok.kind with e | e | e | e | e <;> simp only at e <;> subst e
 ·refine (doMint_any B b bd bm ov s q i m ai ao ni ci no co w h ok.ids.1 ok.ids.2).mono ?_
  rintro e w' ⟨he, h1, h2⟩
  exact ⟨he, ov, by simpa [Sh.doR] using h1, h2, fun j hj => .inl hj⟩
 ·refine (doDestroy_any B b bd bm ov s q i m ai ao ni ci no co w h ok.ids.1 ok.ids.2).mono ?_
  rintro e w' ⟨he, h1, h2⟩
  exact ⟨he, ov, by simpa [Sh.doR] using h1, h2, fun j hj => .inl hj⟩
 ·obtain ⟨t1, t2, t3⟩ := ok.tick rfl
  refine (doTick_any B b bd bm ov s q i m ai ao ni ci no co w h t1 t2 t3).mono ?_
  rintro e w' ⟨he, ss, ov', hp, hs, h1, h2, h3⟩
  obtain rfl := srt_is hs hp h.mp.nd
  exact ⟨he, ov', by simpa [Sh.doR, Sh.doTick] using h1, h2, h3⟩
 ·refine (doArrive_any B b bd bm ov s q i m ai ao ni ci no co w h ok.ids.1 ok.ids.2).mono ?_
  rintro e w' ⟨he, h1, h2⟩
  exact ⟨he, ov, by simpa [Sh.doR] using h1, h2, fun j hj => .inl hj⟩
 ·refine (doAcked_any B b bd bm ov s q i m ai ao ni ci no co w h (ok.ack rfl)).mono ?_
  rintro e w' ⟨he, ov', h1, h2, h3⟩
  exact ⟨he, ov', by simpa [Sh.doR] using h1, h2, h3⟩
structure PSu (w : World) (b : Nat) (s : Sh) (F : Nat -> Prop) (bd B bm : Nat) (ov : Value) : Prop where
 su : SU w B b s bd bm ov
 f1 : F b
 f2 : F bd
 f3 : F bm
 f4 : ∀ j, ov.ownBlock = some j -> F j
structure PSd (w : World) (b : Nat) (s : Sh) (F : Nat -> Prop) (bd : Nat) : Prop where
 at_ : At w b (s.cells bd (.map none) (.slice none 0 0))
 dk : At w bd s.dk.cells
 ok : s.dk.Ok
 d1 : bd ≠ b
 f1 : F b
 f2 : F bd
 e1 : s.th = []
 e2 : s.ob = []
 e3 : s.ms = mk0
def PS (w : World) (b : Nat) (s : Sh) (F : Nat -> Prop) : Prop :=
 ∃ bd, (s.up = true /\ ∃ B bm ov, PSu w b s F bd B bm ov) ∨ (s.up = false /\ PSd w b s F bd)
def NX (w w' : World) (F : Nat -> Prop) (j : Nat) : Prop := (F j ∨ w.heap.size <= j) /\ j < w'.heap.size
theorem SU.only {w w' : World} {B b bd bm : Nat} {ov : Value} {s : Sh} {A : Nat -> Prop} (h : SU w B b s bd bm ov) (o : Only w w' A) (h1 : ¬ A b) (h2 : ¬ A bd) (h3 : ¬ A bm) (h4 : ∀ j, ov.ownBlock = some j -> ¬ A j) : SU w' B b s bd bm ov :=
 ⟨⟨h.hs.at_.only o h1, h.hs.mp.only o h3, o.own h.hs.ob h4, h.hs.n1, h.hs.n2, h.hs.n3, Nat.le_trans h.hs.hB o.size⟩, h.dk.only o h2, h.ok, h.d1, h.d2, h.d3⟩
theorem PS.only {w w' : World} {b : Nat} {s : Sh} {F A : Nat -> Prop} (h : PS w b s F) (o : Only w w' A) (hA : ∀ j, F j -> ¬ A j) : PS w' b s F := by
 obtain ⟨bd, ⟨hu, B, bm, ov, p⟩ | ⟨hu, p⟩⟩ := h
 ·exact ⟨bd, .inl ⟨hu, B, bm, ov, p.su.only o (hA _ p.f1) (hA _ p.f2) (hA _ p.f3) (fun j hj => hA j (p.f4 j hj)), p.f1, p.f2, p.f3, p.f4⟩⟩
 ·exact ⟨bd, .inr ⟨hu, p.at_.only o (hA _ p.f1), p.dk.only o (hA _ p.f2), p.ok, p.d1, p.f1, p.f2, p.e1, p.e2, p.e3⟩⟩
theorem PS.mono {w : World} {b : Nat} {s : Sh} {F F' : Nat -> Prop} (h : PS w b s F) (hF : ∀ j, j < w.heap.size -> F j -> F' j) : PS w b s F' := by
 obtain ⟨bd, ⟨hu, B, bm, ov, p⟩ | ⟨hu, p⟩⟩ := h
 ·refine ⟨bd, .inl ⟨hu, B, bm, ov, p.su, hF _ p.su.hs.at_.lt p.f1, hF _ p.su.dk.lt p.f2, hF _ p.su.hs.mp.lt p.f3, fun j hj => hF j (p.su.hs.ob.lt j hj).2 (p.f4 j hj)⟩⟩
 ·exact ⟨bd, .inr ⟨hu, p.at_, p.dk, p.ok, p.d1, hF _ p.at_.lt p.f1, hF _ p.dk.lt p.f2, p.e1, p.e2, p.e3⟩⟩
theorem PS.grown {w w' : World} {b : Nat} {s : Sh} {F : Nat -> Prop} (h : PS w b s F) (g : w.grownBy w' none) : PS w' b s (NX w w' F) := by
 have h' := h.mono (F' := fun j => F j /\ j < w.heap.size) (fun j hj hF => ⟨hF, hj⟩)
 exact (h'.only ((Only.grown g).mono (A' := fun _ => False) (by simp)) (fun _ _ h => h)).mono (fun j _ hj => ⟨.inl hj.1, Nat.lt_of_lt_of_le hj.2 g.size⟩)
def Sh.on (s : Sh) (d : Dk) : Sh := { s with dk := d }
def Sh.jrn (s : Sh) (r : Rc) : Int × Sh :=
 if s.cJ < ((s.dk.file s.ct).length : Int) + ((frm r).length : Int) then (5, s)
 else if (s.dk.append s.ct (frm r)).2 = false then (3, s.down.on (s.dk.append s.ct (frm r)).1)
 else if ((s.dk.append s.ct (frm r)).1.sync s.ct).2 = false then (3, s.down.on ((s.dk.append s.ct (frm r)).1.sync s.ct).1)
 else (0, (s.on ((s.dk.append s.ct (frm r)).1.sync s.ct).1).doR r)
theorem Dk.Ok.sync {d : Dk} (ok : d.Ok) (n : Nat) : (d.sync n).1.Ok := by
 unfold Dk.sync
 split
 ·refine ok.act.put n _ _ (Nat.le_refl _) ?_
  unfold Dk.file
  split
  ·exact ok.act.b0
  ·exact ok.act.b1
 ·exact ok.act
theorem ps_down {w w' : World} {b bd : Nat} {s : Sh} {F : Nat -> Prop} {d : Dk} (h1 : At w' b (s.down.cells bd (.map none) (.slice none 0 0))) (h2 : At w' bd d.cells) (ok : d.Ok) (ne : bd ≠ b) (f1 : F b) (f2 : F bd) : PS w' b (s.down.on d) (NX w w' F) :=
 ⟨bd, .inr ⟨rfl, h1, h2, ok, ne, ⟨.inl f1, h1.lt⟩, ⟨.inl f2, h2.lt⟩, rfl, rfl, rfl⟩⟩
theorem driftOne_up (s : Sh) (i : It) : (s.driftOne i).up = s.up /\ (s.driftOne i).dk = s.dk /\ (s.driftOne i).ct = s.ct /\ (s.driftOne i).no = s.no /\ (s.driftOne i).cI = s.cI /\ (s.driftOne i).cO = s.cO /\ (s.driftOne i).cJ = s.cJ := by
 unfold Sh.driftOne Sh.leave
 repeat' split
 all_goals exact ⟨rfl, rfl, rfl, rfl, rfl, rfl, rfl⟩
theorem drifts_up (l : List It) : ∀ s : Sh, (l.foldl Sh.driftOne s).up = s.up /\ (l.foldl Sh.driftOne s).dk = s.dk /\ (l.foldl Sh.driftOne s).ct = s.ct /\ (l.foldl Sh.driftOne s).no = s.no /\ (l.foldl Sh.driftOne s).cI = s.cI /\ (l.foldl Sh.driftOne s).cO = s.cO /\ (l.foldl Sh.driftOne s).cJ = s.cJ := by
 induction l with
 | nil => intro s; exact ⟨rfl, rfl, rfl, rfl, rfl, rfl, rfl⟩
 | cons x l ih =>
  intro s
  obtain ⟨a1, a2, a3, a4, a5, a6, a7⟩ := ih (s.driftOne x)
  obtain ⟨b1, b2, b3, b4, b5, b6, b7⟩ := driftOne_up s x
  exact ⟨a1.trans b1, a2.trans b2, a3.trans b3, a4.trans b4, a5.trans b5, a6.trans b6, a7.trans b7⟩
theorem doR_up (s : Sh) (r : Rc) : (s.doR r).up = s.up /\ (s.doR r).dk = s.dk /\ (s.doR r).ct = s.ct /\ (s.doR r).no = s.no /\ (s.doR r).cI = s.cI /\ (s.doR r).cO = s.cO /\ (s.doR r).cJ = s.cJ := by
 unfold Sh.doR
 split
 ·exact ⟨rfl, rfl, rfl, rfl, rfl, rfl, rfl⟩
 split
 ·exact ⟨rfl, rfl, rfl, rfl, rfl, rfl, rfl⟩
 split
 ·exact ⟨rfl, rfl, rfl, rfl, rfl, rfl, rfl⟩
 split
 ·exact drifts_up _ _
 split
 ·exact ⟨rfl, rfl, rfl, rfl, rfl, rfl, rfl⟩
 split <;> exact ⟨rfl, rfl, rfl, rfl, rfl, rfl, rfl⟩
theorem driftOne_on (s : Sh) (i : It) (d : Dk) : (s.on d).driftOne i = (s.driftOne i).on d := by
 unfold Sh.driftOne Sh.leave Sh.mayLeave Sh.on
 simp only
 repeat' split
 all_goals rfl
theorem drifts_on (l : List It) (d : Dk) : ∀ s : Sh, l.foldl Sh.driftOne (s.on d) = (l.foldl Sh.driftOne s).on d := by
 induction l with
 | nil => intro s; rfl
 | cons x l ih =>
  intro s
  rw [List.foldl_cons, List.foldl_cons, driftOne_on, ih]
theorem doR_on (s : Sh) (r : Rc) (d : Dk) : (s.on d).doR r = (s.doR r).on d := by
 unfold Sh.doR
 split
 ·rfl
 split
 ·rfl
 split
 ·rfl
 split
 ·exact drifts_on _ _ _
 split
 ·rfl
 split <;> rfl
theorem HS.on {w : World} {B b bd bm : Nat} {ov : Value} {s : Sh} (h : HS w B b s bd bm ov) (d : Dk) : HS w B b (s.on d) bd bm ov := ⟨h.at_, h.mp, h.ob, h.n1, h.n2, h.n3, h.hB⟩
theorem ps_up {w W w' : World} {B b bd bm : Nat} {ov ov' : Value} {s s1 : Sh} {F : Nat -> Prop} {d : Dk} (hu : s1.up = true) (he : s1.dk = d) (h : HS w B b s bd bm ov) (hd1 : bd ≠ b) (hd2 : bd ≠ bm) (hd3 : ov.ownBlock ≠ some bd) (hd : At W bd d.cells) (ok : d.Ok) (hW : Only w W (fun j => j = bd)) (hbl : bd < w.heap.size) (h' : HS w' B b s1 bd bm ov') (o : Only W w' (HS.foot b bm ov)) (hv : ∀ j, ov'.ownBlock = some j -> ov.ownBlock = some j ∨ W.heap.size <= j)
  (f1 : F b) (f2 : F bd) (f3 : F bm) (f4 : ∀ j, ov.ownBlock = some j -> F j) : PS w' b s1 (NX w w' F) /\ Only w w' F := by
 have nb : ¬ HS.foot b bm ov bd := by
  rintro (e | e | e)
  ·exact hd1 e
  ·exact hd2 e
  ·exact hd3 e
 have nv : ov'.ownBlock ≠ some bd := fun e => by
  rcases hv bd e with e | e
  ·exact hd3 e
  ·have := hW.size; omega
 refine ⟨⟨bd, .inl ⟨hu, B, bm, ov', ⟨h', by rw [he]; exact hd.only o nb, by rw [he]; exact ok, hd1, hd2, nv⟩, ⟨.inl f1, h'.at_.lt⟩, ⟨.inl f2, Nat.lt_of_lt_of_le hbl (Nat.le_trans hW.size o.size)⟩, ⟨.inl f3, h'.mp.lt⟩, fun j hj => ⟨?_, (h'.ob.lt j hj).2⟩⟩⟩, ?_⟩
 ·rcases hv j hj with e | e
  ·exact .inl (f4 j e)
  ·exact .inr (Nat.le_trans hW.size e)
 ·refine (hW.mono (fun k _ e => by subst e; exact f2)).trans (o.mono ?_)
  rintro k _ (e | e | e)
  ·exact .inl (by subst e; exact f1)
  ·exact .inl (by subst e; exact f3)
  ·exact .inl (f4 k e)
theorem journal_ps (b : Nat) (s : Sh) (F : Nat -> Prop) (r : Rc) (w : World) (h : PS w b s F) (hu : s.up = true) (hr : r.items = [] /\ r.outs = []) (hm : mayB r = true) (wf : WfR r) (hct : s.ct < 2) (hcj : s.cJ <= 5000) (ok : DoOk s r) :
  Calls Tryz.prog 134 #[.pointer (some ⟨b, 0, none⟩), rv r.kind r.seq r.it r.mks (.slice none 0 0) (.slice none 0 0)] w fun e w' => e = .returned (.int .i64 (s.jrn r).1) /\ PS w' b (s.jrn r).2 (NX w w' F) /\ Only w w' F := by
 have h0 := h
 obtain ⟨bd, ⟨_, B, bm, ov, p⟩ | ⟨hu', _⟩⟩ := h
 case inr => rw [hu] at hu'; cases hu'
 unfold Sh.jrn
 split
 ·rename_i hc
  refine (journal_full B b bd bm ov s r w p.su hr hm wf hct hcj hc).mono ?_
  rintro e w' ⟨he, g⟩
  exact ⟨he, h0.grown g, (Only.grown g).mono (by simp)⟩
 rename_i hc
 have hlen : (s.dk.file s.ct).length + (frm r).length <= 10000 := by omega
 have okA := p.su.ok.append s.ct (frm r) hlen
 split
 ·rename_i ha
  refine (journal_down1 B b bd bm ov s r w p.su hr hm wf hct hcj hc ha).mono ?_
  rintro e w' ⟨he, h1, h2, o⟩
  exact ⟨he, ps_down h1 h2 okA.act p.su.d1 p.f1 p.f2, o.mono (fun j _ e => by rcases e with rfl | rfl; exact p.f1; exact p.f2)⟩
 rename_i ha
 have ha' : (s.dk.append s.ct (frm r)).2 = true := by simpa using ha
 split
 ·rename_i hb
  refine (journal_down2 B b bd bm ov s r w p.su hr hm wf hct hcj hc ha' hb).mono ?_
  rintro e w' ⟨he, h1, h2, o⟩
  exact ⟨he, ps_down h1 h2 (Dk.Ok.sync okA.act _) p.su.d1 p.f1 p.f2, o.mono (fun j _ e => by rcases e with rfl | rfl; exact p.f1; exact p.f2)⟩
 rename_i hb
 have hb' : ((s.dk.append s.ct (frm r)).1.sync s.ct).2 = true := by simpa using hb
 refine (journal_ok B b bd bm ov s r w p.su hr hm wf hct hcj hc (fun W w' => ∃ ov', HS w' B b (s.doR r) bd bm ov' /\ Only W w' (HS.foot b bm ov) /\ (∀ j, ov'.ownBlock = some j -> ov.ownBlock = some j ∨ W.heap.size <= j)) (fun W hW => do_any B b bd bm ov s r none none 0 0 0 0 W hW ok) ha' hb').mono ?_
 rintro e w' ⟨he, W, q1, q2, q3, ov', q4, q5, q6⟩
 refine ⟨he, ?_⟩
 have up := doR_up (s.on ((s.dk.append s.ct (frm r)).1.sync s.ct).1) r
 have q4' : HS w' B b ((s.on ((s.dk.append s.ct (frm r)).1.sync s.ct).1).doR r) bd bm ov' := by
  have e1 : (s.on ((s.dk.append s.ct (frm r)).1.sync s.ct).1).doR r = (s.doR r).on ((s.dk.append s.ct (frm r)).1.sync s.ct).1 := doR_on s r _
  rw [e1]
  exact q4.on _
 exact ps_up (up.1.trans hu) up.2.1 p.su.hs p.su.d1 p.su.d2 p.su.d3 q2 (Dk.Ok.sync okA.act _) q3 p.su.dk.lt q4' q5 q6 p.f1 p.f2 p.f3 p.f4
def idE (a b e : Int) : Value := .tuple #[.agg #[.int .i64 a, .int .i64 b], .int .i64 e]
def Sh.mintRec (s : Sh) (pl sp : Nat) : Rc := ⟨1, 0, ⟨s.no, s.ms.m + 1, pl, sp⟩, mk0, [], []⟩
theorem mint_far (B b bd bm : Nat) (ov : Value) (s : Sh) (pl sp : Nat) (w : World) (h : SU w B b s bd bm ov) (hn : (nearB pl && nearB sp) = false) :
  Calls Tryz.prog 93 #[.pointer (some ⟨b, 0, none⟩), .float .f32 pl, .float .f32 sp] w fun e w' => e = .returned (idE 0 0 2) /\ w.grownBy w' none := by
 have H := Hid.mk' h
 have G0 := Hid.mk' (World.grownBy_alloc w (.cells #[.int .i64 0, .int .i64 0] 32) none)
 have H0 := Hid.mk' (h.grown (grownBy_drew G0.out))
 have A0 := Hid.mk' (At.new w [.int .i64 0, .int .i64 0] 32).drew
 clear h
 go_enter Tryz.func93, Tryz.ntmps93
 go_wp2_with fail
 refine wp_region_held_drew (S := fun w' => At w' b (s.cells bd (.map (some bm)) ov)) (by kernel_rfl) (H0.out.hs.at_) (fun hHeld => ?_)
 refine hTk 0 ?_
 simp only [lS0, lS1]
 refine hTk 1 ?_
 simp only [lS0, lS1]
 refine hCall 2 (f := 146) (args := #[.float .f32 pl, .float .f32 sp]) (by kernel_rfl) (by rfl) (by rfl) (by go_simp) ?_
 refine Calls.mono (drift_any pl sp _) ?_
 rintro e w2 ⟨rfl, rfl⟩
 refine ⟨_, rfl, hHeld, ?_⟩
 rw [hn]
 simp only [lS0, lS1]
 refine hTk 3 ?_
 simp only [lS0, lS1]
 refine hTk 4 ?_
 simp only [lS0, lS1]
 refine hSk 5 ?_
 simp only [lS0, lS1]
 refine hSk 6 ?_
 simp only [lS0, lS1]
 refine hSk 7 ?_
 simp only [lS0, lS1]
 refine hSk 8 ?_
 simp only [lS0, lS1]
 refine hSk 9 ?_
 simp only [lS0, lS1]
 refine hSk 10 ?_
 simp only [lS0, lS1]
 refine hSk 11 ?_
 simp only [lS0, lS1]
 refine hTk 12 ?_
 simp only [lS0, lS1]
 refine wpAnyH_done (by kernel_rfl) ?_ _
 go_wp2
 exact bodyPost_ret (v := idE 0 0 2) (by simp [results, Tryz.results93, idE, go_sem]) rfl ⟨rfl, grownBy_drew G0.out⟩
theorem mint_side (B b bd bm : Nat) (ov : Value) (s : Sh) (pl sp : Nat) (w : World) (h : SU w B b s bd bm ov) (hn : (nearB pl && nearB sp) = true) (hs : ¬ sideB pl = (s.no : Int)) :
  Calls Tryz.prog 93 #[.pointer (some ⟨b, 0, none⟩), .float .f32 pl, .float .f32 sp] w fun e w' => e = .returned (idE 0 0 2) /\ w.grownBy w' none := by
 have H := Hid.mk' h
 have G0 := Hid.mk' (World.grownBy_alloc w (.cells #[.int .i64 0, .int .i64 0] 32) none)
 have H0 := Hid.mk' (h.grown (grownBy_drew G0.out))
 have A0 := Hid.mk' (At.new w [.int .i64 0, .int .i64 0] 32).drew
 clear h
 go_enter Tryz.func93, Tryz.ntmps93
 go_wp2_with fail
 refine wp_region_held_drew (S := fun w' => At w' b (s.cells bd (.map (some bm)) ov)) (by kernel_rfl) (H0.out.hs.at_) (fun hHeld => ?_)
 refine hTk 0 ?_
 simp only [lS0, lS1]
 refine hTk 1 ?_
 simp only [lS0, lS1]
 refine hCall 2 (f := 146) (args := #[.float .f32 pl, .float .f32 sp]) (by kernel_rfl) (by rfl) (by rfl) (by go_simp) ?_
 refine Calls.mono (drift_any pl sp _) ?_
 rintro e w2 ⟨rfl, rfl⟩
 refine ⟨_, rfl, hHeld, ?_⟩
 rw [hn]
 simp only [lS0, lS1]
 refine hTk 3 ?_
 simp only [lS0, lS1]
 refine hTk 4 ?_
 simp only [lS0, lS1]
 refine hTk 5 ?_
 simp only [lS0, lS1]
 refine hTk 7 ?_
 simp only [lS0, lS1]
 refine hTk 8 ?_
 simp only [lS0, lS1]
 refine hTk 9 ?_
 simp only [lS0, lS1]
 refine hTy 10 rfl (by intro w hSw; have S0 := hSw.c 0 _ rfl; go_simp; try with_reducible rfl) ?_
 simp only [lS0, lS1]
 refine hCall 6 (f := 147) (args := #[.float .f32 pl]) (by kernel_rfl) (by rfl) (by rfl) (by go_simp) ?_
 refine Calls.mono (side_any pl _) ?_
 rintro e w3 ⟨rfl, rfl⟩
 refine ⟨_, rfl, hHeld, ?_⟩
 simp only [lS0, lS1]
 refine hTk 11 ?_
 simp only [lS0, lS1]
 refine hTk 12 ?_
 simp only [lS0, lS1]
 refine wpAnyH_done (by kernel_rfl) ?_ _
 go_wp2
 exact bodyPost_ret (v := idE 0 0 2) (by simp [results, Tryz.results93, idE, go_sem]) rfl ⟨rfl, grownBy_drew G0.out⟩
theorem mint_full (B b bd bm : Nat) (ov : Value) (s : Sh) (pl sp : Nat) (w : World) (h : SU w B b s bd bm ov) (hn : (nearB pl && nearB sp) = true) (hs : sideB pl = (s.no : Int)) (hf : decide (s.cI <= (s.th.length : Int)) = true) :
  Calls Tryz.prog 93 #[.pointer (some ⟨b, 0, none⟩), .float .f32 pl, .float .f32 sp] w fun e w' => e = .returned (idE 0 0 6) /\ w.grownBy w' none := by
 have H := Hid.mk' h
 have G0 := Hid.mk' (World.grownBy_alloc w (.cells #[.int .i64 0, .int .i64 0] 32) none)
 have H0 := Hid.mk' (h.grown (grownBy_drew G0.out))
 have A0 := Hid.mk' (At.new w [.int .i64 0, .int .i64 0] 32).drew
 clear h
 go_enter Tryz.func93, Tryz.ntmps93
 go_wp2_with fail
 refine wp_region_held_drew (S := fun w' => At w' b (s.cells bd (.map (some bm)) ov)) (by kernel_rfl) (H0.out.hs.at_) (fun hHeld => ?_)
 refine hTk 0 ?_
 simp only [lS0, lS1]
 refine hTk 1 ?_
 simp only [lS0, lS1]
 refine hCall 2 (f := 146) (args := #[.float .f32 pl, .float .f32 sp]) (by kernel_rfl) (by rfl) (by rfl) (by go_simp) ?_
 refine Calls.mono (drift_any pl sp _) ?_
 rintro e w2 ⟨rfl, rfl⟩
 refine ⟨_, rfl, hHeld, ?_⟩
 rw [hn]
 simp only [lS0, lS1]
 refine hTk 3 ?_
 simp only [lS0, lS1]
 refine hTk 4 ?_
 simp only [lS0, lS1]
 refine hTk 5 ?_
 simp only [lS0, lS1]
 refine hTk 7 ?_
 simp only [lS0, lS1]
 refine hTk 8 ?_
 simp only [lS0, lS1]
 refine hTk 9 ?_
 simp only [lS0, lS1]
 refine hTy 10 rfl (by intro w hSw; have S0 := hSw.c 0 _ rfl; go_simp; try with_reducible rfl) ?_
 simp only [lS0, lS1]
 refine hCall 6 (f := 147) (args := #[.float .f32 pl]) (by kernel_rfl) (by rfl) (by rfl) (by go_simp) ?_
 refine Calls.mono (side_any pl _) ?_
 rintro e w3 ⟨rfl, rfl⟩
 refine ⟨_, rfl, hHeld, ?_⟩
 rw [hs]
 simp only [lS0, lS1]
 refine hTk 11 ?_
 simp only [lS0, lS1]
 refine hTk 12 ?_
 simp only [lS0, lS1]
 refine wpAnyH_done (by kernel_rfl) ?_ _
 go_wp2_with fail
 refine Calls.mono (shFull_any B b bd bm ov s _ H0.out.hs) ?_
 rintro e w4 ⟨rfl, g4⟩
 have H4 := Hid.mk' (H0.out.grown g4)
 have A4 := Hid.mk' (A0.out.grown g4)
 have G4 := Hid.mk' ((grownBy_drew G0.out).trans g4)
 have c10 := H4.out.hs.at_.c 10 _ rfl
 have a0 := A4.out.c 0 _ rfl
 have a1 := A4.out.c 1 _ rfl
 have p0 := A4.out.f 0
 have p1 := A4.out.f 1
 rw [hf]
 have B4 := ((A4.out.put 0 (.int .i64 0) (by simp)).put 1 (.int .i64 0) (by simp))
 have b0 := B4.c 0 _ rfl
 have b1 := B4.c 1 _ rfl
 go_wp2
 exact bodyPost_ret (v := idE 0 0 6) (by simp [results, Tryz.results93, idE, go_sem, *]) rfl ⟨rfl, (((Only.grown G4.out).mono (A' := fun _ => False) (by simp)).trans ((Only.set2 w4 w.heap.size 0 1 _ _).mono (fun _ _ e => .inr (Nat.le_of_eq e.symm)))).fresh (fun _ _ h => h)⟩
theorem mint_last (B b bd bm : Nat) (ov : Value) (s : Sh) (pl sp : Nat) (w : World) (h : SU w B b s bd bm ov) (hn : (nearB pl && nearB sp) = true) (hs : sideB pl = (s.no : Int)) (hf : decide (s.cI <= (s.th.length : Int)) = false) (hl : s.ms.m = 65535) :
  Calls Tryz.prog 93 #[.pointer (some ⟨b, 0, none⟩), .float .f32 pl, .float .f32 sp] w fun e w' => e = .returned (idE 0 0 6) /\ w.grownBy w' none := by
 have H := Hid.mk' h
 have G0 := Hid.mk' (World.grownBy_alloc w (.cells #[.int .i64 0, .int .i64 0] 32) none)
 have H0 := Hid.mk' (h.grown (grownBy_drew G0.out))
 have A0 := Hid.mk' (At.new w [.int .i64 0, .int .i64 0] 32).drew
 clear h
 go_enter Tryz.func93, Tryz.ntmps93
 go_wp2_with fail
 refine wp_region_held_drew (S := fun w' => At w' b (s.cells bd (.map (some bm)) ov)) (by kernel_rfl) (H0.out.hs.at_) (fun hHeld => ?_)
 refine hTk 0 ?_
 simp only [lS0, lS1]
 refine hTk 1 ?_
 simp only [lS0, lS1]
 refine hCall 2 (f := 146) (args := #[.float .f32 pl, .float .f32 sp]) (by kernel_rfl) (by rfl) (by rfl) (by go_simp) ?_
 refine Calls.mono (drift_any pl sp _) ?_
 rintro e w2 ⟨rfl, rfl⟩
 refine ⟨_, rfl, hHeld, ?_⟩
 rw [hn]
 simp only [lS0, lS1]
 refine hTk 3 ?_
 simp only [lS0, lS1]
 refine hTk 4 ?_
 simp only [lS0, lS1]
 refine hTk 5 ?_
 simp only [lS0, lS1]
 refine hTk 7 ?_
 simp only [lS0, lS1]
 refine hTk 8 ?_
 simp only [lS0, lS1]
 refine hTk 9 ?_
 simp only [lS0, lS1]
 refine hTy 10 rfl (by intro w hSw; have S0 := hSw.c 0 _ rfl; go_simp; try with_reducible rfl) ?_
 simp only [lS0, lS1]
 refine hCall 6 (f := 147) (args := #[.float .f32 pl]) (by kernel_rfl) (by rfl) (by rfl) (by go_simp) ?_
 refine Calls.mono (side_any pl _) ?_
 rintro e w3 ⟨rfl, rfl⟩
 refine ⟨_, rfl, hHeld, ?_⟩
 rw [hs]
 simp only [lS0, lS1]
 refine hTk 11 ?_
 simp only [lS0, lS1]
 refine hTk 12 ?_
 simp only [lS0, lS1]
 refine wpAnyH_done (by kernel_rfl) ?_ _
 go_wp2_with fail
 refine Calls.mono (shFull_any B b bd bm ov s _ H0.out.hs) ?_
 rintro e w4 ⟨rfl, g4⟩
 have H4 := Hid.mk' (H0.out.grown g4)
 have A4 := Hid.mk' (A0.out.grown g4)
 have G4 := Hid.mk' ((grownBy_drew G0.out).trans g4)
 have c10 := H4.out.hs.at_.c 10 _ rfl
 have a0 := A4.out.c 0 _ rfl
 have a1 := A4.out.c 1 _ rfl
 have p0 := A4.out.f 0
 have p1 := A4.out.f 1
 rw [hf]
 rw [hl] at c10
 have B4 := ((A4.out.put 0 (.int .i64 0) (by simp)).put 1 (.int .i64 0) (by simp))
 have b0 := B4.c 0 _ rfl
 have b1 := B4.c 1 _ rfl
 go_wp2
 exact bodyPost_ret (v := idE 0 0 6) (by simp [results, Tryz.results93, idE, go_sem, *]) rfl ⟨rfl, (((Only.grown G4.out).mono (A' := fun _ => False) (by simp)).trans ((Only.set2 w4 w.heap.size 0 1 _ _).mono (fun _ _ e => .inr (Nat.le_of_eq e.symm)))).fresh (fun _ _ h => h)⟩
theorem mint_go (B b bd bm : Nat) (ov : Value) (s : Sh) (F : Nat -> Prop) (pl sp : Nat) (w : World) (h : SU w B b s bd bm ov) (hps : PS w b s F) (hn : (nearB pl && nearB sp) = true) (hs : sideB pl = (s.no : Int)) (hf : decide (s.cI <= (s.th.length : Int)) = false) (hl : s.ms.m < 65535) (hl0 : 0 <= s.ms.m)
  (hj : ∀ W, PS W b s F -> Calls Tryz.prog 134 #[.pointer (some ⟨b, 0, none⟩), rv 1 0 ⟨s.no, s.ms.m + 1, pl, sp⟩ mk0 (.slice none 0 0) (.slice none 0 0)] W fun e w' => e = .returned (.int .i64 (s.jrn (s.mintRec pl sp)).1) /\ PS w' b (s.jrn (s.mintRec pl sp)).2 (NX W w' F) /\ Only W w' F) (hF : ∀ j, F j -> j < w.heap.size) :
  Calls Tryz.prog 93 #[.pointer (some ⟨b, 0, none⟩), .float .f32 pl, .float .f32 sp] w fun e w' => e = .returned (if (s.jrn (s.mintRec pl sp)).1 = 0 then idE s.no (s.ms.m + 1) 0 else idE 0 0 (s.jrn (s.mintRec pl sp)).1) /\ PS w' b (s.jrn (s.mintRec pl sp)).2 (NX w w' F) /\ Only w w' F := by
 have H := Hid.mk' h
 have G0 := Hid.mk' (World.grownBy_alloc w (.cells #[.int .i64 0, .int .i64 0] 32) none)
 have H0 := Hid.mk' (h.grown (grownBy_drew G0.out))
 have A0 := Hid.mk' (At.new w [.int .i64 0, .int .i64 0] 32).drew
 have JR := Hid.mk' hj
 have PP := Hid.mk' hps
 have HF := Hid.mk' hF
 clear h hj hps hF
 go_enter Tryz.func93, Tryz.ntmps93
 go_wp2_with fail
 refine wp_region_held_drew (S := fun w' => At w' b (s.cells bd (.map (some bm)) ov)) (by kernel_rfl) (H0.out.hs.at_) (fun hHeld => ?_)
 refine hTk 0 ?_
 simp only [lS0, lS1]
 refine hTk 1 ?_
 simp only [lS0, lS1]
 refine hCall 2 (f := 146) (args := #[.float .f32 pl, .float .f32 sp]) (by kernel_rfl) (by rfl) (by rfl) (by go_simp) ?_
 refine Calls.mono (drift_any pl sp _) ?_
 rintro e w2 ⟨rfl, rfl⟩
 refine ⟨_, rfl, hHeld, ?_⟩
 rw [hn]
 simp only [lS0, lS1]
 refine hTk 3 ?_
 simp only [lS0, lS1]
 refine hTk 4 ?_
 simp only [lS0, lS1]
 refine hTk 5 ?_
 simp only [lS0, lS1]
 refine hTk 7 ?_
 simp only [lS0, lS1]
 refine hTk 8 ?_
 simp only [lS0, lS1]
 refine hTk 9 ?_
 simp only [lS0, lS1]
 refine hTy 10 rfl (by intro w hSw; have S0 := hSw.c 0 _ rfl; go_simp; try with_reducible rfl) ?_
 simp only [lS0, lS1]
 refine hCall 6 (f := 147) (args := #[.float .f32 pl]) (by kernel_rfl) (by rfl) (by rfl) (by go_simp) ?_
 refine Calls.mono (side_any pl _) ?_
 rintro e w3 ⟨rfl, rfl⟩
 refine ⟨_, rfl, hHeld, ?_⟩
 rw [hs]
 simp only [lS0, lS1]
 refine hTk 11 ?_
 simp only [lS0, lS1]
 refine hTk 12 ?_
 simp only [lS0, lS1]
 refine wpAnyH_done (by kernel_rfl) ?_ _
 go_wp2_with fail
 refine Calls.mono (shFull_any B b bd bm ov s _ H0.out.hs) ?_
 rintro e w4 ⟨rfl, g4⟩
 have H4 := Hid.mk' (H0.out.grown g4)
 have A4 := Hid.mk' (A0.out.grown g4)
 have G4 := Hid.mk' ((grownBy_drew G0.out).trans g4)
 have c10 := H4.out.hs.at_.c 10 _ rfl
 have a0 := A4.out.c 0 _ rfl
 have a1 := A4.out.c 1 _ rfl
 have p0 := A4.out.f 0
 have p1 := A4.out.f 1
 rw [hf]
 have hwr : IntKind.i64.wrap (s.ms.m + 1) = s.ms.m + 1 := by simp [IntKind.wrap, IntKind.bits, IntKind.signed]; omega
 have hne : b ≠ w4.heap.size := by have := H4.out.hs.at_.lt; omega
 have c0 := H4.out.hs.at_.c 0 _ rfl
 go_wp2_with fail
 refine wp_region_held_drew (S := fun w' => At w' b (s.cells bd (.map (some bm)) ov)) (by kernel_rfl) (H4.out.hs.at_.drew) (fun hHeld => ?_)
 refine hTk 0 ?_
 simp only [lS0, lS1]
 refine hTk 1 ?_
 simp only [lS0, lS1]
 refine hTk 2 ?_
 simp only [lS0, lS1]
 refine hTy 3 rfl (by intro w hSw; have S0 := hSw.c 0 _ rfl; go_simp; try with_reducible rfl) ?_
 simp only [lS0, lS1]
 refine hTk 4 ?_
 simp only [lS0, lS1]
 refine hTk 5 ?_
 simp only [lS0, lS1]
 refine hTk 6 ?_
 simp only [lS0, lS1]
 refine hTk 7 ?_
 simp only [lS0, lS1]
 refine hTk 8 ?_
 simp only [lS0, lS1]
 refine hTy 9 rfl (by intro w hSw; have S10 := hSw.c 10 _ rfl; go_simp; try with_reducible rfl) ?_
 simp only [lS0, lS1]
 refine hTk 10 ?_
 simp only [lS0, lS1]
 refine hTk 11 ?_
 simp only [lS0, lS1]
 refine hRun 12 (by kernel_rfl) (by rfl) (by rfl) ?_
 intro K hK
 go_simp
 refine hK _ _ (hHeld.grown (World.grownBy_alloc _ _ none)) ?_
 clear hK K
 have hHeld := hHeld.grown (World.grownBy_alloc _ (.cells #[.int .i64 0, .int .i64 0] 32) none)
 have X0 := At.new w4.drew [.int .i64 0, .int .i64 0] 32
 refine hRun 13 (by kernel_rfl) (by rfl) (by rfl) ?_
 intro K hK
 go_simp
 have X1 : At ((w4.alloc (.cells #[.int .i64 s.no, .int .i64 (s.ms.m + 1)] 32)).drew) w4.heap.size [.int .i64 s.no, .int .i64 (s.ms.m + 1)] := (At.new w4 [.int .i64 s.no, .int .i64 (s.ms.m + 1)] 32).drew
 have g5 := grownBy_drew (World.grownBy_alloc w4 (.cells #[.int .i64 s.no, .int .i64 (s.ms.m + 1)] 32) none)
 refine hK _ _ (H4.out.grown g5).hs.at_ ?_
 clear hK K X0 hHeld
 refine wpAnyH_done (by kernel_rfl) ?_ _
 have G5 := Hid.mk' (G4.out.trans g5)
 have A5 := Hid.mk' (A4.out.grown g5)
 have x0 := X1.c 0 _ rfl
 have x1 := X1.c 1 _ rfl
 have P5 := Hid.mk' (PP.out.only ((Only.grown G5.out).mono (A' := fun _ => False) (by simp)) (fun _ _ h => h))
 go_wp2_with fail
 refine Calls.mono (JR.out _ P5.out) ?_
 rintro e w6 ⟨rfl, P6, O6⟩
 have z4 := G4.out.size
 have s0 : w.heap.size + 1 <= w4.heap.size := by simpa using g4.size
 have A6 := A5.out.only O6 (fun e => by have := HF.out _ e; omega)
 have X6 := X1.only O6 (fun e => by have := HF.out _ e; omega)
 have y0 := X6.c 0 _ rfl
 have y1 := X6.c 1 _ rfl
 have a0 := A6.c 0 _ rfl
 have a1 := A6.c 1 _ rfl
 have q0 := A6.f 0
 have q1 := A6.f 1
 have ON : ∀ u v, Only w ((w6.setCell ⟨w.heap.size, 0, none⟩ u).setCell ⟨w.heap.size, 1, none⟩ v) F := fun u v =>
  (((Only.grown G5.out).mono (by simp)).trans (O6.mono (fun _ _ e => .inl e))).trans ((Only.set2 w6 w.heap.size 0 1 _ _).mono (fun _ _ e => .inr (Nat.le_of_eq e.symm)))
 have PN : ∀ u v, PS ((w6.setCell ⟨w.heap.size, 0, none⟩ u).setCell ⟨w.heap.size, 1, none⟩ v) b (s.jrn (s.mintRec pl sp)).2 (NX w ((w6.setCell ⟨w.heap.size, 0, none⟩ u).setCell ⟨w.heap.size, 1, none⟩ v) F) := fun u v => by
  have o := Only.set2 w6 w.heap.size 0 1 u v
  have P7 := P6.only o (fun j hj e => by subst e; rcases hj.1 with h | h; have := HF.out _ h; omega; have := G5.out.size; have := g5.size; omega)
  refine P7.mono (fun j hj h => ⟨?_, hj⟩)
  rcases h.1 with h | h
  ·exact .inl h
  ·exact .inr (Nat.le_trans G5.out.size h)
 generalize hjr : s.jrn (s.mintRec pl sp) = jr at *
 obtain ⟨er, s1⟩ := jr
 simp only at *
 by_cases he : er = 0
 ·subst he
  have B6 := (A6.put 0 (.int .i64 s.no) (by simp)).put 1 (.int .i64 (s.ms.m + 1)) (by simp)
  have b0 := B6.c 0 _ rfl
  have b1 := B6.c 1 _ rfl
  go_wp2
  all_goals exact bodyPost_ret (v := idE s.no (s.ms.m + 1) 0) (by simp [results, Tryz.results93, idE, go_sem, *]) rfl ⟨by rfl, PN _ _, ON _ _⟩
 ·have he' : (er == 0) = false := by simpa using he
  have B6 := (A6.put 0 (.int .i64 0) (by simp)).put 1 (.int .i64 0) (by simp)
  have b0 := B6.c 0 _ rfl
  have b1 := B6.c 1 _ rfl
  go_wp2
  all_goals exact bodyPost_ret (v := idE 0 0 er) (by simp [results, Tryz.results93, idE, go_sem, *]) rfl ⟨by rfl, PN _ _, ON _ _⟩
theorem tick_ps (b : Nat) (s : Sh) (F : Nat -> Prop) (w : World) (h : PS w b s F) (hu : s.up = true) (hct : s.ct < 2) (hcj : s.cJ <= 5000) (ok : DrInv s /\ s.th.length <= 1000 /\ ∀ x ∈ s.th, nearB x.pl = true /\ nearB x.sp = true) :
  Calls Tryz.prog 80 #[.pointer (some ⟨b, 0, none⟩)] w fun e w' => e = .returned (.int .i64 (s.jrn ⟨3, 0, it0, mk0, [], []⟩).1) /\ PS w' b (s.jrn ⟨3, 0, it0, mk0, [], []⟩).2 (NX w w' F) /\ Only w w' F := by
 have J := Hid.mk' (journal_ps b s F ⟨3, 0, it0, mk0, [], []⟩ w h hu ⟨rfl, rfl⟩ (by decide) ⟨⟨by decide, by decide⟩, by simp, by simp⟩ hct hcj ⟨.inr (.inr (.inl rfl)), by unfold i64B it0; decide, fun _ => ok, fun h => absurd h (by simp)⟩)
 clear h ok
 go_enter Tryz.func80, Tryz.ntmps80
 go_wp2_with fail
 refine Calls.mono J.out ?_
 rintro e w1 ⟨rfl, h1, h2⟩
 go_wp2
 go_ret
 exact ⟨rfl, h1, h2⟩
def gotTh (th : List It) (a b : Int) : It := (th.find? (fun x => decide (x.sh = a /\ x.nu = b))).getD it0
theorem got_at : ∀ {th : List It} {j : Nat} {i : It} {a b : Int}, th.Pairwise (fun a b => ¬ a.same b) -> th[j]? = some i -> i.sh = a -> i.nu = b -> gotTh th a b = i
 | [], j, i, a, b, _, h, _, _ => by simp at h
 | x :: r, 0, i, a, b, _, h, ea, eb => by
  simp at h
  subst h
  simp [gotTh, ea, eb]
 | x :: r, j + 1, i, a, b, nd, h, ea, eb => by
  have nd' := List.pairwise_cons.1 nd
  have hi : r[j]? = some i := by simpa using h
  have hx : ¬ (x.sh = a /\ x.nu = b) := fun e => nd'.1 i (List.mem_of_getElem? hi) (by unfold It.same; omega)
  have := got_at (th := r) nd'.2 hi ea eb
  unfold gotTh at *
  rw [List.find?_cons, decide_eq_false hx]
  exact this
theorem Mp.look4 {w : World} {bm : Nat} {th : List It} (h : Mp w bm th) (a b : Int) (ha : i64B a) (hb : i64B b) :
  (Instr.lookup 128 (.map (some bm)) (idV a b) true).run Tryz.prog w = .ok (.tuple #[itV (gotTh th a b), .bool (hasTh th a b)]) w := by
 have nd := h.nd
 obtain ⟨es, clock, hbm, hs, hm, hf⟩ := h.find a b ha hb
 obtain ⟨l, hl⟩ := idKey a b ha hb
 rcases hf with ⟨h0, hr⟩ | ⟨h1, j, i, e, hj, hi, ea, eb, _, hr⟩
 ·have hz : (zeroValue 75).run Tryz.prog w = .ok (itV it0) w := Tryz.zeroValue75 w
  have hg : gotTh th a b = it0 := by
   unfold gotTh
   rw [List.find?_eq_none.2 (fun x hx => by unfold hasTh at h0; rw [List.any_eq_false] at h0; exact h0 x hx)]
   rfl
  rw [hg]
  simp [Instr.lookup, run_underlying Tryz.underlying128, MapKept.run_getObj_map hbm, idLaw.check w _ hl, hr, hz, Result.andThen, h0]
 ·rw [got_at nd hi ea eb]
  have h1' : (es.toList.map pairOf)[j]? = some (pairOf e) := by rw [List.getElem?_map, hj]; rfl
  rw [hm, List.getElem?_map, hi] at h1'
  have ev : itV i = e.val := congrArg Prod.snd (Option.some.inj h1')
  rw [ev]
  simp [Instr.lookup, run_underlying Tryz.underlying128, MapKept.run_getObj_map hbm, idLaw.check w _ hl, hr, Result.andThen, h1]
theorem destroy_ps (b : Nat) (s : Sh) (F : Nat -> Prop) (x y : Int) (w : World) (h : PS w b s F) (hu : s.up = true) (hct : s.ct < 2) (hcj : s.cJ <= 5000) (hx : i64B x) (hy : i64B y) (hid : hasTh s.th x y = true -> idB x y = true) :
  Calls Tryz.prog 99 #[.pointer (some ⟨b, 0, none⟩), .agg #[.int .i64 x, .int .i64 y]] w fun e w' => (hasTh s.th x y = false -> e = .returned (.int .i64 4) /\ PS w' b s (NX w w' F) /\ Only w w' F) /\ (hasTh s.th x y = true -> e = .returned (.int .i64 (s.jrn ⟨2, 0, ⟨x, y, 0, 0⟩, mk0, [], []⟩).1) /\ PS w' b (s.jrn ⟨2, 0, ⟨x, y, 0, 0⟩, mk0, [], []⟩).2 (NX w w' F) /\ Only w w' F) := by
 have PP := Hid.mk' h
 have JR : Hid (∀ W, PS W b s F -> idB x y = true -> Calls Tryz.prog 134 #[.pointer (some ⟨b, 0, none⟩), rv 2 0 ⟨x, y, 0, 0⟩ mk0 (.slice none 0 0) (.slice none 0 0)] W fun e w' => e = .returned (.int .i64 (s.jrn ⟨2, 0, ⟨x, y, 0, 0⟩, mk0, [], []⟩).1) /\ PS w' b (s.jrn ⟨2, 0, ⟨x, y, 0, 0⟩, mk0, [], []⟩).2 (NX W w' F) /\ Only W w' F) := Hid.mk' fun W hW hb =>
  journal_ps b s F ⟨2, 0, ⟨x, y, 0, 0⟩, mk0, [], []⟩ W hW hu ⟨rfl, rfl⟩ (by simp [mayB, hb, stB, nobB, mkZ, mk0]) ⟨⟨by simp, by simp⟩, by simp, by simp⟩ hct hcj ⟨.inr (.inl rfl), ⟨hx, hy⟩, by simp, by simp⟩
 obtain ⟨bd, ⟨_, B, bm, ov, p⟩ | ⟨hu', _⟩⟩ := h
 case inr => rw [hu] at hu'; cases hu'
 have hsf := run_store_float
 have H := Hid.mk' p.su
 have g0 := grownBy_drew (World.grownBy_alloc w (.cells #[.int .i64 x, .int .i64 y] 32) none)
 have H0 := Hid.mk' (p.su.grown g0)
 have A0 := Hid.mk' (At.new w [.int .i64 x, .int .i64 y] 32).drew
 have G0 := Hid.mk' g0
 have z0 : (w.alloc (.cells #[.int .i64 x, .int .i64 y] 32)).drew.heap.size = w.heap.size + 1 := by simp
 have bl := H0.out.hs.at_.lt
 have ml := H0.out.hs.mp.lt
 clear p g0
 go_enter Tryz.func99, Tryz.ntmps99
 go_wp2_with fail
 refine wp_region_held_drew (S := fun w' => At w' b (s.cells bd (.map (some bm)) ov) /\ At w' w.heap.size [.int .i64 x, .int .i64 y] /\ Mp w' bm s.th) (by kernel_rfl) (⟨H0.out.hs.at_, A0.out, H0.out.hs.mp⟩) (fun hHeld => ?_)
 refine hTk 0 ?_
 simp only [lS0, lS1]
 refine hTk 1 ?_
 simp only [lS0, lS1]
 refine hTk 2 ?_
 simp only [lS0, lS1]
 refine hTk 3 ?_
 simp only [lS0, lS1]
 refine hTy 4 rfl (by intro w hSw; have S7 := hSw.1.c 7 _ rfl; go_simp; try with_reducible rfl) ?_
 simp only [lS0, lS1]
 refine hTy 5 rfl (by intro w hSw; have S0 := hSw.2.1.c 0 _ rfl; have S1 := hSw.2.1.c 1 _ rfl; go_simp; try with_reducible rfl) ?_
 simp only [lS0, lS1]
 refine hTy 6 rfl (by intro w hSw; have L := hSw.2.2.look4 x y hx hy; unfold idV itV at L; go_simp; try with_reducible rfl) ?_
 simp only [lS0, lS1]
 refine hTk 7 ?_
 simp only [lS0, lS1]
 refine hTk 8 ?_
 simp only [lS0, lS1]
 refine hTk 9 ?_
 simp only [lS0, lS1]
 have g1 := World.grownBy_alloc (w.alloc (.cells #[.int .i64 x, .int .i64 y] 32)).drew (.cells #[.int .i64 0, .int .i64 0, .float .f32 0, .float .f32 0] 75) none
 have g2 := grownBy_drew (World.grownBy_alloc (w.alloc (.cells #[.int .i64 x, .int .i64 y] 32)) (.cells #[.int .i64 (gotTh s.th x y).sh, .int .i64 (gotTh s.th x y).nu, .float .f32 (gotTh s.th x y).pl, .float .f32 (gotTh s.th x y).sp] 75) none)
 have H1 := Hid.mk' (H0.out.grown g1)
 have A1 := Hid.mk' (A0.out.grown g1)
 have A2 := Hid.mk' ((At.new w [.int .i64 x, .int .i64 y] 32).grown g2)
 have H2 := Hid.mk' (((H.out.grown (World.grownBy_alloc w (.cells #[.int .i64 x, .int .i64 y] 32) none))).grown g2)
 have G2 := Hid.mk' ((World.grownBy_alloc w (.cells #[.int .i64 x, .int .i64 y] 32) none).trans g2)
 refine hRun 10 (by kernel_rfl) (by rfl) (by rfl) ?_
 intro K hK
 go_simp
 refine hK _ _ ⟨H1.out.hs.at_, A1.out, H1.out.hs.mp⟩ ?_
 clear hK K
 refine hRun 11 (by kernel_rfl) (by rfl) (by rfl) ?_
 intro K hK
 go_simp
 clear hHeld
 have hHeld := And.intro H2.out.hs.at_ (And.intro A2.out H2.out.hs.mp)
 refine hK _ _ hHeld ?_
 clear hK K
 refine hTk 12 ?_
 simp only [lS0, lS1]
 refine wpAnyH_done (by kernel_rfl) ?_ _
 have x0 := A2.out.c 0 _ rfl
 have x1 := A2.out.c 1 _ rfl
 have P2 := Hid.mk' (PP.out.only ((Only.grown G2.out).mono (A' := fun _ => False) (by simp)) (fun _ _ h => h))
 by_cases hh : hasTh s.th x y = true
 ·rw [hh]
  go_wp2_with fail
  refine Calls.mono (JR.out _ P2.out (hid hh)) ?_
  rintro e w3 ⟨rfl, P3, O3⟩
  go_wp2
  go_ret
  refine ⟨fun h => absurd (hh.symm.trans h) (by decide), fun _ => ⟨rfl, P3.mono (fun j hj h => ⟨?_, hj⟩), ((Only.grown G2.out).mono (by simp)).trans (O3.mono (fun _ _ e => .inl e))⟩⟩
  rcases h.1 with h | h
  ·exact .inl h
  ·exact .inr (Nat.le_trans G2.out.size h)
 ·have hh' : hasTh s.th x y = false := by simpa using hh
  rw [hh']
  go_wp2
  go_ret
  exact ⟨fun _ => ⟨rfl, PP.out.grown G2.out, (Only.grown G2.out).mono (by simp)⟩, fun h => absurd (hh'.symm.trans h) (by decide)⟩
def Sh.mint (s : Sh) (pl sp : Nat) : (Int × Int × Int) × Sh :=
 if (nearB pl && nearB sp) = false ∨ ¬ sideB pl = (s.no : Int) then ((0, 0, 2), s)
 else if s.cI <= (s.th.length : Int) ∨ s.ms.m = 65535 then ((0, 0, 6), s)
 else if (s.jrn (s.mintRec pl sp)).1 = 0 then ((s.no, s.ms.m + 1, 0), (s.jrn (s.mintRec pl sp)).2) else ((0, 0, (s.jrn (s.mintRec pl sp)).1), (s.jrn (s.mintRec pl sp)).2)
theorem mint_ps (b : Nat) (s : Sh) (F : Nat -> Prop) (pl sp : Nat) (w : World) (h : PS w b s F) (hF : ∀ j, F j -> j < w.heap.size) (hu : s.up = true) (hct : s.ct < 2) (hcj : s.cJ <= 5000) (hno : s.no < 2) (hm0 : 0 <= s.ms.m) (hm1 : s.ms.m <= 65535) (hp : pl < 4294967296) (hq : sp < 4294967296) :
  Calls Tryz.prog 93 #[.pointer (some ⟨b, 0, none⟩), .float .f32 pl, .float .f32 sp] w fun e w' => e = .returned (idE (s.mint pl sp).1.1 (s.mint pl sp).1.2.1 (s.mint pl sp).1.2.2) /\ PS w' b (s.mint pl sp).2 (NX w w' F) /\ Only w w' F := by
 have h0 := h
 obtain ⟨bd, ⟨_, B, bm, ov, p⟩ | ⟨hu', _⟩⟩ := h
 case inr => rw [hu] at hu'; cases hu'
 have gw : ∀ (x : Int) (e : Ending) (w' : World), e = .returned (idE 0 0 x) /\ w.grownBy w' none -> e = .returned (idE 0 0 x) /\ PS w' b s (NX w w' F) /\ Only w w' F := fun x e w' hh => ⟨hh.1, h0.grown hh.2, (Only.grown hh.2).mono (by simp)⟩
 unfold Sh.mint
 by_cases hn : (nearB pl && nearB sp) = false
 ·rw [if_pos (.inl hn)]
  exact (mint_far B b bd bm ov s pl sp w p.su hn).mono (gw 2)
 have hn' : (nearB pl && nearB sp) = true := by simpa using hn
 by_cases hs : ¬ sideB pl = (s.no : Int)
 ·rw [if_pos (.inr hs)]
  exact (mint_side B b bd bm ov s pl sp w p.su hn' hs).mono (gw 2)
 rw [if_neg (fun e => e.elim hn hs)]
 have hs' := Classical.not_not.1 hs
 by_cases hf : s.cI <= (s.th.length : Int)
 ·rw [if_pos (.inl hf)]
  exact (mint_full B b bd bm ov s pl sp w p.su hn' hs' (decide_eq_true hf)).mono (gw 6)
 by_cases hl : s.ms.m = 65535
 ·rw [if_pos (.inr hl)]
  exact (mint_last B b bd bm ov s pl sp w p.su hn' hs' (decide_eq_false hf) hl).mono (gw 6)
 rw [if_neg (fun e => e.elim hf hl)]
 have n1 : nearB pl = true := (Bool.and_eq_true_iff.1 hn').1
 have n2 : nearB sp = true := (Bool.and_eq_true_iff.1 hn').2
 have hno' : (s.no : Int) = 0 ∨ (s.no : Int) = 1 := by omega
 refine (mint_go B b bd bm ov s F pl sp w p.su h0 hn' hs' (decide_eq_false hf) (by omega) hm0 (fun W hW => journal_ps b s F (s.mintRec pl sp) W hW hu ⟨rfl, rfl⟩ ?_ ⟨⟨hp, hq⟩, by simp [Sh.mintRec], by simp [Sh.mintRec]⟩ hct hcj ⟨.inl rfl, ?_, by simp [Sh.mintRec], by simp [Sh.mintRec]⟩) hF).mono ?_
 ·simp only [mayB, Sh.mintRec, itB, idB, n1, n2, nobB, mkZ, mk0]
  simp
  have e1 : s.no = 0 ∨ (s.no : Int) = 1 := by omega
  exact ⟨⟨e1, decide_eq_true (by omega)⟩, decide_eq_true (by omega)⟩
 ·unfold i64B Sh.mintRec
  simp only
  omega
 ·rintro e w' ⟨he, h1, h2⟩
  split
  ·rename_i h3
   rw [if_pos h3] at he
   exact ⟨he, h1, h2⟩
  ·rename_i h3
   rw [if_neg h3] at he
   exact ⟨he, h1, h2⟩
def Sh.snap (s : Sh) : Int × Sh :=
 if s.ms.g = 65535 then (5, s)
 else if s.cJ < ((frm s.snapRec).length : Int) then (5, s)
 else if (s.dk.cut (1 - s.ct)).2 = false then (3, s.down.on (s.dk.cut (1 - s.ct)).1)
 else if ((s.dk.cut (1 - s.ct)).1.append (1 - s.ct) (frm s.snapRec)).2 = false then (3, s.down.on ((s.dk.cut (1 - s.ct)).1.append (1 - s.ct) (frm s.snapRec)).1)
 else if (((s.dk.cut (1 - s.ct)).1.append (1 - s.ct) (frm s.snapRec)).1.sync (1 - s.ct)).2 = false then (3, s.down.on (((s.dk.cut (1 - s.ct)).1.append (1 - s.ct) (frm s.snapRec)).1.sync (1 - s.ct)).1)
 else (0, { s with ct := 1 - s.ct, ms := { s.ms with g := s.ms.g + 1 }, dk := (((s.dk.cut (1 - s.ct)).1.append (1 - s.ct) (frm s.snapRec)).1.sync (1 - s.ct)).1 })
theorem snap_ps (b : Nat) (s : Sh) (F : Nat -> Prop) (w : World) (h : PS w b s F) (hu : s.up = true) (hl : s.th.length <= 1000) (hlo : s.ob.length <= 1000) (hct : s.ct < 2) (hg0 : 0 <= s.ms.g) (hg1 : s.ms.g <= 65535) (hm : s.ms.g < 65535 -> mayB s.snapRec = true) (wf : WfR s.snapRec) :
  Calls Tryz.prog 68 #[.pointer (some ⟨b, 0, none⟩)] w fun e w' => e = .returned (.int .i64 s.snap.1) /\ PS w' b s.snap.2 (NX w w' F) /\ Only w w' F := by
 have h0 := h
 obtain ⟨bd, ⟨_, B, bm, ov, p⟩ | ⟨hu', _⟩⟩ := h
 case inr => rw [hu] at hu'; cases hu'
 unfold Sh.snap
 split
 ·rename_i hg
  refine (snap_last b bd _ _ s w p.su.hs.at_ hg).mono ?_
  rintro e w' ⟨he, rfl⟩
  exact ⟨he, h0.grown (grownBy_refl _ _), Only.refl _ _⟩
 rename_i hg
 have hg1' : s.ms.g < 65535 := by omega
 have hm' := hm hg1'
 split
 ·rename_i hc
  refine (snap_full B b bd bm ov s w p.su hl hlo hct hg0 hg1' hm' wf hc).mono ?_
  rintro e w' ⟨he, g⟩
  exact ⟨he, h0.grown g, (Only.grown g).mono (by simp)⟩
 rename_i hc
 have ff : ∀ w' : World, Only w w' (fun j => j = b ∨ j = bd) -> Only w w' F := fun w' o => o.mono (fun j _ e => by rcases e with rfl | rfl; exact p.f1; exact p.f2)
 have ok1 := p.su.ok.cut (1 - s.ct)
 split
 ·rename_i h1
  refine (snap_cut B b bd bm ov s w p.su hl hlo hct hg0 hg1' hm' wf hc h1).mono ?_
  rintro e w' ⟨he, q1, q2, o⟩
  exact ⟨he, ps_down q1 q2 ok1 p.su.d1 p.f1 p.f2, ff w' o⟩
 rename_i h1
 have h1' : (s.dk.cut (1 - s.ct)).2 = true := by simpa using h1
 have hfl : (frm s.snapRec).length <= 1200 := by have := (enc_len s.snapRec hm').2; unfold frm; rw [List.length_append]; simp [n2]; omega
 have ok2 := (ok1.append (1 - s.ct) (frm s.snapRec) (by rw [cut_len _ _ h1']; omega)).act
 split
 ·rename_i h2
  refine (snap_app B b bd bm ov s w p.su hl hlo hct hg0 hg1' hm' wf hc h1' h2).mono ?_
  rintro e w' ⟨he, q1, q2, o⟩
  exact ⟨he, ps_down q1 q2 ok2 p.su.d1 p.f1 p.f2, ff w' o⟩
 rename_i h2
 have h2' : ((s.dk.cut (1 - s.ct)).1.append (1 - s.ct) (frm s.snapRec)).2 = true := by simpa using h2
 split
 ·rename_i h3
  refine (snap_syn B b bd bm ov s w p.su hl hlo hct hg0 hg1' hm' wf hc h1' h2' h3).mono ?_
  rintro e w' ⟨he, q1, q2, o⟩
  exact ⟨he, ps_down q1 q2 (Dk.Ok.sync ok2 _) p.su.d1 p.f1 p.f2, ff w' o⟩
 rename_i h3
 have h3' : (((s.dk.cut (1 - s.ct)).1.append (1 - s.ct) (frm s.snapRec)).1.sync (1 - s.ct)).2 = true := by simpa using h3
 refine (snap_ok B b bd bm ov s w p.su hl hlo hct hg0 hg1' hm' wf hc h1' h2' h3').mono ?_
 rintro e w' ⟨he, q1, q2, o⟩
 refine ⟨he, ⟨bd, .inl ⟨hu, B, bm, ov, ⟨q1.on _, q2, Dk.Ok.sync ok2 _, p.su.d1, p.su.d2, p.su.d3⟩, ⟨.inl p.f1, q1.at_.lt⟩, ⟨.inl p.f2, q2.lt⟩, ⟨.inl p.f3, q1.mp.lt⟩, fun j hj => ⟨.inl (p.f4 j hj), (q1.ob.lt j hj).2⟩⟩⟩, ff w' o⟩
theorem PS.cells {w : World} {b : Nat} {s : Sh} {F : Nat -> Prop} (h : PS w b s F) : ∃ bd mv ov, At w b (s.cells bd mv ov) /\ At w bd s.dk.cells /\ s.dk.Ok /\ bd ≠ b /\ F b /\ F bd := by
 obtain ⟨bd, ⟨_, B, bm, ov, p⟩ | ⟨_, p⟩⟩ := h
 ·exact ⟨bd, _, _, p.su.hs.at_, p.su.dk, p.su.ok, p.su.d1, p.f1, p.f2⟩
 ·exact ⟨bd, _, _, p.at_, p.dk, p.ok, p.d1, p.f1, p.f2⟩
theorem crash_ps (b : Nat) (s : Sh) (F : Nat -> Prop) (keep : Int) (w : World) (h : PS w b s F) :
  Calls Tryz.prog 44 #[.pointer (some ⟨b, 0, none⟩), .int .i64 keep] w fun e w' => e = .returned (.tuple #[]) /\ PS w' b (s.down.on (s.dk.crash keep)) (NX w w' F) /\ Only w w' F := by
 obtain ⟨bd, mv, ov, h1, h2, ok, ne, f1, f2⟩ := h.cells
 refine (shCrash_any b bd mv ov s keep w h1 h2 ok ne).mono ?_
 rintro e w' ⟨he, q1, q2, o⟩
 exact ⟨he, ps_down q1 q2 (ok.crash keep) ne f1 f2, o.mono (fun j _ e => by rcases e with rfl | rfl; exact f1; exact f2)⟩
theorem break_ps (b : Nat) (s : Sh) (F : Nat -> Prop) (k keep : Int) (w : World) (h : PS w b s F) (hk : k <= 9223372036854775807) :
  Calls Tryz.prog 67 #[.pointer (some ⟨b, 0, none⟩), .int .i64 k, .int .i64 keep] w fun e w' => (k < 0 /\ e = .returned (.int .i64 2) /\ w' = w) ∨ (0 <= k /\ e = .returned (.int .i64 0) /\ PS w' b (s.on { s.dk with un := k, kp := keep }) (NX w w' F) /\ Only w w' F) := by
 have h0 := h
 obtain ⟨bd, mv, ov, h1, h2, ok, ne, f1, f2⟩ := h.cells
 obtain ⟨bd, hh⟩ := h
 have key : ∀ (mv ov : Value), At w b (s.cells bd mv ov) -> At w bd s.dk.cells -> s.dk.Ok -> F bd -> (∀ w', At w' bd ({ s.dk with un := k, kp := keep } : Dk).cells -> ({ s.dk with un := k, kp := keep } : Dk).Ok -> Only w w' (fun j => j = bd) -> PS w' b (s.on { s.dk with un := k, kp := keep }) (NX w w' F)) -> Calls Tryz.prog 67 #[.pointer (some ⟨b, 0, none⟩), .int .i64 k, .int .i64 keep] w fun e w' => (k < 0 /\ e = .returned (.int .i64 2) /\ w' = w) ∨ (0 <= k /\ e = .returned (.int .i64 0) /\ PS w' b (s.on { s.dk with un := k, kp := keep }) (NX w w' F) /\ Only w w' F) := fun mv ov c1 c2 ok f2 hp => by
  refine (shBreak_any b bd mv ov s k keep w c1 c2).mono ?_
  rintro e w' (⟨q1, q2, q3⟩ | ⟨q1, q2, q3, o⟩)
  ·exact .inl ⟨q1, q2, q3⟩
  ·exact .inr ⟨q1, q2, hp w' q3 ⟨ok.a0, ok.a1, ok.b0, ok.b1, q1, hk⟩ o, o.mono (fun j _ e => by rw [e]; exact f2)⟩
 rcases hh with ⟨hu, B, bm, ov, p⟩ | ⟨hu, p⟩
 ·refine key _ _ p.su.hs.at_ p.su.dk p.su.ok p.f2 (fun w' c ok' o => ?_)
  have q := p.su.hs.disk o p.su.d1 p.su.d2 p.su.d3
  exact ⟨bd, .inl ⟨hu, B, bm, ov, ⟨q.on _, c, ok', p.su.d1, p.su.d2, p.su.d3⟩, ⟨.inl p.f1, q.at_.lt⟩, ⟨.inl p.f2, c.lt⟩, ⟨.inl p.f3, q.mp.lt⟩, fun j hj => ⟨.inl (p.f4 j hj), (q.ob.lt j hj).2⟩⟩⟩
 ·refine key _ _ p.at_ p.dk p.ok p.f2 (fun w' c ok' o => ?_)
  have q := p.at_.only o (fun e => p.d1 e.symm)
  exact ⟨bd, .inr ⟨hu, q, c, ok', p.d1, ⟨.inl p.f1, q.lt⟩, ⟨.inl p.f2, c.lt⟩, p.e1, p.e2, p.e3⟩⟩
theorem world_ps (b : Nat) (s : Sh) (F : Nat -> Prop) (w : World) (h : PS w b s F) (hu : s.up = true) (hl : s.th.length <= 1000) :
  Calls Tryz.prog 39 #[.pointer (some ⟨b, 0, none⟩)] w fun e w' => ∃ v, e = .returned v /\ OwnI w.heap.size w' v (srtTh s.th) /\ w.grownBy w' none := by
 obtain ⟨bd, ⟨_, B, bm, ov, p⟩ | ⟨hu', _⟩⟩ := h
 case inr => rw [hu] at hu'; cases hu'
 refine (shWorld_any B b bd bm ov s w p.su.hs hl).mono ?_
 rintro e w' ⟨v, ss, he, hp, hs, ho, g⟩
 obtain rfl := srt_is hs hp p.su.hs.mp.nd
 exact ⟨v, he, ho, g⟩
theorem outbox_ps (b : Nat) (s : Sh) (F : Nat -> Prop) (w : World) (h : PS w b s F) (hu : s.up = true) (hl : s.ob.length <= 1000) :
  Calls Tryz.prog 40 #[.pointer (some ⟨b, 0, none⟩)] w fun e w' => ∃ v, e = .returned v /\ OwnE w.heap.size w' v s.ob /\ w.grownBy w' none := by
 obtain ⟨bd, ⟨_, B, bm, ov, p⟩ | ⟨hu', _⟩⟩ := h
 case inr => rw [hu] at hu'; cases hu'
 have E := Hid.mk' (entries_any B b 7 ov s.ob w (p.su.hs.at_.c 8 _ rfl) p.su.hs.ob hl)
 clear p hu
 go_enter Tryz.func40, Tryz.ntmps40
 go_wp2_with fail
 refine Calls.mono E.out ?_
 rintro e w1 ⟨v, rfl, h1, g1⟩
 go_wp2
 go_ret
 exact ⟨v, rfl, h1, g1⟩
theorem marks_ps (b : Nat) (s : Sh) (F : Nat -> Prop) (w : World) (h : PS w b s F) :
  Calls Tryz.prog 41 #[.pointer (some ⟨b, 0, none⟩)] w fun e w' => e = .returned (.agg #[.int .i64 s.ms.g, .int .i64 s.ms.m, .int .i64 s.ms.s, .int .i64 s.ms.a, .int .i64 s.ms.n]) /\ w.grownBy w' none := by
 obtain ⟨bd, mv, ov, h1, _⟩ := h.cells
 exact shMarks_any b bd mv ov s w h1
theorem file_ps (b : Nat) (s : Sh) (F : Nat -> Prop) (n : Int) (w : World) (h : PS w b s F) :
  Calls Tryz.prog 158 #[.pointer (some ⟨b, 0, none⟩), .int .i64 n] w fun e w' => e = .returned (.tuple #[.string (if n = 0 ∨ n = 1 then S (s.dk.file n.toNat) else S []), .int .i64 (if n = 0 ∨ n = 1 then 0 else 4)]) /\ w' = w := by
 obtain ⟨bd, mv, ov, h1, h2, _⟩ := h.cells
 exact shFile_any b bd mv ov s n w h1 h2
theorem up_ps (b : Nat) (s : Sh) (F : Nat -> Prop) (w : World) (h : PS w b s F) :
  Calls Tryz.prog 74 #[.pointer (some ⟨b, 0, none⟩)] w fun e w' => e = .returned (.bool s.up) /\ w' = w := by
 obtain ⟨bd, mv, ov, h1, _⟩ := h.cells
 exact shUp_any b s bd mv ov w h1
def ppC (b0 b1 : Nat) (f0 f1 : Value) : List Value := [.pointer (some ⟨b0, 0, none⟩), .pointer (some ⟨b1, 0, none⟩), f0, f1]
@[reducible] def is01 (i : Int) : Prop := i = 0 ∨ i = 1
def pick01 {α : Type} (x y : α) (i : Int) : α := if i = 0 then x else y
def upE (u0 u1 : Bool) (i : Int) : Int := if is01 i then (if pick01 u0 u1 i = true then 0 else 3) else 2
theorem pAt_no (bp : Nat) (i : Int) (w : World) (hi : ¬ is01 i) :
  Calls Tryz.prog 42 #[.pointer (some ⟨bp, 0, none⟩), .int .i64 i] w fun e w' => e = .returned (.tuple #[.pointer none, .int .i64 2]) /\ w' = w := by
 unfold is01 at hi
 rcases (by omega : i < 0 ∨ (0 <= i /\ 2 <= i)) with h | ⟨h0, h⟩
 all_goals
  clear hi
  go_enter Tryz.func42, Tryz.ntmps42
  go_wp2
  go_ret2
  exact ⟨rfl, rfl⟩
theorem pAt_yes (bp b0 b1 : Nat) (f0 f1 : Value) (i : Int) (w : World) (h : At w bp (ppC b0 b1 f0 f1)) (hi : is01 i) :
  Calls Tryz.prog 42 #[.pointer (some ⟨bp, 0, none⟩), .int .i64 i] w fun e w' => e = .returned (.tuple #[.pointer (some ⟨pick01 b0 b1 i, 0, none⟩), .int .i64 0]) /\ w' = w := by
 have c0 := h.c 0 _ rfl
 have c1 := h.c 1 _ rfl
 clear h
 rcases hi with rfl | rfl
 all_goals
  go_enter Tryz.func42, Tryz.ntmps42
  go_wp2
  go_ret2
  exact ⟨rfl, rfl⟩
theorem upAt_any (bp b0 b1 : Nat) (f0 f1 : Value) (u0 u1 : Bool) (i : Int) (w : World) (h : At w bp (ppC b0 b1 f0 f1)) (h0 : Calls Tryz.prog 74 #[.pointer (some ⟨b0, 0, none⟩)] w fun e w' => e = .returned (.bool u0) /\ w' = w) (h1 : Calls Tryz.prog 74 #[.pointer (some ⟨b1, 0, none⟩)] w fun e w' => e = .returned (.bool u1) /\ w' = w) :
  Calls Tryz.prog 38 #[.pointer (some ⟨bp, 0, none⟩), .int .i64 i] w fun e w' => e = .returned (.tuple #[.pointer (if upE u0 u1 i = 0 then some ⟨pick01 b0 b1 i, 0, none⟩ else none), .int .i64 (upE u0 u1 i)]) /\ w' = w := by
 by_cases hi : is01 i
 ·have A := Hid.mk' (pAt_yes bp b0 b1 f0 f1 i w h hi)
  clear h
  have U : Hid (Calls Tryz.prog 74 #[.pointer (some ⟨pick01 b0 b1 i, 0, none⟩)] w fun e w' => e = .returned (.bool (pick01 u0 u1 i)) /\ w' = w) := by
   rcases hi with rfl | rfl
   ·exact h0
   ·exact h1
  clear h0 h1
  have hE : upE u0 u1 i = if pick01 u0 u1 i = true then 0 else 3 := if_pos hi
  rw [hE]
  clear hE
  generalize pick01 u0 u1 i = u at *
  generalize pick01 b0 b1 i = b at *
  clear hi
  cases u
  all_goals
   go_enter Tryz.func38, Tryz.ntmps38
   go_wp2_with fail
   refine Calls.mono A.out ?_
   rintro e w1 ⟨rfl, rfl⟩
   go_wp2_with fail
   refine Calls.mono U.out ?_
   rintro e w2 ⟨rfl, rfl⟩
   go_wp2
   go_ret2
   exact ⟨rfl, rfl⟩
 ·have A := Hid.mk' (pAt_no bp i w hi)
  have hE : upE u0 u1 i = 2 := if_neg hi
  rw [hE]
  clear h h0 h1 hE hi
  go_enter Tryz.func38, Tryz.ntmps38
  go_wp2_with fail
  refine Calls.mono A.out ?_
  rintro e w1 ⟨rfl, rfl⟩
  go_wp2
  go_ret2
  exact ⟨rfl, rfl⟩
theorem pTick_w (bp b0 b1 : Nat) (f0 f1 : Value) (u0 u1 : Bool) (i : Int)  (w : World) (h : At w bp (ppC b0 b1 f0 f1)) (h0 : Calls Tryz.prog 74 #[.pointer (some ⟨b0, 0, none⟩)] w fun e w' => e = .returned (.bool u0) /\ w' = w) (h1 : Calls Tryz.prog 74 #[.pointer (some ⟨b1, 0, none⟩)] w fun e w' => e = .returned (.bool u1) /\ w' = w) (Q : Ending -> World -> Prop)
  (hno : upE u0 u1 i ≠ 0 -> Q (.returned (.int .i64 (upE u0 u1 i))) w) (hok : upE u0 u1 i = 0 -> Calls Tryz.prog 80 #[.pointer (some ⟨pick01 b0 b1 i, 0, none⟩)] w fun e w' => ∃ v, e = .returned v /\ Q (.returned v) w') :
  Calls Tryz.prog 33 #[.pointer (some ⟨bp, 0, none⟩), .int .i64 i] w Q := by
 have U := Hid.mk' (upAt_any bp b0 b1 f0 f1 u0 u1 i w h h0 h1)
 clear h h0 h1
 by_cases c : upE u0 u1 i = 0
 ·have OK := Hid.mk' (hok c)
  rw [c, if_pos rfl] at U
  clear hno hok c
  go_enter Tryz.func33, Tryz.ntmps33
  go_wp2_with fail
  refine Calls.mono U.out ?_
  rintro e w1 ⟨rfl, rfl⟩
  go_wp2_with fail
  refine Calls.mono OK.out ?_
  rintro e w2 ⟨v, rfl, q⟩
  go_wp2
  first | exact q | (go_ret; exact q) | (go_ret2; exact q)
 ·have NO := Hid.mk' (hno c)
  rw [if_neg c] at U
  have cb : (upE u0 u1 i != 0) = true := by simpa using c
  generalize upE u0 u1 i = z at *
  clear hno hok
  go_enter Tryz.func33, Tryz.ntmps33
  go_wp2_with fail
  refine Calls.mono U.out ?_
  rintro e w1 ⟨rfl, rfl⟩
  go_wp2
  first | exact NO.out | (go_ret; exact NO.out) | (go_ret2; exact NO.out)
theorem pSnapshot_w (bp b0 b1 : Nat) (f0 f1 : Value) (u0 u1 : Bool) (i : Int)  (w : World) (h : At w bp (ppC b0 b1 f0 f1)) (h0 : Calls Tryz.prog 74 #[.pointer (some ⟨b0, 0, none⟩)] w fun e w' => e = .returned (.bool u0) /\ w' = w) (h1 : Calls Tryz.prog 74 #[.pointer (some ⟨b1, 0, none⟩)] w fun e w' => e = .returned (.bool u1) /\ w' = w) (Q : Ending -> World -> Prop)
  (hno : upE u0 u1 i ≠ 0 -> Q (.returned (.int .i64 (upE u0 u1 i))) w) (hok : upE u0 u1 i = 0 -> Calls Tryz.prog 68 #[.pointer (some ⟨pick01 b0 b1 i, 0, none⟩)] w fun e w' => ∃ v, e = .returned v /\ Q (.returned v) w') :
  Calls Tryz.prog 28 #[.pointer (some ⟨bp, 0, none⟩), .int .i64 i] w Q := by
 have U := Hid.mk' (upAt_any bp b0 b1 f0 f1 u0 u1 i w h h0 h1)
 clear h h0 h1
 by_cases c : upE u0 u1 i = 0
 ·have OK := Hid.mk' (hok c)
  rw [c, if_pos rfl] at U
  clear hno hok c
  go_enter Tryz.func28, Tryz.ntmps28
  go_wp2_with fail
  refine Calls.mono U.out ?_
  rintro e w1 ⟨rfl, rfl⟩
  go_wp2_with fail
  refine Calls.mono OK.out ?_
  rintro e w2 ⟨v, rfl, q⟩
  go_wp2
  first | exact q | (go_ret; exact q) | (go_ret2; exact q)
 ·have NO := Hid.mk' (hno c)
  rw [if_neg c] at U
  have cb : (upE u0 u1 i != 0) = true := by simpa using c
  generalize upE u0 u1 i = z at *
  clear hno hok
  go_enter Tryz.func28, Tryz.ntmps28
  go_wp2_with fail
  refine Calls.mono U.out ?_
  rintro e w1 ⟨rfl, rfl⟩
  go_wp2
  first | exact NO.out | (go_ret; exact NO.out) | (go_ret2; exact NO.out)
theorem pDestroy_w (bp b0 b1 : Nat) (f0 f1 : Value) (u0 u1 : Bool) (i : Int) (x y : Int) (w : World) (h : At (w.alloc (.cells #[.int .i64 x, .int .i64 y] 32)) bp (ppC b0 b1 f0 f1)) (h0 : Calls Tryz.prog 74 #[.pointer (some ⟨b0, 0, none⟩)] (w.alloc (.cells #[.int .i64 x, .int .i64 y] 32)) fun e w' => e = .returned (.bool u0) /\ w' = (w.alloc (.cells #[.int .i64 x, .int .i64 y] 32))) (h1 : Calls Tryz.prog 74 #[.pointer (some ⟨b1, 0, none⟩)] (w.alloc (.cells #[.int .i64 x, .int .i64 y] 32)) fun e w' => e = .returned (.bool u1) /\ w' = (w.alloc (.cells #[.int .i64 x, .int .i64 y] 32))) (Q : Ending -> World -> Prop)
  (hno : upE u0 u1 i ≠ 0 -> Q (.returned (.int .i64 (upE u0 u1 i))) (w.alloc (.cells #[.int .i64 x, .int .i64 y] 32))) (hok : upE u0 u1 i = 0 -> Calls Tryz.prog 99 #[.pointer (some ⟨pick01 b0 b1 i, 0, none⟩), .agg #[.int .i64 x, .int .i64 y]] (w.alloc (.cells #[.int .i64 x, .int .i64 y] 32)) fun e w' => ∃ v, e = .returned v /\ Q (.returned v) w') :
  Calls Tryz.prog 48 #[.pointer (some ⟨bp, 0, none⟩), .int .i64 i, .agg #[.int .i64 x, .int .i64 y]] w Q := by
 have U := Hid.mk' (upAt_any bp b0 b1 f0 f1 u0 u1 i (w.alloc (.cells #[.int .i64 x, .int .i64 y] 32)) h h0 h1)
 clear h h0 h1
 by_cases c : upE u0 u1 i = 0
 ·have OK := Hid.mk' (hok c)
  rw [c, if_pos rfl] at U
  clear hno hok c
  go_enter Tryz.func48, Tryz.ntmps48
  go_wp2_with fail
  refine Calls.mono U.out ?_
  rintro e w1 ⟨rfl, rfl⟩
  go_wp2_with fail
  refine Calls.mono OK.out ?_
  rintro e w2 ⟨v, rfl, q⟩
  go_wp2
  first | exact q | (go_ret; exact q) | (go_ret2; exact q)
 ·have NO := Hid.mk' (hno c)
  rw [if_neg c] at U
  have cb : (upE u0 u1 i != 0) = true := by simpa using c
  generalize upE u0 u1 i = z at *
  clear hno hok
  go_enter Tryz.func48, Tryz.ntmps48
  go_wp2_with fail
  refine Calls.mono U.out ?_
  rintro e w1 ⟨rfl, rfl⟩
  go_wp2
  first | exact NO.out | (go_ret; exact NO.out) | (go_ret2; exact NO.out)
theorem pCrash_w (bp b0 b1 : Nat) (f0 f1 : Value) (u0 u1 : Bool) (i : Int) (k : Int) (w : World) (h : At w bp (ppC b0 b1 f0 f1)) (h0 : Calls Tryz.prog 74 #[.pointer (some ⟨b0, 0, none⟩)] w fun e w' => e = .returned (.bool u0) /\ w' = w) (h1 : Calls Tryz.prog 74 #[.pointer (some ⟨b1, 0, none⟩)] w fun e w' => e = .returned (.bool u1) /\ w' = w) (Q : Ending -> World -> Prop)
  (hno : upE u0 u1 i ≠ 0 -> Q (.returned (.int .i64 (upE u0 u1 i))) w) (hok : upE u0 u1 i = 0 -> Calls Tryz.prog 44 #[.pointer (some ⟨pick01 b0 b1 i, 0, none⟩), .int .i64 k] w fun e w' => ∃ v, e = .returned v /\ Q (.returned (.int .i64 0)) w') :
  Calls Tryz.prog 18 #[.pointer (some ⟨bp, 0, none⟩), .int .i64 i, .int .i64 k] w Q := by
 have U := Hid.mk' (upAt_any bp b0 b1 f0 f1 u0 u1 i w h h0 h1)
 clear h h0 h1
 by_cases c : upE u0 u1 i = 0
 ·have OK := Hid.mk' (hok c)
  rw [c, if_pos rfl] at U
  clear hno hok c
  go_enter Tryz.func18, Tryz.ntmps18
  go_wp2_with fail
  refine Calls.mono U.out ?_
  rintro e w1 ⟨rfl, rfl⟩
  go_wp2_with fail
  refine Calls.mono OK.out ?_
  rintro e w2 ⟨v, rfl, q⟩
  go_wp2
  first | exact q | (go_ret; exact q) | (go_ret2; exact q)
 ·have NO := Hid.mk' (hno c)
  rw [if_neg c] at U
  have cb : (upE u0 u1 i != 0) = true := by simpa using c
  generalize upE u0 u1 i = z at *
  clear hno hok
  go_enter Tryz.func18, Tryz.ntmps18
  go_wp2_with fail
  refine Calls.mono U.out ?_
  rintro e w1 ⟨rfl, rfl⟩
  go_wp2
  first | exact NO.out | (go_ret; exact NO.out) | (go_ret2; exact NO.out)
theorem pWorld_w (bp b0 b1 : Nat) (f0 f1 : Value) (u0 u1 : Bool) (i : Int)  (w : World) (h : At w bp (ppC b0 b1 f0 f1)) (h0 : Calls Tryz.prog 74 #[.pointer (some ⟨b0, 0, none⟩)] w fun e w' => e = .returned (.bool u0) /\ w' = w) (h1 : Calls Tryz.prog 74 #[.pointer (some ⟨b1, 0, none⟩)] w fun e w' => e = .returned (.bool u1) /\ w' = w) (Q : Ending -> World -> Prop)
  (hno : upE u0 u1 i ≠ 0 -> Q (.returned (.tuple #[.slice none 0 0, .int .i64 (upE u0 u1 i)])) w) (hok : upE u0 u1 i = 0 -> Calls Tryz.prog 39 #[.pointer (some ⟨pick01 b0 b1 i, 0, none⟩)] w fun e w' => ∃ v, e = .returned v /\ Q (.returned (.tuple #[v, .int .i64 0])) w') :
  Calls Tryz.prog 14 #[.pointer (some ⟨bp, 0, none⟩), .int .i64 i] w Q := by
 have U := Hid.mk' (upAt_any bp b0 b1 f0 f1 u0 u1 i w h h0 h1)
 clear h h0 h1
 by_cases c : upE u0 u1 i = 0
 ·have OK := Hid.mk' (hok c)
  rw [c, if_pos rfl] at U
  clear hno hok c
  go_enter Tryz.func14, Tryz.ntmps14
  go_wp2_with fail
  refine Calls.mono U.out ?_
  rintro e w1 ⟨rfl, rfl⟩
  go_wp2_with fail
  refine Calls.mono OK.out ?_
  rintro e w2 ⟨v, rfl, q⟩
  go_wp2
  first | exact q | (go_ret; exact q) | (go_ret2; exact q)
 ·have NO := Hid.mk' (hno c)
  rw [if_neg c] at U
  have cb : (upE u0 u1 i != 0) = true := by simpa using c
  generalize upE u0 u1 i = z at *
  clear hno hok
  go_enter Tryz.func14, Tryz.ntmps14
  go_wp2_with fail
  refine Calls.mono U.out ?_
  rintro e w1 ⟨rfl, rfl⟩
  go_wp2
  first | exact NO.out | (go_ret; exact NO.out) | (go_ret2; exact NO.out)
theorem pOutbox_w (bp b0 b1 : Nat) (f0 f1 : Value) (u0 u1 : Bool) (i : Int)  (w : World) (h : At w bp (ppC b0 b1 f0 f1)) (h0 : Calls Tryz.prog 74 #[.pointer (some ⟨b0, 0, none⟩)] w fun e w' => e = .returned (.bool u0) /\ w' = w) (h1 : Calls Tryz.prog 74 #[.pointer (some ⟨b1, 0, none⟩)] w fun e w' => e = .returned (.bool u1) /\ w' = w) (Q : Ending -> World -> Prop)
  (hno : upE u0 u1 i ≠ 0 -> Q (.returned (.tuple #[.slice none 0 0, .int .i64 (upE u0 u1 i)])) w) (hok : upE u0 u1 i = 0 -> Calls Tryz.prog 40 #[.pointer (some ⟨pick01 b0 b1 i, 0, none⟩)] w fun e w' => ∃ v, e = .returned v /\ Q (.returned (.tuple #[v, .int .i64 0])) w') :
  Calls Tryz.prog 15 #[.pointer (some ⟨bp, 0, none⟩), .int .i64 i] w Q := by
 have U := Hid.mk' (upAt_any bp b0 b1 f0 f1 u0 u1 i w h h0 h1)
 clear h h0 h1
 by_cases c : upE u0 u1 i = 0
 ·have OK := Hid.mk' (hok c)
  rw [c, if_pos rfl] at U
  clear hno hok c
  go_enter Tryz.func15, Tryz.ntmps15
  go_wp2_with fail
  refine Calls.mono U.out ?_
  rintro e w1 ⟨rfl, rfl⟩
  go_wp2_with fail
  refine Calls.mono OK.out ?_
  rintro e w2 ⟨v, rfl, q⟩
  go_wp2
  first | exact q | (go_ret; exact q) | (go_ret2; exact q)
 ·have NO := Hid.mk' (hno c)
  rw [if_neg c] at U
  have cb : (upE u0 u1 i != 0) = true := by simpa using c
  generalize upE u0 u1 i = z at *
  clear hno hok
  go_enter Tryz.func15, Tryz.ntmps15
  go_wp2_with fail
  refine Calls.mono U.out ?_
  rintro e w1 ⟨rfl, rfl⟩
  go_wp2
  first | exact NO.out | (go_ret; exact NO.out) | (go_ret2; exact NO.out)
theorem pBreak_w (bp b0 b1 : Nat) (f0 f1 : Value) (i : Int) (k n : Int) (w : World) (h : At w bp (ppC b0 b1 f0 f1)) (Q : Ending -> World -> Prop)
  (hno : ¬ is01 i -> Q (.returned (.int .i64 2)) w) (hok : is01 i -> Calls Tryz.prog 67 #[.pointer (some ⟨pick01 b0 b1 i, 0, none⟩), .int .i64 k, .int .i64 n] w fun e w' => ∃ v, e = .returned v /\ Q (.returned v) w') :
  Calls Tryz.prog 27 #[.pointer (some ⟨bp, 0, none⟩), .int .i64 i, .int .i64 k, .int .i64 n] w Q := by
 by_cases c : is01 i
 ·have U := Hid.mk' (pAt_yes bp b0 b1 f0 f1 i w h c)
  have OK := Hid.mk' (hok c)
  clear h hno hok c
  go_enter Tryz.func27, Tryz.ntmps27
  go_wp2_with fail
  refine Calls.mono U.out ?_
  rintro e w1 ⟨rfl, rfl⟩
  go_wp2_with fail
  refine Calls.mono OK.out ?_
  rintro e w2 ⟨v, rfl, q⟩
  go_wp2
  first | exact q | (go_ret; exact q) | (go_ret2; exact q)
 ·have U := Hid.mk' (pAt_no bp i w c)
  have NO := Hid.mk' (hno c)
  clear h hno hok c
  go_enter Tryz.func27, Tryz.ntmps27
  go_wp2_with fail
  refine Calls.mono U.out ?_
  rintro e w1 ⟨rfl, rfl⟩
  go_wp2
  first | exact NO.out | (go_ret; exact NO.out) | (go_ret2; exact NO.out)
theorem pRestart_w (bp b0 b1 : Nat) (f0 f1 : Value) (i : Int)  (w : World) (h : At w bp (ppC b0 b1 f0 f1)) (Q : Ending -> World -> Prop)
  (hno : ¬ is01 i -> Q (.returned (.int .i64 2)) w) (hok : is01 i -> Calls Tryz.prog 43 #[.pointer (some ⟨pick01 b0 b1 i, 0, none⟩)] w fun e w' => ∃ v, e = .returned v /\ Q (.returned v) w') :
  Calls Tryz.prog 17 #[.pointer (some ⟨bp, 0, none⟩), .int .i64 i] w Q := by
 by_cases c : is01 i
 ·have U := Hid.mk' (pAt_yes bp b0 b1 f0 f1 i w h c)
  have OK := Hid.mk' (hok c)
  clear h hno hok c
  go_enter Tryz.func17, Tryz.ntmps17
  go_wp2_with fail
  refine Calls.mono U.out ?_
  rintro e w1 ⟨rfl, rfl⟩
  go_wp2_with fail
  refine Calls.mono OK.out ?_
  rintro e w2 ⟨v, rfl, q⟩
  go_wp2
  first | exact q | (go_ret; exact q) | (go_ret2; exact q)
 ·have U := Hid.mk' (pAt_no bp i w c)
  have NO := Hid.mk' (hno c)
  clear h hno hok c
  go_enter Tryz.func17, Tryz.ntmps17
  go_wp2_with fail
  refine Calls.mono U.out ?_
  rintro e w1 ⟨rfl, rfl⟩
  go_wp2
  first | exact NO.out | (go_ret; exact NO.out) | (go_ret2; exact NO.out)
theorem pMint_w (bp b0 b1 : Nat) (f0 f1 : Value) (u0 u1 : Bool) (i : Int) (pl sp : Nat) (w : World) (h : At (w.alloc (.cells #[.int .i64 0, .int .i64 0] 32)) bp (ppC b0 b1 f0 f1)) (h0 : Calls Tryz.prog 74 #[.pointer (some ⟨b0, 0, none⟩)] (w.alloc (.cells #[.int .i64 0, .int .i64 0] 32)) fun e w' => e = .returned (.bool u0) /\ w' = (w.alloc (.cells #[.int .i64 0, .int .i64 0] 32))) (h1 : Calls Tryz.prog 74 #[.pointer (some ⟨b1, 0, none⟩)] (w.alloc (.cells #[.int .i64 0, .int .i64 0] 32)) fun e w' => e = .returned (.bool u1) /\ w' = (w.alloc (.cells #[.int .i64 0, .int .i64 0] 32))) (Q : Ending -> World -> Prop)
  (hno : upE u0 u1 i ≠ 0 -> ∀ w', Only (w.alloc (.cells #[.int .i64 0, .int .i64 0] 32)) w' (fun j => j = w.heap.size) -> Q (.returned (.tuple #[.agg #[.int .i64 0, .int .i64 0], .int .i64 (upE u0 u1 i)])) w')
  (hok : upE u0 u1 i = 0 -> Calls Tryz.prog 93 #[.pointer (some ⟨pick01 b0 b1 i, 0, none⟩), .float .f32 pl, .float .f32 sp] (w.alloc (.cells #[.int .i64 0, .int .i64 0] 32)) fun e w' => ∃ x y z : Int, e = .returned (.tuple #[.agg #[.int .i64 x, .int .i64 y], .int .i64 z]) /\ At w' w.heap.size [.int .i64 0, .int .i64 0] /\ (∀ w'', Only w' w'' (fun j => j = w.heap.size) -> Q (.returned (.tuple #[.agg #[.int .i64 x, .int .i64 y], .int .i64 z])) w'')) :
  Calls Tryz.prog 46 #[.pointer (some ⟨bp, 0, none⟩), .int .i64 i, .float .f32 pl, .float .f32 sp] w Q := by
 have U := Hid.mk' (upAt_any bp b0 b1 f0 f1 u0 u1 i (w.alloc (.cells #[.int .i64 0, .int .i64 0] 32)) h h0 h1)
 clear h h0 h1
 by_cases c : upE u0 u1 i = 0
 ·have OK := Hid.mk' (hok c)
  rw [c, if_pos rfl] at U
  clear hno hok c
  go_enter Tryz.func46, Tryz.ntmps46
  go_wp2_with fail
  refine Calls.mono U.out ?_
  rintro e w1 ⟨rfl, rfl⟩
  go_wp2_with fail
  refine Calls.mono OK.out ?_
  rintro e w2 ⟨x, y, z, rfl, at2, q⟩
  have A3 := at2.all [.int .i64 x, .int .i64 y] rfl
  have QQ := Hid.mk' (q _ (putL_only w.heap.size [.int .i64 x, .int .i64 y] w2 0))
  have hf := at2.f
  have c0 := at2.c 0 _ rfl
  have c1 := at2.c 1 _ rfl
  have k0 := A3.c 0 _ rfl
  have k1 := A3.c 1 _ rfl
  simp only [putL, Nat.reduceAdd] at k0 k1 QQ
  clear at2 q A3
  go_wp2
  exact bodyPost_ret (v := .tuple #[.agg #[.int .i64 x, .int .i64 y], .int .i64 z]) (by simp [results, Tryz.results46, go_sem, *]) rfl QQ.out
 ·have NO := Hid.mk' (hno c)
  rw [if_neg c] at U
  have cb : (upE u0 u1 i != 0) = true := by simpa using c
  have QQ := Hid.mk' (NO.out _ (Only.refl _ _))
  generalize upE u0 u1 i = z at *
  clear hno hok NO
  go_enter Tryz.func46, Tryz.ntmps46
  go_wp2_with fail
  refine Calls.mono U.out ?_
  rintro e w1 ⟨rfl, rfl⟩
  go_wp2
  exact bodyPost_ret (v := .tuple #[.agg #[.int .i64 0, .int .i64 0], .int .i64 z]) (by simp [results, Tryz.results46, go_sem]) rfl QQ.out
theorem pMarks_w (bp b0 b1 : Nat) (f0 f1 : Value) (u0 u1 : Bool) (i : Int)  (w : World) (h : At (w.alloc (.cells #[.int .i64 0, .int .i64 0, .int .i64 0, .int .i64 0, .int .i64 0] 44)) bp (ppC b0 b1 f0 f1)) (h0 : Calls Tryz.prog 74 #[.pointer (some ⟨b0, 0, none⟩)] (w.alloc (.cells #[.int .i64 0, .int .i64 0, .int .i64 0, .int .i64 0, .int .i64 0] 44)) fun e w' => e = .returned (.bool u0) /\ w' = (w.alloc (.cells #[.int .i64 0, .int .i64 0, .int .i64 0, .int .i64 0, .int .i64 0] 44))) (h1 : Calls Tryz.prog 74 #[.pointer (some ⟨b1, 0, none⟩)] (w.alloc (.cells #[.int .i64 0, .int .i64 0, .int .i64 0, .int .i64 0, .int .i64 0] 44)) fun e w' => e = .returned (.bool u1) /\ w' = (w.alloc (.cells #[.int .i64 0, .int .i64 0, .int .i64 0, .int .i64 0, .int .i64 0] 44))) (Q : Ending -> World -> Prop)
  (hno : upE u0 u1 i ≠ 0 -> ∀ w', Only (w.alloc (.cells #[.int .i64 0, .int .i64 0, .int .i64 0, .int .i64 0, .int .i64 0] 44)) w' (fun j => j = w.heap.size) -> Q (.returned (.tuple #[.agg #[.int .i64 0, .int .i64 0, .int .i64 0, .int .i64 0, .int .i64 0], .int .i64 (upE u0 u1 i)])) w')
  (hok : upE u0 u1 i = 0 -> Calls Tryz.prog 41 #[.pointer (some ⟨pick01 b0 b1 i, 0, none⟩)] (w.alloc (.cells #[.int .i64 0, .int .i64 0, .int .i64 0, .int .i64 0, .int .i64 0] 44)) fun e w' => ∃ g m s a n : Int, e = .returned (.agg #[.int .i64 g, .int .i64 m, .int .i64 s, .int .i64 a, .int .i64 n]) /\ At w' w.heap.size [.int .i64 0, .int .i64 0, .int .i64 0, .int .i64 0, .int .i64 0] /\ (∀ w'', Only w' w'' (fun j => j = w.heap.size) -> Q (.returned (.tuple #[.agg #[.int .i64 g, .int .i64 m, .int .i64 s, .int .i64 a, .int .i64 n], .int .i64 0])) w'')) :
  Calls Tryz.prog 16 #[.pointer (some ⟨bp, 0, none⟩), .int .i64 i] w Q := by
 have U := Hid.mk' (upAt_any bp b0 b1 f0 f1 u0 u1 i (w.alloc (.cells #[.int .i64 0, .int .i64 0, .int .i64 0, .int .i64 0, .int .i64 0] 44)) h h0 h1)
 clear h h0 h1
 by_cases c : upE u0 u1 i = 0
 ·have OK := Hid.mk' (hok c)
  rw [c, if_pos rfl] at U
  clear hno hok c
  go_enter Tryz.func16, Tryz.ntmps16
  go_wp2_with fail
  refine Calls.mono U.out ?_
  rintro e w1 ⟨rfl, rfl⟩
  go_wp2_with fail
  refine Calls.mono OK.out ?_
  rintro e w2 ⟨g, m, s, a, n, rfl, at2, q⟩
  have A3 := at2.all [.int .i64 g, .int .i64 m, .int .i64 s, .int .i64 a, .int .i64 n] rfl
  have QQ := Hid.mk' (q _ (putL_only w.heap.size [.int .i64 g, .int .i64 m, .int .i64 s, .int .i64 a, .int .i64 n] w2 0))
  have hf := at2.f
  have c0 := at2.c 0 _ rfl
  have c1 := at2.c 1 _ rfl
  have c2 := at2.c 2 _ rfl
  have c3 := at2.c 3 _ rfl
  have c4 := at2.c 4 _ rfl
  have k0 := A3.c 0 _ rfl
  have k1 := A3.c 1 _ rfl
  have k2 := A3.c 2 _ rfl
  have k3 := A3.c 3 _ rfl
  have k4 := A3.c 4 _ rfl
  simp only [putL, Nat.reduceAdd] at k0 k1 k2 k3 k4 QQ
  clear at2 q A3
  go_wp2
  exact bodyPost_ret (v := .tuple #[.agg #[.int .i64 g, .int .i64 m, .int .i64 s, .int .i64 a, .int .i64 n], .int .i64 0]) (by simp [results, Tryz.results16, go_sem, *]) rfl QQ.out
 ·have NO := Hid.mk' (hno c)
  rw [if_neg c] at U
  have cb : (upE u0 u1 i != 0) = true := by simpa using c
  have QQ := Hid.mk' (NO.out _ (Only.refl _ _))
  generalize upE u0 u1 i = z at *
  clear hno hok NO
  go_enter Tryz.func16, Tryz.ntmps16
  go_wp2_with fail
  refine Calls.mono U.out ?_
  rintro e w1 ⟨rfl, rfl⟩
  go_wp2
  exact bodyPost_ret (v := .tuple #[.agg #[.int .i64 0, .int .i64 0, .int .i64 0, .int .i64 0, .int .i64 0], .int .i64 z]) (by simp [results, Tryz.results16, go_sem]) rfl QQ.out
theorem pFile_w (bp b0 b1 : Nat) (f0 f1 : Value) (i k : Int) (w : World) (h : At w bp (ppC b0 b1 f0 f1)) (Q : Ending -> World -> Prop)
  (hno : ¬ is01 i -> Q (.returned (.tuple #[.string ⟨#[]⟩, .int .i64 2])) w) (hok : is01 i -> Calls Tryz.prog 158 #[.pointer (some ⟨pick01 b0 b1 i, 0, none⟩), .int .i64 k] w fun e w' => ∃ x y, e = .returned (.tuple #[x, y]) /\ Q (.returned (.tuple #[x, y])) w') :
  Calls Tryz.prog 118 #[.pointer (some ⟨bp, 0, none⟩), .int .i64 i, .int .i64 k] w Q := by
 by_cases c : is01 i
 ·have U := Hid.mk' (pAt_yes bp b0 b1 f0 f1 i w h c)
  have OK := Hid.mk' (hok c)
  clear h hno hok c
  go_enter Tryz.func118, Tryz.ntmps118
  go_wp2_with fail
  refine Calls.mono U.out ?_
  rintro e w1 ⟨rfl, rfl⟩
  go_wp2_with fail
  refine Calls.mono OK.out ?_
  rintro e w2 ⟨x, y, rfl, q⟩
  go_wp2
  first | exact q | (go_ret; exact q) | (go_ret2; exact q)
 ·have U := Hid.mk' (pAt_no bp i w c)
  have NO := Hid.mk' (hno c)
  clear h hno hok c
  go_enter Tryz.func118, Tryz.ntmps118
  go_wp2_with fail
  refine Calls.mono U.out ?_
  rintro e w1 ⟨rfl, rfl⟩
  go_wp2
  first | exact NO.out | (go_ret; exact NO.out) | (go_ret2; exact NO.out)
theorem eqNilT_none (W : World) : (binOp BinOp.eql 104 (.slice none 0 0) (.slice none 0 0)).run Tryz.prog W = .ok (.bool true) W := by
 kernel_rfl
theorem cloneT_nil (w : World) : Calls Tryz.prog 183 #[.slice none 0 0] w fun e w' => e = .returned (.slice none 0 0) /\ w' = w := by
 have e1 := eqNilT_none
 go_enter Tryz.func183, Tryz.ntmps183
 go_wp2
 go_ret
 exact ⟨rfl, rfl⟩
theorem all_nil (bp k : Nat) (w : World) (h : w.cell? ⟨bp, k, none⟩ = some (.slice none 0 0)) : Calls Tryz.prog 157 #[.pointer (some ⟨bp, k, none⟩)] w fun e w' => e = .returned (.slice none 0 0) /\ w' = w := by
 go_enter Tryz.func157, Tryz.ntmps157
 go_wp2_with fail
 refine Calls.mono (cloneT_nil _) ?_
 rintro e w1 ⟨rfl, rfl⟩
 go_wp2
 go_ret
 exact ⟨rfl, rfl⟩
theorem pFlight_nil (bp b0 b1 : Nat) (i : Int) (w : World) (h : At w bp (ppC b0 b1 (.slice none 0 0) (.slice none 0 0))) :
  Calls Tryz.prog 114 #[.pointer (some ⟨bp, 0, none⟩), .int .i64 i] w fun e w' => e = .returned (.tuple #[.slice none 0 0, .int .i64 (if is01 i then 0 else 2)]) /\ w' = w := by
 by_cases c : is01 i
 ·rw [if_pos c]
  have U := Hid.mk' (pAt_yes bp b0 b1 _ _ i w h c)
  have c2 := h.c 2 _ rfl
  have c3 := h.c 3 _ rfl
  clear h
  have FT : Hid (Calls Tryz.prog 72 #[.pointer (some ⟨bp, 0, none⟩), .int .i64 i] w fun e w' => e = .returned (.tuple #[.pointer (some ⟨bp, pick01 2 3 i, none⟩), .int .i64 0]) /\ w' = w) := by
   show Calls _ _ _ _ _
   rcases c with rfl | rfl
   all_goals
    go_enter Tryz.func72, Tryz.ntmps72
    go_wp2_with fail
    refine Calls.mono U.out ?_
    rintro e w1 ⟨rfl, rfl⟩
    go_wp2
    go_ret2
    exact ⟨rfl, rfl⟩
  have AL : Hid (Calls Tryz.prog 157 #[.pointer (some ⟨bp, pick01 2 3 i, none⟩)] w fun e w' => e = .returned (.slice none 0 0) /\ w' = w) := all_nil bp (pick01 2 3 i) w (by rcases c with rfl | rfl; exact c2; exact c3)
  clear c c2 c3 U
  go_enter Tryz.func114, Tryz.ntmps114
  go_wp2_with fail
  refine Calls.mono FT.out ?_
  rintro e w1 ⟨rfl, rfl⟩
  go_wp2_with fail
  refine Calls.mono AL.out ?_
  rintro e w1 ⟨rfl, rfl⟩
  go_wp2
  go_ret2
  exact ⟨rfl, rfl⟩
 ·rw [if_neg c]
  have U := Hid.mk' (pAt_no bp i w c)
  clear h c
  have FT : Hid (Calls Tryz.prog 72 #[.pointer (some ⟨bp, 0, none⟩), .int .i64 i] w fun e w' => e = .returned (.tuple #[.pointer none, .int .i64 2]) /\ w' = w) := by
   show Calls _ _ _ _ _
   go_enter Tryz.func72, Tryz.ntmps72
   go_wp2_with fail
   refine Calls.mono U.out ?_
   rintro e w1 ⟨rfl, rfl⟩
   go_wp2
   go_ret2
   exact ⟨rfl, rfl⟩
  clear U
  go_enter Tryz.func114, Tryz.ntmps114
  go_wp2_with fail
  refine Calls.mono FT.out ?_
  rintro e w1 ⟨rfl, rfl⟩
  go_wp2
  go_ret2
  exact ⟨rfl, rfl⟩
theorem Came.base {B B' : Nat} {w : World} {v : Value} {rs : List Rw} (h : Came B w v rs) (hB : B' <= B) : Came B' w v rs :=
 ⟨own_base h.row hB, fun r hr => own_base (h.oi r hr) hB, fun r hr => own_base (h.oo r hr) hB, h.io, h.pw, h.out⟩
theorem Came.only {B : Nat} {w w' : World} {v : Value} {rs : List Rw} {A : Nat -> Prop} (h : Came B w v rs) (o : Only w w' A) (hA : ∀ j, B <= j -> ¬ A j) : Came B w' v rs :=
 ⟨o.own h.row (fun j hj => hA j (h.row.lt j hj).1), fun r hr => o.own (h.oi r hr) (fun j hj => hA j ((h.oi r hr).lt j hj).1), fun r hr => o.own (h.oo r hr) (fun j hj => hA j ((h.oo r hr).lt j hj).1), h.io, h.pw, h.out⟩
theorem flat_at13' (rs : List Rw) (k j : Nat) (hk : k < rs.length) (hj : j < 13) : (rs.flatMap Rw.cells)[13 * k + j]? = rs[k].cells[j]? := by
 induction rs generalizing k with
 | nil => simp at hk
 | cons a t ih =>
  rw [List.flatMap_cons]
  cases k with
  | zero => rw [List.getElem?_append_left (by simp [Rw.cells]; omega)]; simp
  | succ k =>
   rw [List.getElem?_append_right (by simp [Rw.cells]; omega)]
   have := ih k (by simp at hk; omega)
   simp only [List.getElem_cons_succ]
   rw [<- this]
   congr 1
   simp [Rw.cells]
   omega
def Leg : Sh -> List Rc -> Prop
 | _, [] => True
 | s, r :: l => DoOk s r /\ Leg (s.doR r) l
theorem Leg.at : ∀ {s : Sh} {l : List Rc} {k : Nat} (_ : Leg s l) (hk : k < l.length), DoOk ((l.take k).foldl Sh.doR s) l[k]
 | s, r :: l, 0, h, _ => h.1
 | s, r :: l, k + 1, h, hk => Leg.at (l := l) (k := k) h.2 (by simpa using hk)
structure Jnl (s : Sh) (rs : List Rc) : Prop where
 pos : 0 < rs.length
 base : ∀ h : 0 < rs.length, (rs[0]).kind = 6 /\ (rs[0]).items.length <= 1000 /\ ∀ x ∈ (rs[0]).items, i64B x.sh /\ i64B x.nu
 leg : ∀ h : 0 < rs.length, Leg (s.doR rs[0]) rs.tail
 len : rs.length <= 1000000
theorem Jnl.at {s : Sh} {rs : List Rc} (h : Jnl s rs) {k : Nat} (h0 : 0 < k) (hk : k < rs.length) : DoOk ((rs.take k).foldl Sh.doR s) rs[k] := by
 cases rs with
 | nil => simp at hk
 | cons r l =>
  obtain ⟨m, rfl⟩ : ∃ m, k = m + 1 := ⟨k - 1, by omega⟩
  exact Leg.at (h.leg (by simp)) (by simpa using hk)
structure Ro (w wr : World) (b bd : Nat) (s : Sh) (v : Value) (rs : List Rw) (k : Nat) : Prop where
 row : wr.ownsRow w.heap.size 139 13 v rs.length (rs.flatMap Rw.cells)
 dk : At wr bd s.dk.cells
 on : Only w wr (fun j => j = b ∨ j = bd)
 z : k = 0 -> At wr b (s.cells bd (.map none) (.slice none 0 0)) /\ Came w.heap.size wr v rs
 p : 0 < k -> ∃ bm ov, HS wr w.heap.size b (((rs.map Rw.p).take k).foldl Sh.doR s) bd bm ov /\ w.heap.size <= bm /\ v.ownBlock ≠ some bm /\ (∀ j, ov.ownBlock = some j -> v.ownBlock ≠ some j)
theorem Ro.first {w wr w' : World} {b bd : Nat} {s : Sh} {v : Value} {rs : List Rw} (hb : b < w.heap.size) (hne : bd ≠ b) (h : Ro w wr b bd s v rs 0) (hk : 0 < rs.length) {ob : Obj}
  {bm : Nat} (hs : HS w' w.heap.size b (s.doR (rs[0]).p) bd bm (rs[0]).vo) (o : Only (wr.alloc ob) w' (fun j => j = b)) (hm : (wr.alloc ob).heap.size <= bm) : Ro w w' b bd s v rs 1 := by
 have o1 : Only wr w' (fun j => j = b) := ((Only.grown (World.grownBy_alloc wr ob none)).mono (by simp)).trans (o.mono (fun _ _ e => .inl e))
 have vl := h.row.lt
 have zz : wr.heap.size < (wr.alloc ob).heap.size := by simp
 refine ⟨o1.own h.row (fun j hj e => by have := (vl j hj).1; omega), h.dk.only o1 hne, h.on.trans (o1.mono (fun _ _ e => .inl (.inl e))), by simp, fun _ => ⟨bm, (rs[0]).vo, ?_, ?_, fun e => ?_, fun j hj => (h.z rfl).2.out _ (List.getElem_mem hk) j (.inr hj)⟩⟩
 ·have e : ((rs.map Rw.p).take 1).foldl Sh.doR s = s.doR (rs[0]).p := by
   cases rs with
   | nil => simp at hk
   | cons a t => rfl
  rw [e]
  exact hs
 ·have := h.on.size; omega
 ·have := (vl bm e).2; omega
theorem Ro.next {w wr w' : World} {b bd bm : Nat} {s : Sh} {v ov ov' : Value} {rs : List Rw} {k : Nat} (hb : b < w.heap.size) (hd : bd < w.heap.size) (hne : bd ≠ b) (h : Ro w wr b bd s v rs k) (hk : k < rs.length) {ob : Obj}
  (h0 : HS wr w.heap.size b (((rs.map Rw.p).take k).foldl Sh.doR s) bd bm ov) (hbm : w.heap.size <= bm) (hvb : v.ownBlock ≠ some bm) (hvo : ∀ j, ov.ownBlock = some j -> v.ownBlock ≠ some j)
  (hs : HS w' w.heap.size b ((((rs.map Rw.p).take k).foldl Sh.doR s).doR (rs[k]).p) bd bm ov') (o : Only (wr.alloc ob) w' (HS.foot b bm ov)) (hv : ∀ j, ov'.ownBlock = some j -> ov.ownBlock = some j ∨ (wr.alloc ob).heap.size <= j) : Ro w w' b bd s v rs (k + 1) := by
 have o1 : Only wr w' (HS.foot b bm ov) := ((Only.grown (World.grownBy_alloc wr ob none)).mono (by simp)).trans (o.mono (fun _ _ e => .inl e))
 have vl := h.row.lt
 have ol := h0.ob.lt
 have zz : wr.heap.size < (wr.alloc ob).heap.size := by simp
 refine ⟨o1.own h.row (fun j hj e => ?_), h.dk.only o1 (fun e => ?_), h.on.trans (o1.mono (fun j _ e => ?_)), by omega, fun _ => ⟨bm, ov', ?_, hbm, hvb, fun j hj => ?_⟩⟩
 ·have := (vl j hj).1
  rcases e with e | e | e
  ·omega
  ·exact hvb (by rw [<- e]; exact hj)
  ·exact hvo j e hj
 ·rcases e with e | e | e
  ·exact hne e
  ·omega
  ·have := (ol bd e).1; omega
 ·rcases e with e | e | e
  ·exact .inl (.inl e)
  ·exact .inr (by omega)
  ·exact .inr (ol j e).1
 ·have hk' : k < (rs.map Rw.p).length := by simpa using hk
  rw [List.take_succ_eq_append_getElem hk', List.foldl_append]
  simpa using hs
 ·rcases hv j hj with e | e
  ·exact hvo j e
  ·intro e'
   have := (vl j e').2
   omega
theorem restart_up (b : Nat) (s : Sh) (F : Nat -> Prop) (w : World) (h : PS w b s F) (hu : s.up = true) :
  Calls Tryz.prog 43 #[.pointer (some ⟨b, 0, none⟩)] w fun e w' => e = .returned (.int .i64 2) /\ w' = w := by
 obtain ⟨bd, mv, ov, h1, _⟩ := h.cells
 have c5 := h1.c 5 _ rfl
 rw [hu] at c5
 clear h1
 go_enter Tryz.func43, Tryz.ntmps43
 go_wp2
 go_ret
 exact ⟨rfl, rfl⟩
theorem restart_0 (b bd : Nat) (s : Sh) (w : World) (h : At w b (s.cells bd (.map none) (.slice none 0 0))) (hd : At w bd s.dk.cells) (ok : s.dk.Ok) (hne : bd ≠ b) (hu : s.up = false) (hg : ¬ genOf (scanL s.dk.f0) < genOf (scanL s.dk.f1)) (hj : Jnl ({ s with ct := 0 }.on (s.dk.shorten 0 (scanC s.dk.f0).2)) (scanL s.dk.f0)) :
  Calls Tryz.prog 43 #[.pointer (some ⟨b, 0, none⟩)] w fun e w' => e = .returned (.int .i64 0) /\ ∃ bm ov, HS w' w.heap.size b { (scanL s.dk.f0).foldl Sh.doR ({ s with ct := 0 }.on (s.dk.shorten 0 (scanC s.dk.f0).2)) with up := true } bd bm ov /\ At w' bd (s.dk.shorten 0 (scanC s.dk.f0).2).cells /\ w.heap.size <= bm /\ Only w w' (fun j => j = b ∨ j = bd) := by
 have H := Hid.mk' h
 have OK := Hid.mk' ok
 have JJ := Hid.mk' hj
 have HG := Hid.mk' (decide_eq_false hg)
 clear hg
 have hbl := h.lt
 have hdl := hd.lt
 have hsf := run_store_float
 have c5 := h.c 5 _ rfl
 have c4 := h.c 4 _ rfl
 have c6 := h.c 6 _ rfl
 have f6 := h.f 6
 rw [hu] at c5
 have A1 := Hid.mk' (h.put 6 (.int .i64 0) (by simp [Sh.cells]))
 have O1 := Hid.mk' (Only.set w b 6 (.int .i64 0))
 have D1 := Hid.mk' (hd.only O1.out hne)
 have a4 := A1.out.c 4 _ rfl
 have l0 := ok.b0
 have l1 := ok.b1
 clear h hd ok hj
 go_enter Tryz.func43, Tryz.ntmps43
 go_wp2_with fail
 refine Calls.mono (dkFile_any bd s.dk 0 _ D1.out (by omega)) ?_
 rintro e w1 ⟨rfl, rfl⟩
 go_wp2_with fail
 refine Calls.mono (scanAll_any s.dk.f0 _ (by omega)) ?_
 rintro e w2 ⟨v0, rs0, rfl, q0, e0, g2⟩
 have Q0 := Hid.mk' q0
 have E0 := Hid.mk' e0
 have G2 := Hid.mk' g2
 have b4 := (A1.out.grown g2).c 4 _ rfl
 clear q0 e0 g2
 go_wp2_with fail
 refine Calls.mono (dkFile_any bd s.dk 1 _ (D1.out.grown G2.out) (by omega)) ?_
 rintro e w3 ⟨rfl, rfl⟩
 go_wp2_with fail
 refine Calls.mono (scanAll_any s.dk.f1 _ (by omega)) ?_
 rintro e w4 ⟨v1, rs1, rfl, q1, e1, g4⟩
 have Q1 := Hid.mk' q1
 have E1 := Hid.mk' e1
 have G4 := Hid.mk' g4
 have Q0' := Hid.mk' (Q0.out.grown g4)
 clear q1 e1 g4
 obtain ⟨a0, n0, rfl⟩ := slice_len Q0.out.row
 obtain ⟨a1, n1, rfl⟩ := slice_len Q1.out.row
 have lr0 : rs0.length <= 1000000 := by have := scanL_len' s.dk.f0; rw [<- E0.out] at this; simp at this; omega
 have lr1 : rs1.length <= 1000000 := by have := scanL_len' s.dk.f1; rw [<- E1.out] at this; simp at this; omega
 go_wp2_with fail
 refine Calls.mono (generation_any _ _ rs1 _ Q1.out.row lr1) ?_
 rintro e w5 ⟨rfl, rfl⟩
 go_wp2_with fail
 refine Calls.mono (generation_any _ _ rs0 _ Q0'.out.row lr0) ?_
 rintro e w6 ⟨rfl, rfl⟩
 rw [E0.out, E1.out]
 have hg' := HG.out
 have A6 := Hid.mk' ((A1.out.grown G2.out).grown G4.out)
 have D6 := Hid.mk' ((D1.out.grown G2.out).grown G4.out)
 have O6 := Hid.mk' (((O1.out.mono (A' := fun j => j = b) (fun _ _ e => e)).trans ((Only.grown (G2.out.trans G4.out)).mono (by simp))))
 have A7 := A6
 have O7 := O6
 have D7 := D6
 have Q7 := Hid.mk' (Q0'.out.base (B' := w.heap.size) (by simp))
 have E7 := E0
 clear E0 E1 Q0 Q0' Q1 A6 D6 A1 D1 lr1
 go_wp2_with fail
 have A8 : At w6.drew b (({ s with ct := 0 } : Sh).cells bd (.map none) (.slice none 0 0)) := A7.out.drew
 refine wp_region_held_drew (S := fun w' => At w' b (({ s with ct := 0 } : Sh).cells bd (.map none) (.slice none 0 0))) (by kernel_rfl) (A8) (fun hHeld => ?_)
 refine hTk 0 ?_
 simp only [lS0, lS1]
 refine hTk 1 ?_
 simp only [lS0, lS1]
 refine hTk 2 ?_
 simp only [lS0, lS1]
 refine hTy 3 rfl (by intro w hSw; have S4 := hSw.c 4 _ rfl; go_simp; try with_reducible rfl) ?_
 simp only [lS0, lS1]
 refine hTk 4 ?_
 simp only [lS0, lS1]
 refine hTk 5 ?_
 simp only [lS0, lS1]
 refine hTk 6 ?_
 simp only [lS0, lS1]
 refine hTy 7 rfl (by intro w hSw; have S6 := hSw.c 6 _ rfl; go_simp; try with_reducible rfl) ?_
 simp only [lS0, lS1]
 refine hTk 8 ?_
 simp only [lS0, lS1]
 refine hCall 9 (f := 88) (args := #[.pointer (some ⟨bd, 0, none⟩), .int .i64 0, .int .i64 (scanC s.dk.f0).2]) (by kernel_rfl) (by rfl) (by rfl) (by go_simp) ?_
 refine Calls.mono (dkShorten_any bd s.dk 0 (scanC s.dk.f0).2 _ D7.out.drew (by omega) (scanC_le s.dk.f0) l0) ?_
 rintro e w8 ⟨rfl, d8, o8⟩
 have A9 := A8.only o8 (fun e => hne e.symm)
 clear hHeld
 have hHeld := A9
 refine ⟨_, rfl, hHeld, ?_⟩
 simp only [lS0, lS1]
 refine wpAnyH_done (by kernel_rfl) ?_ _
 have o9 : Only w6 w8 (fun j => j = bd) := ((Only.refl w6 (fun j => j = bd)).drew).trans (o8.mono (fun _ _ e => .inl e))
 have C9 := Q7.out.only o9 (fun j hj e => by omega)
 have RO := Hid.mk' (show Ro w w8 b bd ({ s with ct := 0 }.on (s.dk.shorten 0 (scanC s.dk.f0).2)) (.slice a0 rs0.length n0) rs0 0 from ⟨C9.row, d8, (O7.out.mono (fun _ _ e => .inl e)).trans (o9.mono (fun _ _ e => .inl (.inr e))), fun _ => ⟨A9, C9⟩, by omega⟩)
 have SL : Hid (∀ r ∈ rs0, (∃ a k m, r.vi = .slice a k m) /\ (∃ a k m, r.vo = .slice a k m)) := Hid.mk' fun r hr => by
  obtain ⟨x, y, h1⟩ := slice_len (C9.oi r hr)
  obtain ⟨x', y', h2⟩ := slice_len (C9.oo r hr)
  exact ⟨⟨_, _, _, h1⟩, ⟨_, _, _, h2⟩⟩
 have zz := (O7.out.size)
 clear A7 D7 Q7 O7 A8 A9 C9 d8 o8 o9 hHeld hg' HG c4 c5 c6 f6 a4 b4
 generalize hS0 : ({ s with ct := 0 }.on (s.dk.shorten 0 (scanC s.dk.f0).2)) = s0 at *
 rw [<- E7.out] at JJ
 have hpos : 0 < rs0.length := by simpa using JJ.out.pos
 obtain ⟨n, hnn⟩ : ∃ n, rs0.length = n := ⟨_, rfl⟩
 have HNN := Hid.mk' hnn
 rw [hnn] at RO hpos lr0 ⊢
 clear hnn
 go_wp2_with fail
 go_loopw [56] (fun t wr => ∃ k : Nat, k <= n /\ t = .int .i64 k /\ Ro w wr b bd s0 (.slice a0 n n0) rs0 k) (fun t _ => n - (intOf t).toNat)
 case atStart => exact ⟨0, by omega, rfl, RO.out⟩
 case round =>
  obtain ⟨k, hk, rfl, hro⟩ := hrel
  have HRO := Hid.mk' hro
  have zr := hro.on.size
  clear hro
  by_cases hlt : k < n
  ·have hkl : k < rs0.length := by rw [HNN.out]; exact hlt
   obtain ⟨g, rfl⟩ : ∃ g, a0 = some ⟨g, 0, none⟩ := by
    rcases HRO.out.row.2 with ⟨h', hn0⟩ | ⟨g, cap, cur, h', _⟩
    ·have := HNN.out; omega
    ·injection h' with h1 h2 h3
     exact ⟨g, h1⟩
   have hrow : wr.ownsRow w.heap.size 139 13 (.slice (some ⟨g, 0, none⟩) n n0) n (rs0.flatMap Rw.cells) := by
    have := HRO.out.row
    rw [HNN.out] at this
    exact this
   obtain ⟨x, hx⟩ : ∃ x, rs0[k] = x := ⟨_, rfl⟩
   have hxm : x ∈ rs0 := by rw [<- hx]; exact List.getElem_mem hkl
   obtain ⟨⟨xa, xk, xm, hvi⟩, ⟨ya, yk, ym, hvo⟩⟩ := SL.out x hxm
   have d : ∀ j (hj : j < 13) u, x.cells[j]? = some u -> wr.cell? ⟨g, k * 13 + j, none⟩ = some u := fun j hj u hu => by
    refine (hrow.cellAt (k * 13 + j) (by omega)).trans ?_
    rw [Nat.mul_comm k 13, flat_at13' rs0 k j hkl hj, hx]
    exact hu
   have d0 := d 0 (by omega) _ rfl
   have d1 := d 1 (by omega) _ rfl
   have d2 := d 2 (by omega) _ rfl
   have d3 := d 3 (by omega) _ rfl
   have d4 := d 4 (by omega) _ rfl
   have d5 := d 5 (by omega) _ rfl
   have d6 := d 6 (by omega) _ rfl
   have d7 := d 7 (by omega) _ rfl
   have d8 := d 8 (by omega) _ rfl
   have d9 := d 9 (by omega) _ rfl
   have d10 := d 10 (by omega) _ rfl
   have d11 := d 11 (by omega) _ rfl
   have d12 := d 12 (by omega) _ rfl
   rw [Nat.add_zero] at d0
   rw [hvi] at d11
   rw [hvo] at d12
   have HX := Hid.mk' hx
   clear d hx hxm hrow
   have y0 : (0 : Int) <= (k : Int) := by omega
   have y1 : (k : Int) < (n : Int) := by omega
   by_cases hz : k = 0
   ·subst hz
    obtain ⟨zA, zC⟩ := HRO.out.z rfl
    have hx0 := HX.out
    have hb0 := JJ.out.base (by simpa using hkl)
    rw [List.getElem_map, hx0] at hb0
    have hx1 : x ∈ rs0 := by rw [<- hx0]; exact List.getElem_mem hkl
    have oi := zC.oi x hx1
    have oo := zC.oo x hx1
    rw [hvi] at oi
    rw [hvo] at oo
    have ONB : Hid ((Value.slice ya yk ym).ownBlock ≠ some b) := Hid.mk' fun e => by have := (OwnE.lt oo b e).1; omega
    have GA := Hid.mk' (World.grownBy_alloc wr (.cells #[.int .i64 6, .int .i64 x.p.seq, .int .i64 x.p.it.sh, .int .i64 x.p.it.nu, .float .f32 x.p.it.pl, .float .f32 x.p.it.sp, .int .i64 x.p.mks.g, .int .i64 x.p.mks.m, .int .i64 x.p.mks.s, .int .i64 x.p.mks.a, .int .i64 x.p.mks.n, .slice xa xk xm, .slice ya yk ym] 139) none)
    have DB := Hid.mk' (doBase_any w.heap.size b bd (.map none) (.slice none 0 0) s0 x.p.seq x.p.it x.p.mks x.p.items x.p.outs (.slice xa xk xm) (.slice ya yk ym) _ (zA.grown GA.out) (LiesI_of ((Only.grown GA.out).own oi (by simp))) ((Only.grown GA.out).own oo (by simp)) (Nat.le_trans zr GA.out.size) hb0.2.2 hb0.2.1 ONB.out)
    have hk6 := hb0.1
    rw [hk6] at d0
    clear zA zC oi oo hb0 hx0 hx1
    unfold rv at DB
    go_wp2_with fail
    refine Calls.mono DB.out ?_
    rintro e w3 ⟨rfl, bm, h3, o3, hm3⟩
    have H3 := Hid.mk' h3
    have O3 := Hid.mk' o3
    have M3 := Hid.mk' hm3
    clear h3 o3 hm3
    go_wp2
    refine ⟨⟨1, by omega, by go_num, HRO.out.first hbl hne hkl (bm := bm) ?_ O3.out M3.out⟩, by simp [intOf]; omega⟩
    rw [HX.out, hvo]
    have : s0.doR x.p = s0.doBase x.p.mks x.p.items x.p.outs := by unfold Sh.doR; rw [if_pos hk6]
    rw [this]
    exact H3.out
   ·obtain ⟨bm, ov, h0, hbm, hvb, hvo'⟩ := HRO.out.p (by omega)
    have hx0 := HX.out
    have dok := JJ.out.at (k := k) (by omega) (by simpa using hkl)
    rw [List.getElem_map, hx0] at dok
    have GA := Hid.mk' (World.grownBy_alloc wr (.cells #[.int .i64 x.p.kind, .int .i64 x.p.seq, .int .i64 x.p.it.sh, .int .i64 x.p.it.nu, .float .f32 x.p.it.pl, .float .f32 x.p.it.sp, .int .i64 x.p.mks.g, .int .i64 x.p.mks.m, .int .i64 x.p.mks.s, .int .i64 x.p.mks.a, .int .i64 x.p.mks.n, .slice xa xk xm, .slice ya yk ym] 139) none)
    have DB := Hid.mk' (do_any w.heap.size b bd bm ov _ x.p xa ya xk xm yk ym _ (h0.grown GA.out) dok)
    have HH0 := Hid.mk' h0
    have HVB := Hid.mk' (And.intro hbm (And.intro hvb hvo'))
    clear h0 hbm hvb hvo' dok hx0
    unfold rv at DB
    go_wp2_with fail
    refine Calls.mono DB.out ?_
    rintro e w3 ⟨rfl, ov3, h3, o3, v3⟩
    have H3 := Hid.mk' h3
    have O3 := Hid.mk' o3
    have V3 := Hid.mk' v3
    clear h3 o3 v3
    go_wp2
    refine ⟨⟨k + 1, by omega, by go_num, HRO.out.next hbl hdl hne hkl HH0.out HVB.out.1 HVB.out.2.1 HVB.out.2.2 ?_ O3.out V3.out⟩, by simp [intOf]; omega⟩
    rw [HX.out]
    exact H3.out
  ·have hkn : k = n := by omega
   subst hkn
   obtain ⟨bm, ov, h0, hbm, hvb, hvo'⟩ := HRO.out.p (by omega)
   rw [List.take_of_length_le (by rw [List.length_map, HNN.out]; exact Nat.le_refl _), E7.out] at h0
   subst hS0
   have e5 := h0.at_.c 5 _ rfl
   have f5 := h0.at_.f 5
   have A5 := Hid.mk' (h0.at_.put 5 (.bool true) (by simp [Sh.cells]))
   have O5 := Hid.mk' (Only.set wr b 5 (.bool true))
   have HH0 := Hid.mk' h0
   have HBM := Hid.mk' hbm
   clear h0 hbm hvb hvo'
   go_wp2
   go_ret
   refine ⟨rfl, bm, ov, ⟨A5.out, HH0.out.mp.only O5.out HH0.out.n2, O5.out.own HH0.out.ob (fun j hj e => HH0.out.n1 (by rw [<- e]; exact hj)), HH0.out.n1, HH0.out.n2, HH0.out.n3, Nat.le_trans HH0.out.hB O5.out.size⟩, ?_, HBM.out, HRO.out.on.trans (O5.out.mono (fun _ _ e => .inl (.inl e)))⟩
   exact HRO.out.dk.only O5.out hne
theorem restart_1 (b bd : Nat) (s : Sh) (w : World) (h : At w b (s.cells bd (.map none) (.slice none 0 0))) (hd : At w bd s.dk.cells) (ok : s.dk.Ok) (hne : bd ≠ b) (hu : s.up = false) (hg : genOf (scanL s.dk.f0) < genOf (scanL s.dk.f1)) (hj : Jnl ({ s with ct := 1 }.on (s.dk.shorten 1 (scanC s.dk.f1).2)) (scanL s.dk.f1)) :
  Calls Tryz.prog 43 #[.pointer (some ⟨b, 0, none⟩)] w fun e w' => e = .returned (.int .i64 0) /\ ∃ bm ov, HS w' w.heap.size b { (scanL s.dk.f1).foldl Sh.doR ({ s with ct := 1 }.on (s.dk.shorten 1 (scanC s.dk.f1).2)) with up := true } bd bm ov /\ At w' bd (s.dk.shorten 1 (scanC s.dk.f1).2).cells /\ w.heap.size <= bm /\ Only w w' (fun j => j = b ∨ j = bd) := by
 have H := Hid.mk' h
 have OK := Hid.mk' ok
 have JJ := Hid.mk' hj
 have HG := Hid.mk' (decide_eq_true hg)
 clear hg
 have hbl := h.lt
 have hdl := hd.lt
 have hsf := run_store_float
 have c5 := h.c 5 _ rfl
 have c4 := h.c 4 _ rfl
 have c6 := h.c 6 _ rfl
 have f6 := h.f 6
 rw [hu] at c5
 have A1 := Hid.mk' (h.put 6 (.int .i64 0) (by simp [Sh.cells]))
 have O1 := Hid.mk' (Only.set w b 6 (.int .i64 0))
 have D1 := Hid.mk' (hd.only O1.out hne)
 have a4 := A1.out.c 4 _ rfl
 have l0 := ok.b0
 have l1 := ok.b1
 clear h hd ok hj
 go_enter Tryz.func43, Tryz.ntmps43
 go_wp2_with fail
 refine Calls.mono (dkFile_any bd s.dk 0 _ D1.out (by omega)) ?_
 rintro e w1 ⟨rfl, rfl⟩
 go_wp2_with fail
 refine Calls.mono (scanAll_any s.dk.f0 _ (by omega)) ?_
 rintro e w2 ⟨v0, rs0, rfl, q0, e0, g2⟩
 have Q0 := Hid.mk' q0
 have E0 := Hid.mk' e0
 have G2 := Hid.mk' g2
 have b4 := (A1.out.grown g2).c 4 _ rfl
 clear q0 e0 g2
 go_wp2_with fail
 refine Calls.mono (dkFile_any bd s.dk 1 _ (D1.out.grown G2.out) (by omega)) ?_
 rintro e w3 ⟨rfl, rfl⟩
 go_wp2_with fail
 refine Calls.mono (scanAll_any s.dk.f1 _ (by omega)) ?_
 rintro e w4 ⟨v1, rs1, rfl, q1, e1, g4⟩
 have Q1 := Hid.mk' q1
 have E1 := Hid.mk' e1
 have G4 := Hid.mk' g4
 have Q0' := Hid.mk' (Q0.out.grown g4)
 clear q1 e1 g4
 obtain ⟨a0, n0, rfl⟩ := slice_len Q0.out.row
 obtain ⟨a1, n1, rfl⟩ := slice_len Q1.out.row
 have lr0 : rs0.length <= 1000000 := by have := scanL_len' s.dk.f0; rw [<- E0.out] at this; simp at this; omega
 have lr1 : rs1.length <= 1000000 := by have := scanL_len' s.dk.f1; rw [<- E1.out] at this; simp at this; omega
 go_wp2_with fail
 refine Calls.mono (generation_any _ _ rs1 _ Q1.out.row lr1) ?_
 rintro e w5 ⟨rfl, rfl⟩
 go_wp2_with fail
 refine Calls.mono (generation_any _ _ rs0 _ Q0'.out.row lr0) ?_
 rintro e w6 ⟨rfl, rfl⟩
 rw [E0.out, E1.out]
 have hg' := HG.out
 have A6 := Hid.mk' ((A1.out.grown G2.out).grown G4.out)
 have D6 := Hid.mk' ((D1.out.grown G2.out).grown G4.out)
 have O6 := Hid.mk' (((O1.out.mono (A' := fun j => j = b) (fun _ _ e => e)).trans ((Only.grown (G2.out.trans G4.out)).mono (by simp))))
 have f66 := A6.out.f 6
 have c66 := A6.out.c 6 _ rfl
 have A7 := Hid.mk' (A6.out.put 6 (.int .i64 1) (by simp [Sh.cells]))
 have O7 := Hid.mk' (O6.out.trans ((Only.set w6 b 6 (.int .i64 1)).mono (fun _ _ e => .inl e)))
 have D7 := Hid.mk' (D6.out.only (Only.set w6 b 6 (.int .i64 1)) hne)
 have Q7 := Hid.mk' ((Q1.out.base (B' := w.heap.size) (by have := G2.out.size; simpa using this)).only (Only.set w6 b 6 (.int .i64 1)) (fun j hj e => by omega))
 have E7 := E1
 clear E0 E1 Q0 Q0' Q1 A6 D6 A1 D1 lr0
 generalize hW : w6.setCell ⟨b, 6, none⟩ (.int .i64 1) = W at *
 go_wp2_with fail
 have A8 : At W.drew b (({ s with ct := 1 } : Sh).cells bd (.map none) (.slice none 0 0)) := A7.out.drew
 refine wp_region_held_drew (S := fun w' => At w' b (({ s with ct := 1 } : Sh).cells bd (.map none) (.slice none 0 0))) (by kernel_rfl) (A8) (fun hHeld => ?_)
 refine hTk 0 ?_
 simp only [lS0, lS1]
 refine hTk 1 ?_
 simp only [lS0, lS1]
 refine hTk 2 ?_
 simp only [lS0, lS1]
 refine hTy 3 rfl (by intro w hSw; have S4 := hSw.c 4 _ rfl; go_simp; try with_reducible rfl) ?_
 simp only [lS0, lS1]
 refine hTk 4 ?_
 simp only [lS0, lS1]
 refine hTk 5 ?_
 simp only [lS0, lS1]
 refine hTk 6 ?_
 simp only [lS0, lS1]
 refine hTy 7 rfl (by intro w hSw; have S6 := hSw.c 6 _ rfl; go_simp; try with_reducible rfl) ?_
 simp only [lS0, lS1]
 refine hTk 8 ?_
 simp only [lS0, lS1]
 refine hCall 9 (f := 88) (args := #[.pointer (some ⟨bd, 0, none⟩), .int .i64 1, .int .i64 (scanC s.dk.f1).2]) (by kernel_rfl) (by rfl) (by rfl) (by go_simp) ?_
 refine Calls.mono (dkShorten_any bd s.dk 1 (scanC s.dk.f1).2 _ D7.out.drew (by omega) (scanC_le s.dk.f1) l1) ?_
 rintro e w8 ⟨rfl, d8, o8⟩
 have A9 := A8.only o8 (fun e => hne e.symm)
 clear hHeld
 have hHeld := A9
 refine ⟨_, rfl, hHeld, ?_⟩
 simp only [lS0, lS1]
 refine wpAnyH_done (by kernel_rfl) ?_ _
 have o9 : Only W w8 (fun j => j = bd) := ((Only.refl W (fun j => j = bd)).drew).trans (o8.mono (fun _ _ e => .inl e))
 have C9 := Q7.out.only o9 (fun j hj e => by omega)
 have RO := Hid.mk' (show Ro w w8 b bd ({ s with ct := 1 }.on (s.dk.shorten 1 (scanC s.dk.f1).2)) (.slice a1 rs1.length n1) rs1 0 from ⟨C9.row, d8, (O7.out.mono (fun _ _ e => .inl e)).trans (o9.mono (fun _ _ e => .inl (.inr e))), fun _ => ⟨A9, C9⟩, by omega⟩)
 have SL : Hid (∀ r ∈ rs1, (∃ a k m, r.vi = .slice a k m) /\ (∃ a k m, r.vo = .slice a k m)) := Hid.mk' fun r hr => by
  obtain ⟨x, y, h1⟩ := slice_len (C9.oi r hr)
  obtain ⟨x', y', h2⟩ := slice_len (C9.oo r hr)
  exact ⟨⟨_, _, _, h1⟩, ⟨_, _, _, h2⟩⟩
 have zz := (O7.out.size)
 clear A7 D7 Q7 O7 A8 A9 C9 d8 o8 o9 hHeld hg' HG c4 c5 c6 f6 a4 b4
 generalize hS0 : ({ s with ct := 1 }.on (s.dk.shorten 1 (scanC s.dk.f1).2)) = s0 at *
 rw [<- E7.out] at JJ
 have hpos : 0 < rs1.length := by simpa using JJ.out.pos
 obtain ⟨n, hnn⟩ : ∃ n, rs1.length = n := ⟨_, rfl⟩
 have HNN := Hid.mk' hnn
 rw [hnn] at RO hpos lr1 ⊢
 clear hnn
 go_wp2_with fail
 go_loopw [56] (fun t wr => ∃ k : Nat, k <= n /\ t = .int .i64 k /\ Ro w wr b bd s0 (.slice a1 n n1) rs1 k) (fun t _ => n - (intOf t).toNat)
 case atStart => exact ⟨0, by omega, rfl, RO.out⟩
 case round =>
  obtain ⟨k, hk, rfl, hro⟩ := hrel
  have HRO := Hid.mk' hro
  have zr := hro.on.size
  clear hro
  by_cases hlt : k < n
  ·have hkl : k < rs1.length := by rw [HNN.out]; exact hlt
   obtain ⟨g, rfl⟩ : ∃ g, a1 = some ⟨g, 0, none⟩ := by
    rcases HRO.out.row.2 with ⟨h', hn0⟩ | ⟨g, cap, cur, h', _⟩
    ·have := HNN.out; omega
    ·injection h' with h1 h2 h3
     exact ⟨g, h1⟩
   have hrow : wr.ownsRow w.heap.size 139 13 (.slice (some ⟨g, 0, none⟩) n n1) n (rs1.flatMap Rw.cells) := by
    have := HRO.out.row
    rw [HNN.out] at this
    exact this
   obtain ⟨x, hx⟩ : ∃ x, rs1[k] = x := ⟨_, rfl⟩
   have hxm : x ∈ rs1 := by rw [<- hx]; exact List.getElem_mem hkl
   obtain ⟨⟨xa, xk, xm, hvi⟩, ⟨ya, yk, ym, hvo⟩⟩ := SL.out x hxm
   have d : ∀ j (hj : j < 13) u, x.cells[j]? = some u -> wr.cell? ⟨g, k * 13 + j, none⟩ = some u := fun j hj u hu => by
    refine (hrow.cellAt (k * 13 + j) (by omega)).trans ?_
    rw [Nat.mul_comm k 13, flat_at13' rs1 k j hkl hj, hx]
    exact hu
   have d0 := d 0 (by omega) _ rfl
   have d1 := d 1 (by omega) _ rfl
   have d2 := d 2 (by omega) _ rfl
   have d3 := d 3 (by omega) _ rfl
   have d4 := d 4 (by omega) _ rfl
   have d5 := d 5 (by omega) _ rfl
   have d6 := d 6 (by omega) _ rfl
   have d7 := d 7 (by omega) _ rfl
   have d8 := d 8 (by omega) _ rfl
   have d9 := d 9 (by omega) _ rfl
   have d10 := d 10 (by omega) _ rfl
   have d11 := d 11 (by omega) _ rfl
   have d12 := d 12 (by omega) _ rfl
   rw [Nat.add_zero] at d0
   rw [hvi] at d11
   rw [hvo] at d12
   have HX := Hid.mk' hx
   clear d hx hxm hrow
   have y0 : (0 : Int) <= (k : Int) := by omega
   have y1 : (k : Int) < (n : Int) := by omega
   by_cases hz : k = 0
   ·subst hz
    obtain ⟨zA, zC⟩ := HRO.out.z rfl
    have hx0 := HX.out
    have hb0 := JJ.out.base (by simpa using hkl)
    rw [List.getElem_map, hx0] at hb0
    have hx1 : x ∈ rs1 := by rw [<- hx0]; exact List.getElem_mem hkl
    have oi := zC.oi x hx1
    have oo := zC.oo x hx1
    rw [hvi] at oi
    rw [hvo] at oo
    have ONB : Hid ((Value.slice ya yk ym).ownBlock ≠ some b) := Hid.mk' fun e => by have := (OwnE.lt oo b e).1; omega
    have GA := Hid.mk' (World.grownBy_alloc wr (.cells #[.int .i64 6, .int .i64 x.p.seq, .int .i64 x.p.it.sh, .int .i64 x.p.it.nu, .float .f32 x.p.it.pl, .float .f32 x.p.it.sp, .int .i64 x.p.mks.g, .int .i64 x.p.mks.m, .int .i64 x.p.mks.s, .int .i64 x.p.mks.a, .int .i64 x.p.mks.n, .slice xa xk xm, .slice ya yk ym] 139) none)
    have DB := Hid.mk' (doBase_any w.heap.size b bd (.map none) (.slice none 0 0) s0 x.p.seq x.p.it x.p.mks x.p.items x.p.outs (.slice xa xk xm) (.slice ya yk ym) _ (zA.grown GA.out) (LiesI_of ((Only.grown GA.out).own oi (by simp))) ((Only.grown GA.out).own oo (by simp)) (Nat.le_trans zr GA.out.size) hb0.2.2 hb0.2.1 ONB.out)
    have hk6 := hb0.1
    rw [hk6] at d0
    clear zA zC oi oo hb0 hx0 hx1
    unfold rv at DB
    go_wp2_with fail
    refine Calls.mono DB.out ?_
    rintro e w3 ⟨rfl, bm, h3, o3, hm3⟩
    have H3 := Hid.mk' h3
    have O3 := Hid.mk' o3
    have M3 := Hid.mk' hm3
    clear h3 o3 hm3
    go_wp2
    refine ⟨⟨1, by omega, by go_num, HRO.out.first hbl hne hkl (bm := bm) ?_ O3.out M3.out⟩, by simp [intOf]; omega⟩
    rw [HX.out, hvo]
    have : s0.doR x.p = s0.doBase x.p.mks x.p.items x.p.outs := by unfold Sh.doR; rw [if_pos hk6]
    rw [this]
    exact H3.out
   ·obtain ⟨bm, ov, h0, hbm, hvb, hvo'⟩ := HRO.out.p (by omega)
    have hx0 := HX.out
    have dok := JJ.out.at (k := k) (by omega) (by simpa using hkl)
    rw [List.getElem_map, hx0] at dok
    have GA := Hid.mk' (World.grownBy_alloc wr (.cells #[.int .i64 x.p.kind, .int .i64 x.p.seq, .int .i64 x.p.it.sh, .int .i64 x.p.it.nu, .float .f32 x.p.it.pl, .float .f32 x.p.it.sp, .int .i64 x.p.mks.g, .int .i64 x.p.mks.m, .int .i64 x.p.mks.s, .int .i64 x.p.mks.a, .int .i64 x.p.mks.n, .slice xa xk xm, .slice ya yk ym] 139) none)
    have DB := Hid.mk' (do_any w.heap.size b bd bm ov _ x.p xa ya xk xm yk ym _ (h0.grown GA.out) dok)
    have HH0 := Hid.mk' h0
    have HVB := Hid.mk' (And.intro hbm (And.intro hvb hvo'))
    clear h0 hbm hvb hvo' dok hx0
    unfold rv at DB
    go_wp2_with fail
    refine Calls.mono DB.out ?_
    rintro e w3 ⟨rfl, ov3, h3, o3, v3⟩
    have H3 := Hid.mk' h3
    have O3 := Hid.mk' o3
    have V3 := Hid.mk' v3
    clear h3 o3 v3
    go_wp2
    refine ⟨⟨k + 1, by omega, by go_num, HRO.out.next hbl hdl hne hkl HH0.out HVB.out.1 HVB.out.2.1 HVB.out.2.2 ?_ O3.out V3.out⟩, by simp [intOf]; omega⟩
    rw [HX.out]
    exact H3.out
  ·have hkn : k = n := by omega
   subst hkn
   obtain ⟨bm, ov, h0, hbm, hvb, hvo'⟩ := HRO.out.p (by omega)
   rw [List.take_of_length_le (by rw [List.length_map, HNN.out]; exact Nat.le_refl _), E7.out] at h0
   subst hS0
   have e5 := h0.at_.c 5 _ rfl
   have f5 := h0.at_.f 5
   have A5 := Hid.mk' (h0.at_.put 5 (.bool true) (by simp [Sh.cells]))
   have O5 := Hid.mk' (Only.set wr b 5 (.bool true))
   have HH0 := Hid.mk' h0
   have HBM := Hid.mk' hbm
   clear h0 hbm hvb hvo'
   go_wp2
   go_ret
   refine ⟨rfl, bm, ov, ⟨A5.out, HH0.out.mp.only O5.out HH0.out.n2, O5.out.own HH0.out.ob (fun j hj e => HH0.out.n1 (by rw [<- e]; exact hj)), HH0.out.n1, HH0.out.n2, HH0.out.n3, Nat.le_trans HH0.out.hB O5.out.size⟩, ?_, HBM.out, HRO.out.on.trans (O5.out.mono (fun _ _ e => .inl (.inl e)))⟩
   exact HRO.out.dk.only O5.out hne
def Dk.choice (d : Dk) : Nat := if genOf (scanL d.f0) < genOf (scanL d.f1) then 1 else 0
def Sh.begun (s : Sh) : Sh := { s with ct := s.dk.choice }.on (s.dk.shorten s.dk.choice (scanC (s.dk.file s.dk.choice)).2)
def Sh.restart (s : Sh) : Sh := { (scanL (s.dk.file s.dk.choice)).foldl Sh.doR s.begun with up := true }
theorem dos_up (l : List Rc) : ∀ s : Sh, (l.foldl Sh.doR s).up = s.up /\ (l.foldl Sh.doR s).dk = s.dk /\ (l.foldl Sh.doR s).ct = s.ct /\ (l.foldl Sh.doR s).no = s.no /\ (l.foldl Sh.doR s).cI = s.cI /\ (l.foldl Sh.doR s).cO = s.cO /\ (l.foldl Sh.doR s).cJ = s.cJ := by
 induction l with
 | nil => intro s; exact ⟨rfl, rfl, rfl, rfl, rfl, rfl, rfl⟩
 | cons x l ih =>
  intro s
  obtain ⟨a1, a2, a3, a4, a5, a6, a7⟩ := ih (s.doR x)
  obtain ⟨b1, b2, b3, b4, b5, b6, b7⟩ := doR_up s x
  exact ⟨a1.trans b1, a2.trans b2, a3.trans b3, a4.trans b4, a5.trans b5, a6.trans b6, a7.trans b7⟩
theorem Dk.Ok.shorten {d : Dk} (ok : d.Ok) (c k : Nat) (hk : k <= (d.file c).length) : (d.shorten c k).Ok := by
 refine ok.put c _ _ ?_ ?_
 ·rw [List.length_take]; omega
 ·rw [List.length_take]
  unfold Dk.file
  split
  ·have := ok.b0; omega
  ·have := ok.b1; omega
theorem restart_ps (b : Nat) (s : Sh) (F : Nat -> Prop) (w : World) (h : PS w b s F) (hu : s.up = false) (hj : Jnl s.begun (scanL (s.dk.file s.dk.choice))) :
  Calls Tryz.prog 43 #[.pointer (some ⟨b, 0, none⟩)] w fun e w' => e = .returned (.int .i64 0) /\ PS w' b s.restart (NX w w' F) /\ Only w w' F := by
 obtain ⟨bd, ⟨hu', _⟩ | ⟨_, p⟩⟩ := h
 ·rw [hu] at hu'; cases hu'
 have fin : ∀ (c : Nat), s.dk.choice = c -> ∀ (e : Ending) (w' : World), (e = .returned (.int .i64 0) /\ ∃ bm ov, HS w' w.heap.size b { (scanL (s.dk.file c)).foldl Sh.doR ({ s with ct := c }.on (s.dk.shorten c (scanC (s.dk.file c)).2)) with up := true } bd bm ov /\ At w' bd (s.dk.shorten c (scanC (s.dk.file c)).2).cells /\ w.heap.size <= bm /\ Only w w' (fun j => j = b ∨ j = bd)) -> e = .returned (.int .i64 0) /\ PS w' b s.restart (NX w w' F) /\ Only w w' F := by
  rintro c hc e w' ⟨he, bm, ov, h1, h2, h3, o⟩
  have hdk : s.restart.dk = s.dk.shorten c (scanC (s.dk.file c)).2 := by
   unfold Sh.restart Sh.begun
   rw [hc]
   exact (dos_up _ _).2.1
  have hd := p.dk.lt
  have ol := h1.ob.lt
  have h1' : HS w' w.heap.size b s.restart bd bm ov := by
   unfold Sh.restart Sh.begun
   rw [hc]
   exact h1
  refine ⟨he, ⟨bd, .inl ⟨rfl, w.heap.size, bm, ov, ⟨h1', by rw [hdk]; exact h2, by rw [hdk]; exact p.ok.shorten c _ (scanC_le _), p.d1, by omega, fun e => by have := (ol bd e).1; omega⟩, ⟨.inl p.f1, h1.at_.lt⟩, ⟨.inl p.f2, h2.lt⟩, ⟨.inr h3, h1.mp.lt⟩, fun j hj => ⟨.inr (ol j hj).1, (ol j hj).2⟩⟩⟩, o.mono (fun j _ e => ?_)⟩
  rcases e with rfl | rfl
  ·exact p.f1
  ·exact p.f2
 unfold Sh.begun at hj
 by_cases hg : genOf (scanL s.dk.f0) < genOf (scanL s.dk.f1)
 ·have hc : s.dk.choice = 1 := if_pos hg
  rw [hc] at hj
  exact (restart_1 b bd s w p.at_ p.dk p.ok p.d1 hu hg hj).mono (fin 1 hc)
 ·have hc : s.dk.choice = 0 := if_neg hg
  rw [hc] at hj
  exact (restart_0 b bd s w p.at_ p.dk p.ok p.d1 hu hg hj).mono (fin 0 hc)
end Go.Proofs.YtammnaafdhhjaaaGreat
