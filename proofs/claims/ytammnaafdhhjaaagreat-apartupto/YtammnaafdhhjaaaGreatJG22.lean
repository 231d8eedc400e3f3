import Derived.Test.YtammnaafdhhjaaaGreatA2
import Derived.Test.YtammnaafdhhjaaaGreatJG16
import Derived.Test.YtammnaafdhhjaaaGreatA7
set_option maxHeartbeats 16000000
set_option maxRecDepth 100000
namespace Go.Proofs.YtammnaafdhhjaaaGreat
open Go.RowKit Go.Proofs.Tryz
def Sh.doTick (s:Sh):Sh:=(cH s.th).foldl Sh.driftOne s
def Sh.doR (s:Sh)(r:Rc):Sh:=
 if r.kind=6 then s.doBase r.mks r.items r.outs else if r.kind=1 then s.doMint r.it else if r.kind=2 then s.doDestroy r.it else if r.kind=3 then s.doTick else if r.kind=4 then s.doArrive r.seq r.it else if r.kind=5 then s.doAcked r.seq else s
structure DoOk (s:Sh)(r:Rc):Prop where
 kind:r.kind=1∨r.kind=2∨r.kind=3∨r.kind=4∨r.kind=5
 ids:bD r.it.sh/\bD r.it.nu
 tick:r.kind=3->DrInv s/\s.th.length<=1000/\∀x∈s.th,aS x.pl=true/\aS x.sp=true
 ack:r.kind=5->s.ob.length<=1000
theorem aAJ (B b bd bm:Nat)(ov:Value)(s:Sh)(r:Rc)(ai ao:Option Addr)(ni ci no co:Nat)(w:World)(h:HS w B b s bd bm ov)(ok:DoOk s r):
  Calls prog 89 #[.pointer (some ⟨b,0,none⟩),rv r.kind r.seq r.it r.mks (.slice ai ni ci) (.slice ao no co)] w fun e w'=>e=.returned (.tuple #[])/\∃ov',HS w' B b (s.doR r) bd bm ov'/\Only w w' (HS.foot b bm ov)/\(∀j,ov'.ownBlock=some j->ov.ownBlock=some j∨w.heap.size<=j):=by
 obtain ⟨K,q,i,m,is,os⟩:=r
 rcases ok.kind with e | e | e | e | e<;>simp only at e<;>subst e
 ·refine (aAC B b bd bm ov s q i m ai ao ni ci no co w h ok.ids.1 ok.ids.2).mono ?_
  rintro e w' ⟨he,h1,h2⟩
  exact ⟨he,ov,by simpa [Sh.doR] using h1,h2,fun j hj=>.inl hj⟩
 ·refine (tA B b bd bm ov s q i m ai ao ni ci no co w h ok.ids.1 ok.ids.2).mono ?_
  rintro e w' ⟨he,h1,h2⟩
  exact ⟨he,ov,by simpa [Sh.doR] using h1,h2,fun j hj=>.inl hj⟩
 ·obtain ⟨t1,t2,t3⟩:=ok.tick rfl
  refine (aAD B b bd bm ov s q i m ai ao ni ci no co w h t1 t2 t3).mono ?_
  rintro e w' ⟨he,ss,ov',hp,hs,h1,h2,h3⟩
  obtain rfl:=nP hs hp h.mp.nd
  exact ⟨he,ov',by simpa [Sh.doR,Sh.doTick] using h1,h2,h3⟩
 ·refine (vR B b bd bm ov s q i m ai ao ni ci no co w h ok.ids.1 ok.ids.2).mono ?_
  rintro e w' ⟨he,h1,h2⟩
  exact ⟨he,ov,by simpa [Sh.doR] using h1,h2,fun j hj=>.inl hj⟩
 ·refine (yJ B b bd bm ov s q i m ai ao ni ci no co w h (ok.ack rfl)).mono ?_
  rintro e w' ⟨he,ov',h1,h2,h3⟩
  exact ⟨he,ov',by simpa [Sh.doR] using h1,h2,h3⟩
structure PSu (w:World)(b:Nat)(s:Sh)(F:Nat->Prop)(bd B bm:Nat)(ov:Value):Prop where
 su:SU w B b s bd bm ov
 f1:F b
 f2:F bd
 f3:F bm
 f4:∀j,ov.ownBlock=some j->F j
structure PSd (w:World)(b:Nat)(s:Sh)(F:Nat->Prop)(bd:Nat):Prop where
 at_:At w b (s.cells bd (.map none) (.slice none 0 0))
 dk:At w bd s.dk.cells
 ok:s.dk.Ok
 d1:bd≠b
 f1:F b
 f2:F bd
 e1:s.th=[]
 e2:s.ob=[]
 e3:s.ms=aZ
def PS (w:World)(b:Nat)(s:Sh)(F:Nat->Prop):Prop:=
 ∃bd,(s.up=true/\∃B bm ov,PSu w b s F bd B bm ov)∨(s.up=false/\PSd w b s F bd)
def NX (w w':World)(F:Nat->Prop)(j:Nat):Prop:=(F j∨w.heap.size<=j)/\j<w'.heap.size
theorem SU.only {w w':World}{B b bd bm:Nat}{ov:Value}{s:Sh}{A:Nat->Prop}(h:SU w B b s bd bm ov)(o:Only w w' A)(h1:¬A b)(h2:¬A bd)(h3:¬A bm)(h4:∀j,ov.ownBlock=some j->¬A j):SU w' B b s bd bm ov:=
 ⟨⟨h.hs.at_.only o h1,h.hs.mp.only o h3,o.own h.hs.ob h4,h.hs.n1,h.hs.n2,h.hs.n3,Nat.le_trans h.hs.hB o.size⟩,h.dk.only o h2,h.ok,h.d1,h.d2,h.d3⟩
theorem PS.only {w w':World}{b:Nat}{s:Sh}{F A:Nat->Prop}(h:PS w b s F)(o:Only w w' A)(hA:∀j,F j->¬A j):PS w' b s F:=by
 obtain ⟨bd,⟨hu,B,bm,ov,p⟩ | ⟨hu,p⟩⟩:=h
 ·exact ⟨bd,.inl ⟨hu,B,bm,ov,p.su.only o (hA _ p.f1) (hA _ p.f2) (hA _ p.f3) (fun j hj=>hA j (p.f4 j hj)),p.f1,p.f2,p.f3,p.f4⟩⟩
 ·exact ⟨bd,.inr ⟨hu,p.at_.only o (hA _ p.f1),p.dk.only o (hA _ p.f2),p.ok,p.d1,p.f1,p.f2,p.e1,p.e2,p.e3⟩⟩
theorem PS.mono {w:World}{b:Nat}{s:Sh}{F F':Nat->Prop}(h:PS w b s F)(hF:∀j,j<w.heap.size->F j->F' j):PS w b s F':=by
 obtain ⟨bd,⟨hu,B,bm,ov,p⟩ | ⟨hu,p⟩⟩:=h
 ·refine ⟨bd,.inl ⟨hu,B,bm,ov,p.su,hF _ p.su.hs.at_.lt p.f1,hF _ p.su.dk.lt p.f2,hF _ p.su.hs.mp.lt p.f3,fun j hj=>hF j (p.su.hs.ob.lt j hj).2 (p.f4 j hj)⟩⟩
 ·exact ⟨bd,.inr ⟨hu,p.at_,p.dk,p.ok,p.d1,hF _ p.at_.lt p.f1,hF _ p.dk.lt p.f2,p.e1,p.e2,p.e3⟩⟩
theorem PS.grown {w w':World}{b:Nat}{s:Sh}{F:Nat->Prop}(h:PS w b s F)(g:w.grownBy w' none):PS w' b s (NX w w' F):=by
 have h':=h.mono (F':=fun j=>F j/\j<w.heap.size) (fun j hj hF=>⟨hF,hj⟩)
 exact (h'.only ((Only.grown g).mono (A':=fun _=>False) (by simp)) (fun _ _ h=>h)).mono (fun j _ hj=>⟨.inl hj.1,Nat.lt_of_lt_of_le hj.2 g.size⟩)
def Sh.on (s:Sh)(d:Dk):Sh:={s with dk:=d}
def Sh.jrn (s:Sh)(r:Rc):Int×Sh:=
 if s.cJ<((s.dk.file s.ct).length:Int)+((aY r).length:Int) then (5,s)
 else if (s.dk.append s.ct (aY r)).2=false then (3,s.down.on (s.dk.append s.ct (aY r)).1)
 else if ((s.dk.append s.ct (aY r)).1.sync s.ct).2=false then (3,s.down.on ((s.dk.append s.ct (aY r)).1.sync s.ct).1)
 else (0,(s.on ((s.dk.append s.ct (aY r)).1.sync s.ct).1).doR r)
theorem Dk.Ok.sync {d:Dk}(ok:d.Ok)(n:Nat):(d.sync n).1.Ok:=by
 unfold Dk.sync
 split
 ·refine ok.act.put n _ _ (Nat.le_refl _) ?_
  unfold Dk.file
  split
  ·exact ok.act.b0
  ·exact ok.act.b1
 ·exact ok.act
theorem mP {w w':World}{b bd:Nat}{s:Sh}{F:Nat->Prop}{d:Dk}(h1:At w' b (s.down.cells bd (.map none) (.slice none 0 0)))(h2:At w' bd d.cells)(ok:d.Ok)(ne:bd≠b)(f1:F b)(f2:F bd):PS w' b (s.down.on d) (NX w w' F):=
 ⟨bd,.inr ⟨rfl,h1,h2,ok,ne,⟨.inl f1,h1.lt⟩,⟨.inl f2,h2.lt⟩,rfl,rfl,rfl⟩⟩
theorem qA (s:Sh)(i:It):(s.driftOne i).up=s.up/\(s.driftOne i).dk=s.dk/\(s.driftOne i).ct=s.ct/\(s.driftOne i).no=s.no/\(s.driftOne i).cI=s.cI/\(s.driftOne i).cO=s.cO/\(s.driftOne i).cJ=s.cJ:=by
 unfold Sh.driftOne Sh.leave
 repeat' split
 all_goals exact ⟨rfl,rfl,rfl,rfl,rfl,rfl,rfl⟩
theorem aDk (l:List It):∀s:Sh,(l.foldl Sh.driftOne s).up=s.up/\(l.foldl Sh.driftOne s).dk=s.dk/\(l.foldl Sh.driftOne s).ct=s.ct/\(l.foldl Sh.driftOne s).no=s.no/\(l.foldl Sh.driftOne s).cI=s.cI/\(l.foldl Sh.driftOne s).cO=s.cO/\(l.foldl Sh.driftOne s).cJ=s.cJ:=by
 induction l with
 | nil=>intro s;exact ⟨rfl,rfl,rfl,rfl,rfl,rfl,rfl⟩
 | cons x l ih=>
  intro s
  obtain ⟨a1,a2,a3,a4,a5,a6,a7⟩:=ih (s.driftOne x)
  obtain ⟨b1,b2,b3,b4,b5,b6,b7⟩:=qA s x
  exact ⟨a1.trans b1,a2.trans b2,a3.trans b3,a4.trans b4,a5.trans b5,a6.trans b6,a7.trans b7⟩
theorem sC (s:Sh)(r:Rc):(s.doR r).up=s.up/\(s.doR r).dk=s.dk/\(s.doR r).ct=s.ct/\(s.doR r).no=s.no/\(s.doR r).cI=s.cI/\(s.doR r).cO=s.cO/\(s.doR r).cJ=s.cJ:=by
 unfold Sh.doR
 split
 ·exact ⟨rfl,rfl,rfl,rfl,rfl,rfl,rfl⟩
 split
 ·exact ⟨rfl,rfl,rfl,rfl,rfl,rfl,rfl⟩
 split
 ·exact ⟨rfl,rfl,rfl,rfl,rfl,rfl,rfl⟩
 split
 ·exact aDk _ _
 split
 ·exact ⟨rfl,rfl,rfl,rfl,rfl,rfl,rfl⟩
 split<;>exact ⟨rfl,rfl,rfl,rfl,rfl,rfl,rfl⟩
theorem yK (s:Sh)(i:It)(d:Dk):(s.on d).driftOne i=(s.driftOne i).on d:=by
 unfold Sh.driftOne Sh.leave Sh.mayLeave Sh.on
 simp only
 repeat' split
 all_goals rfl
theorem aDl (l:List It)(d:Dk):∀s:Sh,l.foldl Sh.driftOne (s.on d)=(l.foldl Sh.driftOne s).on d:=by
 induction l with
 | nil=>intro s;rfl
 | cons x l ih=>
  intro s
  rw[List.foldl_cons,List.foldl_cons,yK,ih]
theorem aFM (s:Sh)(r:Rc)(d:Dk):(s.on d).doR r=(s.doR r).on d:=by
 unfold Sh.doR
 split
 ·rfl
 split
 ·rfl
 split
 ·rfl
 split
 ·exact aDl _ _ _
 split
 ·rfl
 split<;>rfl
theorem HS.on {w:World}{B b bd bm:Nat}{ov:Value}{s:Sh}(h:HS w B b s bd bm ov)(d:Dk):HS w B b (s.on d) bd bm ov:=⟨h.at_,h.mp,h.ob,h.n1,h.n2,h.n3,h.hB⟩
theorem aJO {w W w':World}{B b bd bm:Nat}{ov ov':Value}{s s1:Sh}{F:Nat->Prop}{d:Dk}(hu:s1.up=true)(he:s1.dk=d)(h:HS w B b s bd bm ov)(hd1:bd≠b)(hd2:bd≠bm)(hd3:ov.ownBlock≠some bd)(hd:At W bd d.cells)(ok:d.Ok)(hW:Only w W (fun j=>j=bd))(hbl:bd<w.heap.size)(h':HS w' B b s1 bd bm ov')(o:Only W w' (HS.foot b bm ov))(hv:∀j,ov'.ownBlock=some j->ov.ownBlock=some j∨W.heap.size<=j)
  (f1:F b) (f2:F bd) (f3:F bm) (f4:∀j,ov.ownBlock=some j->F j):PS w' b s1 (NX w w' F)/\Only w w' F:=by
 have nb:¬HS.foot b bm ov bd:=by
  rintro (e | e | e)
  ·exact hd1 e
  ·exact hd2 e
  ·exact hd3 e
 have nv:ov'.ownBlock≠some bd:=fun e=>by
  rcases hv bd e with e | e
  ·exact hd3 e
  ·have:=hW.size;omega
 refine ⟨⟨bd,.inl ⟨hu,B,bm,ov',⟨h',by rw[he];exact hd.only o nb,by rw[he];exact ok,hd1,hd2,nv⟩,⟨.inl f1,h'.at_.lt⟩,⟨.inl f2,Nat.lt_of_lt_of_le hbl (Nat.le_trans hW.size o.size)⟩,⟨.inl f3,h'.mp.lt⟩,fun j hj=>⟨?_,(h'.ob.lt j hj).2⟩⟩⟩,?_⟩
 ·rcases hv j hj with e | e
  ·exact .inl (f4 j e)
  ·exact .inr (Nat.le_trans hW.size e)
 ·refine (hW.mono (fun k _ e=>by subst e;exact f2)).trans (o.mono ?_)
  rintro k _ (e | e | e)
  ·exact .inl (by subst e;exact f1)
  ·exact .inl (by subst e;exact f3)
  ·exact .inl (f4 k e)
theorem jJ (b:Nat)(s:Sh)(F:Nat->Prop)(r:Rc)(w:World)(h:PS w b s F)(hu:s.up=true)(hr:r.items=[]/\r.outs=[])(hm:aP r=true)(wf:WfR r)(hct:s.ct<2)(hcj:s.cJ<=5000)(ok:DoOk s r):
  Calls prog 134 #[.pointer (some ⟨b,0,none⟩),rv r.kind r.seq r.it r.mks (.slice none 0 0) (.slice none 0 0)] w fun e w'=>e=.returned (.int .i64 (s.jrn r).1)/\PS w' b (s.jrn r).2 (NX w w' F)/\Only w w' F:=by
 have h0:=h
 obtain ⟨bd,⟨_,B,bm,ov,p⟩ | ⟨hu',_⟩⟩:=h
 case inr=>rw[hu] at hu';cases hu'
 unfold Sh.jrn
 split
 ·rename_i hc
  refine (vV B b bd bm ov s r w p.su hr hm wf hct hcj hc).mono ?_
  rintro e w' ⟨he,g⟩
  exact ⟨he,h0.grown g,(Only.grown g).mono (by simp)⟩
 rename_i hc
 have hlen:(s.dk.file s.ct).length+(aY r).length<=10000:=by omega
 have okA:=p.su.ok.append s.ct (aY r) hlen
 split
 ·rename_i ha
  refine (tB B b bd bm ov s r w p.su hr hm wf hct hcj hc ha).mono ?_
  rintro e w' ⟨he,h1,h2,o⟩
  exact ⟨he,mP h1 h2 okA.act p.su.d1 p.f1 p.f2,o.mono (fun j _ e=>by rcases e with rfl | rfl;exact p.f1;exact p.f2)⟩
 rename_i ha
 have ha':(s.dk.append s.ct (aY r)).2=true:=by simpa using ha
 split
 ·rename_i hb
  refine (tC B b bd bm ov s r w p.su hr hm wf hct hcj hc ha' hb).mono ?_
  rintro e w' ⟨he,h1,h2,o⟩
  exact ⟨he,mP h1 h2 (Dk.Ok.sync okA.act _) p.su.d1 p.f1 p.f2,o.mono (fun j _ e=>by rcases e with rfl | rfl;exact p.f1;exact p.f2)⟩
 rename_i hb
 have hb':((s.dk.append s.ct (aY r)).1.sync s.ct).2=true:=by simpa using hb
 refine (aAG B b bd bm ov s r w p.su hr hm wf hct hcj hc (fun W w'=>∃ov',HS w' B b (s.doR r) bd bm ov'/\Only W w' (HS.foot b bm ov)/\(∀j,ov'.ownBlock=some j->ov.ownBlock=some j∨W.heap.size<=j)) (fun W hW=>aAJ B b bd bm ov s r none none 0 0 0 0 W hW ok) ha' hb').mono ?_
 rintro e w' ⟨he,W,q1,q2,q3,ov',q4,q5,q6⟩
 refine ⟨he,?_⟩
 have up:=sC (s.on ((s.dk.append s.ct (aY r)).1.sync s.ct).1) r
 have q4':HS w' B b ((s.on ((s.dk.append s.ct (aY r)).1.sync s.ct).1).doR r) bd bm ov':=by
  have e1:(s.on ((s.dk.append s.ct (aY r)).1.sync s.ct).1).doR r=(s.doR r).on ((s.dk.append s.ct (aY r)).1.sync s.ct).1:=aFM s r _
  rw[e1]
  exact q4.on _
 exact aJO (up.1.trans hu) up.2.1 p.su.hs p.su.d1 p.su.d2 p.su.d3 q2 (Dk.Ok.sync okA.act _) q3 p.su.dk.lt q4' q5 q6 p.f1 p.f2 p.f3 p.f4
def qB (a b e:Int):Value:=.tuple #[.agg #[.int .i64 a,.int .i64 b],.int .i64 e]
def Sh.mintRec (s:Sh)(pl sp:Nat):Rc:=⟨1,0,⟨s.no,s.ms.m+1,pl,sp⟩,aZ,[],[]⟩
theorem aFN (B b bd bm:Nat)(ov:Value)(s:Sh)(pl sp:Nat)(w:World)(h:SU w B b s bd bm ov)(hn:(aS pl&&aS sp)=false):
  Calls prog 93 #[.pointer (some ⟨b,0,none⟩),.float .f32 pl,.float .f32 sp] w fun e w'=>e=.returned (qB 0 0 2)/\w.grownBy w' none:=by
 have H:=Hid.mk' h
 have G0:=Hid.mk' (World.grownBy_alloc w (.cells #[.int .i64 0,.int .i64 0] 32) none)
 have H0:=Hid.mk' (h.grown (aA G0.out))
 have A0:=Hid.mk' (At.new w [.int .i64 0,.int .i64 0] 32).drew
 clear h
 go_enter func93,ntmps93
 go_wp2_with fail
 refine wp_region_held_drew (S:=fun w'=>At w' b (s.cells bd (.map (some bm)) ov)) (by kernel_rfl) (H0.out.hs.at_) (fun hHeld=>?_)
 refine aN 0 ?_
 simp only[aF]
 refine aN 1 ?_
 simp only[aF]
 refine aX 2 (f:=146) (args:=#[.float .f32 pl,.float .f32 sp]) (by kernel_rfl) (by rfl) (by rfl) (by go_simp) ?_
 refine Calls.mono (iR pl sp _) ?_
 rintro e w2 ⟨rfl,rfl⟩
 refine ⟨_,rfl,hHeld,?_⟩
 rw[hn]
 simp only[aF]
 refine aN 3 ?_
 simp only[aF]
 refine aN 4 ?_
 simp only[aF]
 refine cP 5 ?_
 simp only[aF]
 refine cP 6 ?_
 simp only[aF]
 refine cP 7 ?_
 simp only[aF]
 refine cP 8 ?_
 simp only[aF]
 refine cP 9 ?_
 simp only[aF]
 refine cP 10 ?_
 simp only[aF]
 refine cP 11 ?_
 simp only[aF]
 refine aN 12 ?_
 simp only[aF]
 refine wpAnyH_done (by kernel_rfl) ?_ _
 go_wp2
 exact bodyPost_ret (v:=qB 0 0 2) (by simp[results,results93,qB,go_sem]) rfl ⟨rfl,aA G0.out⟩
theorem aDm (B b bd bm:Nat)(ov:Value)(s:Sh)(pl sp:Nat)(w:World)(h:SU w B b s bd bm ov)(hn:(aS pl&&aS sp)=true)(hs:¬cK pl=(s.no:Int)):
  Calls prog 93 #[.pointer (some ⟨b,0,none⟩),.float .f32 pl,.float .f32 sp] w fun e w'=>e=.returned (qB 0 0 2)/\w.grownBy w' none:=by
 have H:=Hid.mk' h
 have G0:=Hid.mk' (World.grownBy_alloc w (.cells #[.int .i64 0,.int .i64 0] 32) none)
 have H0:=Hid.mk' (h.grown (aA G0.out))
 have A0:=Hid.mk' (At.new w [.int .i64 0,.int .i64 0] 32).drew
 clear h
 go_enter func93,ntmps93
 go_wp2_with fail
 refine wp_region_held_drew (S:=fun w'=>At w' b (s.cells bd (.map (some bm)) ov)) (by kernel_rfl) (H0.out.hs.at_) (fun hHeld=>?_)
 refine aN 0 ?_
 simp only[aF]
 refine aN 1 ?_
 simp only[aF]
 refine aX 2 (f:=146) (args:=#[.float .f32 pl,.float .f32 sp]) (by kernel_rfl) (by rfl) (by rfl) (by go_simp) ?_
 refine Calls.mono (iR pl sp _) ?_
 rintro e w2 ⟨rfl,rfl⟩
 refine ⟨_,rfl,hHeld,?_⟩
 rw[hn]
 simp only[aF]
 refine aN 3 ?_
 simp only[aF]
 refine aN 4 ?_
 simp only[aF]
 refine aN 5 ?_
 simp only[aF]
 refine aN 7 ?_
 simp only[aF]
 refine aN 8 ?_
 simp only[aF]
 refine aN 9 ?_
 simp only[aF]
 refine bV 10 (fun _ h=>h.c 0 _ rfl) ?_
 simp only[aF]
 refine aX 6 (f:=147) (args:=#[.float .f32 pl]) (by kernel_rfl) (by rfl) (by rfl) (by go_simp) ?_
 refine Calls.mono (iA pl _) ?_
 rintro e w3 ⟨rfl,rfl⟩
 refine ⟨_,rfl,hHeld,?_⟩
 simp only[aF]
 refine aN 11 ?_
 simp only[aF]
 refine aN 12 ?_
 simp only[aF]
 refine wpAnyH_done (by kernel_rfl) ?_ _
 go_wp2
 exact bodyPost_ret (v:=qB 0 0 2) (by simp[results,results93,qB,go_sem]) rfl ⟨rfl,aA G0.out⟩
theorem aDn (B b bd bm:Nat)(ov:Value)(s:Sh)(pl sp:Nat)(w:World)(h:SU w B b s bd bm ov)(hn:(aS pl&&aS sp)=true)(hs:cK pl=(s.no:Int))(hf:decide (s.cI<=(s.th.length:Int))=true):
  Calls prog 93 #[.pointer (some ⟨b,0,none⟩),.float .f32 pl,.float .f32 sp] w fun e w'=>e=.returned (qB 0 0 6)/\w.grownBy w' none:=by
 have H:=Hid.mk' h
 have G0:=Hid.mk' (World.grownBy_alloc w (.cells #[.int .i64 0,.int .i64 0] 32) none)
 have H0:=Hid.mk' (h.grown (aA G0.out))
 have A0:=Hid.mk' (At.new w [.int .i64 0,.int .i64 0] 32).drew
 clear h
 go_enter func93,ntmps93
 go_wp2_with fail
 refine wp_region_held_drew (S:=fun w'=>At w' b (s.cells bd (.map (some bm)) ov)) (by kernel_rfl) (H0.out.hs.at_) (fun hHeld=>?_)
 refine aN 0 ?_
 simp only[aF]
 refine aN 1 ?_
 simp only[aF]
 refine aX 2 (f:=146) (args:=#[.float .f32 pl,.float .f32 sp]) (by kernel_rfl) (by rfl) (by rfl) (by go_simp) ?_
 refine Calls.mono (iR pl sp _) ?_
 rintro e w2 ⟨rfl,rfl⟩
 refine ⟨_,rfl,hHeld,?_⟩
 rw[hn]
 simp only[aF]
 refine aN 3 ?_
 simp only[aF]
 refine aN 4 ?_
 simp only[aF]
 refine aN 5 ?_
 simp only[aF]
 refine aN 7 ?_
 simp only[aF]
 refine aN 8 ?_
 simp only[aF]
 refine aN 9 ?_
 simp only[aF]
 refine bV 10 (fun _ h=>h.c 0 _ rfl) ?_
 simp only[aF]
 refine aX 6 (f:=147) (args:=#[.float .f32 pl]) (by kernel_rfl) (by rfl) (by rfl) (by go_simp) ?_
 refine Calls.mono (iA pl _) ?_
 rintro e w3 ⟨rfl,rfl⟩
 refine ⟨_,rfl,hHeld,?_⟩
 rw[hs]
 simp only[aF]
 refine aN 11 ?_
 simp only[aF]
 refine aN 12 ?_
 simp only[aF]
 refine wpAnyH_done (by kernel_rfl) ?_ _
 go_wp2_with fail
 refine Calls.mono (nN B b bd bm ov s _ H0.out.hs) ?_
 rintro e w4 ⟨rfl,g4⟩
 have H4:=Hid.mk' (H0.out.grown g4)
 have A4:=Hid.mk' (A0.out.grown g4)
 have G4:=Hid.mk' ((aA G0.out).trans g4)
 have c10:=H4.out.hs.at_.c 10 _ rfl
 have a0:=A4.out.c 0 _ rfl
 have a1:=A4.out.c 1 _ rfl
 have p0:=A4.out.f 0
 have p1:=A4.out.f 1
 rw[hf]
 have B4:=((A4.out.put 0 (.int .i64 0) (by simp)).put 1 (.int .i64 0) (by simp))
 have b0:=B4.c 0 _ rfl
 have b1:=B4.c 1 _ rfl
 go_wp2
 exact bodyPost_ret (v:=qB 0 0 6) (by simp[results,results93,qB,go_sem, *]) rfl ⟨rfl,(((Only.grown G4.out).mono (A':=fun _=>False) (by simp)).trans ((Only.set2 w4 w.heap.size 0 1 _ _).mono (fun _ _ e=>.inr (Nat.le_of_eq e.symm)))).fresh (fun _ _ h=>h)⟩
theorem aDo (B b bd bm:Nat)(ov:Value)(s:Sh)(pl sp:Nat)(w:World)(h:SU w B b s bd bm ov)(hn:(aS pl&&aS sp)=true)(hs:cK pl=(s.no:Int))(hf:decide (s.cI<=(s.th.length:Int))=false)(hl:s.ms.m=65535):
  Calls prog 93 #[.pointer (some ⟨b,0,none⟩),.float .f32 pl,.float .f32 sp] w fun e w'=>e=.returned (qB 0 0 6)/\w.grownBy w' none:=by
 have H:=Hid.mk' h
 have G0:=Hid.mk' (World.grownBy_alloc w (.cells #[.int .i64 0,.int .i64 0] 32) none)
 have H0:=Hid.mk' (h.grown (aA G0.out))
 have A0:=Hid.mk' (At.new w [.int .i64 0,.int .i64 0] 32).drew
 clear h
 go_enter func93,ntmps93
 go_wp2_with fail
 refine wp_region_held_drew (S:=fun w'=>At w' b (s.cells bd (.map (some bm)) ov)) (by kernel_rfl) (H0.out.hs.at_) (fun hHeld=>?_)
 refine aN 0 ?_
 simp only[aF]
 refine aN 1 ?_
 simp only[aF]
 refine aX 2 (f:=146) (args:=#[.float .f32 pl,.float .f32 sp]) (by kernel_rfl) (by rfl) (by rfl) (by go_simp) ?_
 refine Calls.mono (iR pl sp _) ?_
 rintro e w2 ⟨rfl,rfl⟩
 refine ⟨_,rfl,hHeld,?_⟩
 rw[hn]
 simp only[aF]
 refine aN 3 ?_
 simp only[aF]
 refine aN 4 ?_
 simp only[aF]
 refine aN 5 ?_
 simp only[aF]
 refine aN 7 ?_
 simp only[aF]
 refine aN 8 ?_
 simp only[aF]
 refine aN 9 ?_
 simp only[aF]
 refine bV 10 (fun _ h=>h.c 0 _ rfl) ?_
 simp only[aF]
 refine aX 6 (f:=147) (args:=#[.float .f32 pl]) (by kernel_rfl) (by rfl) (by rfl) (by go_simp) ?_
 refine Calls.mono (iA pl _) ?_
 rintro e w3 ⟨rfl,rfl⟩
 refine ⟨_,rfl,hHeld,?_⟩
 rw[hs]
 simp only[aF]
 refine aN 11 ?_
 simp only[aF]
 refine aN 12 ?_
 simp only[aF]
 refine wpAnyH_done (by kernel_rfl) ?_ _
 go_wp2_with fail
 refine Calls.mono (nN B b bd bm ov s _ H0.out.hs) ?_
 rintro e w4 ⟨rfl,g4⟩
 have H4:=Hid.mk' (H0.out.grown g4)
 have A4:=Hid.mk' (A0.out.grown g4)
 have G4:=Hid.mk' ((aA G0.out).trans g4)
 have c10:=H4.out.hs.at_.c 10 _ rfl
 have a0:=A4.out.c 0 _ rfl
 have a1:=A4.out.c 1 _ rfl
 have p0:=A4.out.f 0
 have p1:=A4.out.f 1
 rw[hf]
 rw[hl] at c10
 have B4:=((A4.out.put 0 (.int .i64 0) (by simp)).put 1 (.int .i64 0) (by simp))
 have b0:=B4.c 0 _ rfl
 have b1:=B4.c 1 _ rfl
 go_wp2
 exact bodyPost_ret (v:=qB 0 0 6) (by simp[results,results93,qB,go_sem, *]) rfl ⟨rfl,(((Only.grown G4.out).mono (A':=fun _=>False) (by simp)).trans ((Only.set2 w4 w.heap.size 0 1 _ _).mono (fun _ _ e=>.inr (Nat.le_of_eq e.symm)))).fresh (fun _ _ h=>h)⟩
theorem aHy (B b bd bm:Nat)(ov:Value)(s:Sh)(F:Nat->Prop)(pl sp:Nat)(w:World)(h:SU w B b s bd bm ov)(hps:PS w b s F)(hn:(aS pl&&aS sp)=true)(hs:cK pl=(s.no:Int))(hf:decide (s.cI<=(s.th.length:Int))=false)(hl:s.ms.m<65535)(hl0:0<=s.ms.m)
  (hj:∀W,PS W b s F->Calls prog 134 #[.pointer (some ⟨b,0,none⟩),rv 1 0 ⟨s.no,s.ms.m+1,pl,sp⟩ aZ (.slice none 0 0) (.slice none 0 0)] W fun e w'=>e=.returned (.int .i64 (s.jrn (s.mintRec pl sp)).1)/\PS w' b (s.jrn (s.mintRec pl sp)).2 (NX W w' F)/\Only W w' F) (hF:∀j,F j->j<w.heap.size):
  Calls prog 93 #[.pointer (some ⟨b,0,none⟩),.float .f32 pl,.float .f32 sp] w fun e w'=>e=.returned (if (s.jrn (s.mintRec pl sp)).1=0 then qB s.no (s.ms.m+1) 0 else qB 0 0 (s.jrn (s.mintRec pl sp)).1)/\PS w' b (s.jrn (s.mintRec pl sp)).2 (NX w w' F)/\Only w w' F:=by
 have H:=Hid.mk' h
 have G0:=Hid.mk' (World.grownBy_alloc w (.cells #[.int .i64 0,.int .i64 0] 32) none)
 have H0:=Hid.mk' (h.grown (aA G0.out))
 have A0:=Hid.mk' (At.new w [.int .i64 0,.int .i64 0] 32).drew
 have JR:=Hid.mk' hj
 have PP:=Hid.mk' hps
 have HF:=Hid.mk' hF
 clear h hj hps hF
 go_enter func93,ntmps93
 go_wp2_with fail
 refine wp_region_held_drew (S:=fun w'=>At w' b (s.cells bd (.map (some bm)) ov)) (by kernel_rfl) (H0.out.hs.at_) (fun hHeld=>?_)
 refine aN 0 ?_
 simp only[aF]
 refine aN 1 ?_
 simp only[aF]
 refine aX 2 (f:=146) (args:=#[.float .f32 pl,.float .f32 sp]) (by kernel_rfl) (by rfl) (by rfl) (by go_simp) ?_
 refine Calls.mono (iR pl sp _) ?_
 rintro e w2 ⟨rfl,rfl⟩
 refine ⟨_,rfl,hHeld,?_⟩
 rw[hn]
 simp only[aF]
 refine aN 3 ?_
 simp only[aF]
 refine aN 4 ?_
 simp only[aF]
 refine aN 5 ?_
 simp only[aF]
 refine aN 7 ?_
 simp only[aF]
 refine aN 8 ?_
 simp only[aF]
 refine aN 9 ?_
 simp only[aF]
 refine bV 10 (fun _ h=>h.c 0 _ rfl) ?_
 simp only[aF]
 refine aX 6 (f:=147) (args:=#[.float .f32 pl]) (by kernel_rfl) (by rfl) (by rfl) (by go_simp) ?_
 refine Calls.mono (iA pl _) ?_
 rintro e w3 ⟨rfl,rfl⟩
 refine ⟨_,rfl,hHeld,?_⟩
 rw[hs]
 simp only[aF]
 refine aN 11 ?_
 simp only[aF]
 refine aN 12 ?_
 simp only[aF]
 refine wpAnyH_done (by kernel_rfl) ?_ _
 go_wp2_with fail
 refine Calls.mono (nN B b bd bm ov s _ H0.out.hs) ?_
 rintro e w4 ⟨rfl,g4⟩
 have H4:=Hid.mk' (H0.out.grown g4)
 have A4:=Hid.mk' (A0.out.grown g4)
 have G4:=Hid.mk' ((aA G0.out).trans g4)
 have c10:=H4.out.hs.at_.c 10 _ rfl
 have a0:=A4.out.c 0 _ rfl
 have a1:=A4.out.c 1 _ rfl
 have p0:=A4.out.f 0
 have p1:=A4.out.f 1
 rw[hf]
 have hwr:IntKind.i64.wrap (s.ms.m+1)=s.ms.m+1:=by simp[IntKind.wrap,IntKind.bits,IntKind.signed];omega
 have hne:b≠w4.heap.size:=by have:=H4.out.hs.at_.lt;omega
 have c0:=H4.out.hs.at_.c 0 _ rfl
 go_wp2_with fail
 refine wp_region_held_drew (S:=fun w'=>At w' b (s.cells bd (.map (some bm)) ov)) (by kernel_rfl) (H4.out.hs.at_.drew) (fun hHeld=>?_)
 refine aN 0 ?_
 simp only[aF]
 refine aN 1 ?_
 simp only[aF]
 refine aN 2 ?_
 simp only[aF]
 refine bV 3 (fun _ h=>h.c 0 _ rfl) ?_
 simp only[aF]
 refine aN 4 ?_
 simp only[aF]
 refine aN 5 ?_
 simp only[aF]
 refine aN 6 ?_
 simp only[aF]
 refine aN 7 ?_
 simp only[aF]
 refine aN 8 ?_
 simp only[aF]
 refine bV 9 (fun _ h=>h.c 10 _ rfl) ?_
 simp only[aF]
 refine aN 10 ?_
 simp only[aF]
 refine aN 11 ?_
 simp only[aF]
 refine fV 12 (by kernel_rfl) (by rfl) (by rfl) ?_
 intro K hK
 go_simp
 refine hK _ _ (hHeld.grown (World.grownBy_alloc _ _ none)) ?_
 clear hK K
 have hHeld:=hHeld.grown (World.grownBy_alloc _ (.cells #[.int .i64 0,.int .i64 0] 32) none)
 have X0:=At.new w4.drew [.int .i64 0,.int .i64 0] 32
 refine fV 13 (by kernel_rfl) (by rfl) (by rfl) ?_
 intro K hK
 go_simp
 have X1:At ((w4.alloc (.cells #[.int .i64 s.no,.int .i64 (s.ms.m+1)] 32)).drew) w4.heap.size [.int .i64 s.no,.int .i64 (s.ms.m+1)]:=(At.new w4 [.int .i64 s.no,.int .i64 (s.ms.m+1)] 32).drew
 have g5:=aA (World.grownBy_alloc w4 (.cells #[.int .i64 s.no,.int .i64 (s.ms.m+1)] 32) none)
 refine hK _ _ (H4.out.grown g5).hs.at_ ?_
 clear hK K X0 hHeld
 refine wpAnyH_done (by kernel_rfl) ?_ _
 have G5:=Hid.mk' (G4.out.trans g5)
 have A5:=Hid.mk' (A4.out.grown g5)
 have x0:=X1.c 0 _ rfl
 have x1:=X1.c 1 _ rfl
 have P5:=Hid.mk' (PP.out.only ((Only.grown G5.out).mono (A':=fun _=>False) (by simp)) (fun _ _ h=>h))
 go_wp2_with fail
 refine Calls.mono (JR.out _ P5.out) ?_
 rintro e w6 ⟨rfl,P6,O6⟩
 have z4:=G4.out.size
 have s0:w.heap.size+1<=w4.heap.size:=by simpa using g4.size
 have A6:=A5.out.only O6 (fun e=>by have:=HF.out _ e;omega)
 have X6:=X1.only O6 (fun e=>by have:=HF.out _ e;omega)
 have y0:=X6.c 0 _ rfl
 have y1:=X6.c 1 _ rfl
 have a0:=A6.c 0 _ rfl
 have a1:=A6.c 1 _ rfl
 have q0:=A6.f 0
 have q1:=A6.f 1
 have ON:∀u v,Only w ((w6.setCell ⟨w.heap.size,0,none⟩ u).setCell ⟨w.heap.size,1,none⟩ v) F:=fun u v=>
  (((Only.grown G5.out).mono (by simp)).trans (O6.mono (fun _ _ e=>.inl e))).trans ((Only.set2 w6 w.heap.size 0 1 _ _).mono (fun _ _ e=>.inr (Nat.le_of_eq e.symm)))
 have PN:∀u v,PS ((w6.setCell ⟨w.heap.size,0,none⟩ u).setCell ⟨w.heap.size,1,none⟩ v) b (s.jrn (s.mintRec pl sp)).2 (NX w ((w6.setCell ⟨w.heap.size,0,none⟩ u).setCell ⟨w.heap.size,1,none⟩ v) F):=fun u v=>by
  have o:=Only.set2 w6 w.heap.size 0 1 u v
  have P7:=P6.only o (fun j hj e=>by subst e;rcases hj.1 with h | h;have:=HF.out _ h;omega;have:=G5.out.size;have:=g5.size;omega)
  refine P7.mono (fun j hj h=>⟨?_,hj⟩)
  rcases h.1 with h | h
  ·exact .inl h
  ·exact .inr (Nat.le_trans G5.out.size h)
 generalize hjr:s.jrn (s.mintRec pl sp)=jr at *
 obtain ⟨er,s1⟩:=jr
 simp only at *
 by_cases he:er=0
 ·subst he
  have B6:=(A6.put 0 (.int .i64 s.no) (by simp)).put 1 (.int .i64 (s.ms.m+1)) (by simp)
  have b0:=B6.c 0 _ rfl
  have b1:=B6.c 1 _ rfl
  go_wp2
  all_goals exact bodyPost_ret (v:=qB s.no (s.ms.m+1) 0) (by simp[results,results93,qB,go_sem, *]) rfl ⟨by rfl,PN _ _,ON _ _⟩
 ·have he':(er==0)=false:=by simpa using he
  have B6:=(A6.put 0 (.int .i64 0) (by simp)).put 1 (.int .i64 0) (by simp)
  have b0:=B6.c 0 _ rfl
  have b1:=B6.c 1 _ rfl
  go_wp2
  all_goals exact bodyPost_ret (v:=qB 0 0 er) (by simp[results,results93,qB,go_sem, *]) rfl ⟨by rfl,PN _ _,ON _ _⟩
theorem aHz (b:Nat)(s:Sh)(F:Nat->Prop)(w:World)(h:PS w b s F)(hu:s.up=true)(hct:s.ct<2)(hcj:s.cJ<=5000)(ok:DrInv s/\s.th.length<=1000/\∀x∈s.th,aS x.pl=true/\aS x.sp=true):
  Calls prog 80 #[.pointer (some ⟨b,0,none⟩)] w fun e w'=>e=.returned (.int .i64 (s.jrn ⟨3,0,bT,aZ,[],[]⟩).1)/\PS w' b (s.jrn ⟨3,0,bT,aZ,[],[]⟩).2 (NX w w' F)/\Only w w' F:=by
 have J:=Hid.mk' (jJ b s F ⟨3,0,bT,aZ,[],[]⟩ w h hu ⟨rfl,rfl⟩ (by decide) ⟨⟨by decide,by decide⟩,by simp,by simp⟩ hct hcj ⟨.inr (.inr (.inl rfl)),by unfold bD bT;decide,fun _=>ok,fun h=>absurd h (by simp)⟩)
 clear h ok
 go_enter func80,ntmps80
 go_wp2_with fail
 refine Calls.mono J.out ?_
 rintro e w1 ⟨rfl,h1,h2⟩
 go_wp2
 go_ret
 exact ⟨rfl,h1,h2⟩
def gG (th:List It)(a b:Int):It:=(th.find? (fun x=>decide (x.sh=a/\x.nu=b))).getD bT
theorem aFO:∀{th:List It} {j:Nat} {i:It} {a b:Int},th.Pairwise (fun a b=>¬a.same b)->th[j]?=some i->i.sh=a->i.nu=b->gG th a b=i
 | [],j,i,a,b,_,h,_,_=>by simp at h
 | x::r,0,i,a,b,_,h,ea,eb=>by
  simp at h
  subst h
  simp[gG,ea,eb]
 | x::r,j+1,i,a,b,nd,h,ea,eb=>by
  have nd':=List.pairwise_cons.1 nd
  have hi:r[j]?=some i:=by simpa using h
  have hx:¬(x.sh=a/\x.nu=b):=fun e=>nd'.1 i (List.mem_of_getElem? hi) (by unfold It.same;omega)
  have:=aFO (th:=r) nd'.2 hi ea eb
  unfold gG at *
  rw[List.find?_cons,decide_eq_false hx]
  exact this
theorem Mp.look4 {w:World}{bm:Nat}{th:List It}(h:Mp w bm th)(a b:Int)(ha:bD a)(hb:bD b):
  (Instr.lookup 128 (.map (some bm)) (mW a b) true).run prog w=.ok (.tuple #[kD (gG th a b),.bool (cM th a b)]) w:=by
 have nd:=h.nd
 obtain ⟨es,clock,hbm,hs,hm,hf⟩:=h.find a b ha hb
 obtain ⟨l,hl⟩:=xE a b ha hb
 rcases hf with ⟨h0,hr⟩ | ⟨h1,j,i,e,hj,hi,ea,eb,_,hr⟩
 ·have hz:(zeroValue 75).run prog w=.ok (kD bT) w:=Tryz.zeroValue75 w
  have hg:gG th a b=bT:=by
   unfold gG
   rw[List.find?_eq_none.2 (fun x hx=>by unfold cM at h0;rw[List.any_eq_false] at h0;exact h0 x hx)]
   rfl
  rw[hg]
  simp[Instr.lookup,run_underlying underlying128,MapKept.run_getObj_map hbm,idLaw.check w _ hl,hr,hz,Result.andThen,h0]
 ·rw[aFO nd hi ea eb]
  have h1':(es.toList.map eR)[j]?=some (eR e):=by rw[List.getElem?_map,hj];rfl
  rw[hm,List.getElem?_map,hi] at h1'
  have ev:kD i=e.val:=congrArg Prod.snd (Option.some.inj h1')
  rw[ev]
  simp[Instr.lookup,run_underlying underlying128,MapKept.run_getObj_map hbm,idLaw.check w _ hl,hr,Result.andThen,h1]
theorem aAK (b:Nat)(s:Sh)(F:Nat->Prop)(x y:Int)(w:World)(h:PS w b s F)(hu:s.up=true)(hct:s.ct<2)(hcj:s.cJ<=5000)(hx:bD x)(hy:bD y)(hid:cM s.th x y=true->pA x y=true):
  Calls prog 99 #[.pointer (some ⟨b,0,none⟩),.agg #[.int .i64 x,.int .i64 y]] w fun e w'=>(cM s.th x y=false->e=.returned (.int .i64 4)/\PS w' b s (NX w w' F)/\Only w w' F)/\(cM s.th x y=true->e=.returned (.int .i64 (s.jrn ⟨2,0,⟨x,y,0,0⟩,aZ,[],[]⟩).1)/\PS w' b (s.jrn ⟨2,0,⟨x,y,0,0⟩,aZ,[],[]⟩).2 (NX w w' F)/\Only w w' F):=by
 have PP:=Hid.mk' h
 have JR:Hid (∀W,PS W b s F->pA x y=true->Calls prog 134 #[.pointer (some ⟨b,0,none⟩),rv 2 0 ⟨x,y,0,0⟩ aZ (.slice none 0 0) (.slice none 0 0)] W fun e w'=>e=.returned (.int .i64 (s.jrn ⟨2,0,⟨x,y,0,0⟩,aZ,[],[]⟩).1)/\PS w' b (s.jrn ⟨2,0,⟨x,y,0,0⟩,aZ,[],[]⟩).2 (NX W w' F)/\Only W w' F):=Hid.mk' fun W hW hb=>
  jJ b s F ⟨2,0,⟨x,y,0,0⟩,aZ,[],[]⟩ W hW hu ⟨rfl,rfl⟩ (by simp[aP,hb,zU,eU,wR,aZ]) ⟨⟨by simp,by simp⟩,by simp,by simp⟩ hct hcj ⟨.inr (.inl rfl),⟨hx,hy⟩,by simp,by simp⟩
 obtain ⟨bd,⟨_,B,bm,ov,p⟩ | ⟨hu',_⟩⟩:=h
 case inr=>rw[hu] at hu';cases hu'
 have hsf:=aK
 have H:=Hid.mk' p.su
 have g0:=aA (World.grownBy_alloc w (.cells #[.int .i64 x,.int .i64 y] 32) none)
 have H0:=Hid.mk' (p.su.grown g0)
 have A0:=Hid.mk' (At.new w [.int .i64 x,.int .i64 y] 32).drew
 have G0:=Hid.mk' g0
 have z0:(w.alloc (.cells #[.int .i64 x,.int .i64 y] 32)).drew.heap.size=w.heap.size+1:=by simp
 have bl:=H0.out.hs.at_.lt
 have ml:=H0.out.hs.mp.lt
 clear p g0
 go_enter func99,ntmps99
 go_wp2_with fail
 refine wp_region_held_drew (S:=fun w'=>At w' b (s.cells bd (.map (some bm)) ov)/\At w' w.heap.size [.int .i64 x,.int .i64 y]/\Mp w' bm s.th) (by kernel_rfl) (⟨H0.out.hs.at_,A0.out,H0.out.hs.mp⟩) (fun hHeld=>?_)
 refine aN 0 ?_
 simp only[aF]
 refine aN 1 ?_
 simp only[aF]
 refine aN 2 ?_
 simp only[aF]
 refine aN 3 ?_
 simp only[aF]
 refine bV 4 (fun _ h=>h.1.c 7 _ rfl) ?_
 simp only[aF]
 refine dG 5 rfl (by intro w hSw;have S0:=hSw.2.1.c 0 _ rfl;have S1:=hSw.2.1.c 1 _ rfl;go_simp;try with_reducible rfl) ?_
 simp only[aF]
 refine dG 6 rfl (by intro w hSw;have L:=hSw.2.2.look4 x y hx hy;unfold mW kD at L;go_simp;try with_reducible rfl) ?_
 simp only[aF]
 refine aN 7 ?_
 simp only[aF]
 refine aN 8 ?_
 simp only[aF]
 refine aN 9 ?_
 simp only[aF]
 have g1:=World.grownBy_alloc (w.alloc (.cells #[.int .i64 x,.int .i64 y] 32)).drew (.cells #[.int .i64 0,.int .i64 0,.float .f32 0,.float .f32 0] 75) none
 have g2:=aA (World.grownBy_alloc (w.alloc (.cells #[.int .i64 x,.int .i64 y] 32)) (.cells #[.int .i64 (gG s.th x y).sh,.int .i64 (gG s.th x y).nu,.float .f32 (gG s.th x y).pl,.float .f32 (gG s.th x y).sp] 75) none)
 have H1:=Hid.mk' (H0.out.grown g1)
 have A1:=Hid.mk' (A0.out.grown g1)
 have A2:=Hid.mk' ((At.new w [.int .i64 x,.int .i64 y] 32).grown g2)
 have H2:=Hid.mk' (((H.out.grown (World.grownBy_alloc w (.cells #[.int .i64 x,.int .i64 y] 32) none))).grown g2)
 have G2:=Hid.mk' ((World.grownBy_alloc w (.cells #[.int .i64 x,.int .i64 y] 32) none).trans g2)
 refine fV 10 (by kernel_rfl) (by rfl) (by rfl) ?_
 intro K hK
 go_simp
 refine hK _ _ ⟨H1.out.hs.at_,A1.out,H1.out.hs.mp⟩ ?_
 clear hK K
 refine fV 11 (by kernel_rfl) (by rfl) (by rfl) ?_
 intro K hK
 go_simp
 clear hHeld
 have hHeld:=And.intro H2.out.hs.at_ (And.intro A2.out H2.out.hs.mp)
 refine hK _ _ hHeld ?_
 clear hK K
 refine aN 12 ?_
 simp only[aF]
 refine wpAnyH_done (by kernel_rfl) ?_ _
 have x0:=A2.out.c 0 _ rfl
 have x1:=A2.out.c 1 _ rfl
 have P2:=Hid.mk' (PP.out.only ((Only.grown G2.out).mono (A':=fun _=>False) (by simp)) (fun _ _ h=>h))
 by_cases hh:cM s.th x y=true
 ·rw[hh]
  go_wp2_with fail
  refine Calls.mono (JR.out _ P2.out (hid hh)) ?_
  rintro e w3 ⟨rfl,P3,O3⟩
  go_wp2
  go_ret
  refine ⟨fun h=>absurd (hh.symm.trans h) (by decide),fun _=>⟨rfl,P3.mono (fun j hj h=>⟨?_,hj⟩),((Only.grown G2.out).mono (by simp)).trans (O3.mono (fun _ _ e=>.inl e))⟩⟩
  rcases h.1 with h | h
  ·exact .inl h
  ·exact .inr (Nat.le_trans G2.out.size h)
 ·have hh':cM s.th x y=false:=by simpa using hh
  rw[hh']
  go_wp2
  go_ret
  exact ⟨fun _=>⟨rfl,PP.out.grown G2.out,(Only.grown G2.out).mono (by simp)⟩,fun h=>absurd (hh'.symm.trans h) (by decide)⟩
def Sh.mint (s:Sh)(pl sp:Nat):(Int×Int×Int)×Sh:=
 if (aS pl&&aS sp)=false∨¬cK pl=(s.no:Int) then ((0,0,2),s)
 else if s.cI<=(s.th.length:Int)∨s.ms.m=65535 then ((0,0,6),s)
 else if (s.jrn (s.mintRec pl sp)).1=0 then ((s.no,s.ms.m+1,0),(s.jrn (s.mintRec pl sp)).2) else ((0,0,(s.jrn (s.mintRec pl sp)).1),(s.jrn (s.mintRec pl sp)).2)
theorem aHA (b:Nat)(s:Sh)(F:Nat->Prop)(pl sp:Nat)(w:World)(h:PS w b s F)(hF:∀j,F j->j<w.heap.size)(hu:s.up=true)(hct:s.ct<2)(hcj:s.cJ<=5000)(hno:s.no<2)(hm0:0<=s.ms.m)(hm1:s.ms.m<=65535)(hp:pl<4294967296)(hq:sp<4294967296):
  Calls prog 93 #[.pointer (some ⟨b,0,none⟩),.float .f32 pl,.float .f32 sp] w fun e w'=>e=.returned (qB (s.mint pl sp).1.1 (s.mint pl sp).1.2.1 (s.mint pl sp).1.2.2)/\PS w' b (s.mint pl sp).2 (NX w w' F)/\Only w w' F:=by
 have h0:=h
 obtain ⟨bd,⟨_,B,bm,ov,p⟩ | ⟨hu',_⟩⟩:=h
 case inr=>rw[hu] at hu';cases hu'
 have gw:∀(x:Int) (e:Ending) (w':World),e=.returned (qB 0 0 x)/\w.grownBy w' none->e=.returned (qB 0 0 x)/\PS w' b s (NX w w' F)/\Only w w' F:=fun x e w' hh=>⟨hh.1,h0.grown hh.2,(Only.grown hh.2).mono (by simp)⟩
 unfold Sh.mint
 by_cases hn:(aS pl&&aS sp)=false
 ·rw[if_pos (.inl hn)]
  exact (aFN B b bd bm ov s pl sp w p.su hn).mono (gw 2)
 have hn':(aS pl&&aS sp)=true:=by simpa using hn
 by_cases hs:¬cK pl=(s.no:Int)
 ·rw[if_pos (.inr hs)]
  exact (aDm B b bd bm ov s pl sp w p.su hn' hs).mono (gw 2)
 rw[if_neg (fun e=>e.elim hn hs)]
 have hs':=Classical.not_not.1 hs
 by_cases hf:s.cI<=(s.th.length:Int)
 ·rw[if_pos (.inl hf)]
  exact (aDn B b bd bm ov s pl sp w p.su hn' hs' (decide_eq_true hf)).mono (gw 6)
 by_cases hl:s.ms.m=65535
 ·rw[if_pos (.inr hl)]
  exact (aDo B b bd bm ov s pl sp w p.su hn' hs' (decide_eq_false hf) hl).mono (gw 6)
 rw[if_neg (fun e=>e.elim hf hl)]
 have n1:aS pl=true:=(Bool.and_eq_true_iff.1 hn').1
 have n2:aS sp=true:=(Bool.and_eq_true_iff.1 hn').2
 have hno':(s.no:Int)=0∨(s.no:Int)=1:=by omega
 refine (aHy B b bd bm ov s F pl sp w p.su h0 hn' hs' (decide_eq_false hf) (by omega) hm0 (fun W hW=>jJ b s F (s.mintRec pl sp) W hW hu ⟨rfl,rfl⟩ ?_ ⟨⟨hp,hq⟩,by simp[Sh.mintRec],by simp[Sh.mintRec]⟩ hct hcj ⟨.inl rfl,?_,by simp[Sh.mintRec],by simp[Sh.mintRec]⟩) hF).mono ?_
 ·simp only[aP,Sh.mintRec,eF,pA,n1,n2,eU,wR,aZ]
  simp
  have e1:s.no=0∨(s.no:Int)=1:=by omega
  exact ⟨⟨e1,decide_eq_true (by omega)⟩,decide_eq_true (by omega)⟩
 ·unfold bD Sh.mintRec
  simp only
  omega
 ·rintro e w' ⟨he,h1,h2⟩
  split
  ·rename_i h3
   rw[if_pos h3] at he
   exact ⟨he,h1,h2⟩
  ·rename_i h3
   rw[if_neg h3] at he
   exact ⟨he,h1,h2⟩
def Sh.snap (s:Sh):Int×Sh:=
 if s.ms.g=65535 then (5,s)
 else if s.cJ<((aY s.snapRec).length:Int) then (5,s)
 else if (s.dk.cut (1 -s.ct)).2=false then (3,s.down.on (s.dk.cut (1 -s.ct)).1)
 else if ((s.dk.cut (1 -s.ct)).1.append (1 -s.ct) (aY s.snapRec)).2=false then (3,s.down.on ((s.dk.cut (1 -s.ct)).1.append (1 -s.ct) (aY s.snapRec)).1)
 else if (((s.dk.cut (1 -s.ct)).1.append (1 -s.ct) (aY s.snapRec)).1.sync (1 -s.ct)).2=false then (3,s.down.on (((s.dk.cut (1 -s.ct)).1.append (1 -s.ct) (aY s.snapRec)).1.sync (1 -s.ct)).1)
 else (0,{s with ct:=1 -s.ct,ms:={s.ms with g:=s.ms.g+1},dk:=(((s.dk.cut (1 -s.ct)).1.append (1 -s.ct) (aY s.snapRec)).1.sync (1 -s.ct)).1})
theorem aHB (b:Nat)(s:Sh)(F:Nat->Prop)(w:World)(h:PS w b s F)(hu:s.up=true)(hl:s.th.length<=1000)(hlo:s.ob.length<=1000)(hct:s.ct<2)(hg0:0<=s.ms.g)(hg1:s.ms.g<=65535)(hm:s.ms.g<65535->aP s.snapRec=true)(wf:WfR s.snapRec):
  Calls prog 68 #[.pointer (some ⟨b,0,none⟩)] w fun e w'=>e=.returned (.int .i64 s.snap.1)/\PS w' b s.snap.2 (NX w w' F)/\Only w w' F:=by
 have h0:=h
 obtain ⟨bd,⟨_,B,bm,ov,p⟩ | ⟨hu',_⟩⟩:=h
 case inr=>rw[hu] at hu';cases hu'
 unfold Sh.snap
 split
 ·rename_i hg
  refine (aDg b bd _ _ s w p.su.hs.at_ hg).mono ?_
  rintro e w' ⟨he,rfl⟩
  exact ⟨he,h0.grown (aD _ _),Only.refl _ _⟩
 rename_i hg
 have hg1':s.ms.g<65535:=by omega
 have hm':=hm hg1'
 split
 ·rename_i hc
  refine (aDh B b bd bm ov s w p.su hl hlo hct hg0 hg1' hm' wf hc).mono ?_
  rintro e w' ⟨he,g⟩
  exact ⟨he,h0.grown g,(Only.grown g).mono (by simp)⟩
 rename_i hc
 have ff:∀w':World,Only w w' (fun j=>j=b∨j=bd)->Only w w' F:=fun w' o=>o.mono (fun j _ e=>by rcases e with rfl | rfl;exact p.f1;exact p.f2)
 have ok1:=p.su.ok.cut (1 -s.ct)
 split
 ·rename_i h1
  refine (aFI B b bd bm ov s w p.su hl hlo hct hg0 hg1' hm' wf hc h1).mono ?_
  rintro e w' ⟨he,q1,q2,o⟩
  exact ⟨he,mP q1 q2 ok1 p.su.d1 p.f1 p.f2,ff w' o⟩
 rename_i h1
 have h1':(s.dk.cut (1 -s.ct)).2=true:=by simpa using h1
 have hfl:(aY s.snapRec).length<=1200:=by have:=(dM s.snapRec hm').2;unfold aY;rw[List.length_append];simp[n2];omega
 have ok2:=(ok1.append (1 -s.ct) (aY s.snapRec) (by rw[qQ _ _ h1'];omega)).act
 split
 ·rename_i h2
  refine (aFJ B b bd bm ov s w p.su hl hlo hct hg0 hg1' hm' wf hc h1' h2).mono ?_
  rintro e w' ⟨he,q1,q2,o⟩
  exact ⟨he,mP q1 q2 ok2 p.su.d1 p.f1 p.f2,ff w' o⟩
 rename_i h2
 have h2':((s.dk.cut (1 -s.ct)).1.append (1 -s.ct) (aY s.snapRec)).2=true:=by simpa using h2
 split
 ·rename_i h3
  refine (aFK B b bd bm ov s w p.su hl hlo hct hg0 hg1' hm' wf hc h1' h2' h3).mono ?_
  rintro e w' ⟨he,q1,q2,o⟩
  exact ⟨he,mP q1 q2 (Dk.Ok.sync ok2 _) p.su.d1 p.f1 p.f2,ff w' o⟩
 rename_i h3
 have h3':(((s.dk.cut (1 -s.ct)).1.append (1 -s.ct) (aY s.snapRec)).1.sync (1 -s.ct)).2=true:=by simpa using h3
 refine (aHx B b bd bm ov s w p.su hl hlo hct hg0 hg1' hm' wf hc h1' h2' h3').mono ?_
 rintro e w' ⟨he,q1,q2,o⟩
 refine ⟨he,⟨bd,.inl ⟨hu,B,bm,ov,⟨q1.on _,q2,Dk.Ok.sync ok2 _,p.su.d1,p.su.d2,p.su.d3⟩,⟨.inl p.f1,q1.at_.lt⟩,⟨.inl p.f2,q2.lt⟩,⟨.inl p.f3,q1.mp.lt⟩,fun j hj=>⟨.inl (p.f4 j hj),(q1.ob.lt j hj).2⟩⟩⟩,ff w' o⟩
theorem PS.cells {w:World}{b:Nat}{s:Sh}{F:Nat->Prop}(h:PS w b s F):∃bd mv ov,At w b (s.cells bd mv ov)/\At w bd s.dk.cells/\s.dk.Ok/\bd≠b/\F b/\F bd:=by
 obtain ⟨bd,⟨_,B,bm,ov,p⟩ | ⟨_,p⟩⟩:=h
 ·exact ⟨bd,_,_,p.su.hs.at_,p.su.dk,p.su.ok,p.su.d1,p.f1,p.f2⟩
 ·exact ⟨bd,_,_,p.at_,p.dk,p.ok,p.d1,p.f1,p.f2⟩
theorem aFP (b:Nat)(s:Sh)(F:Nat->Prop)(keep:Int)(w:World)(h:PS w b s F):
  Calls prog 44 #[.pointer (some ⟨b,0,none⟩),.int .i64 keep] w fun e w'=>e=.returned (.tuple #[])/\PS w' b (s.down.on (s.dk.crash keep)) (NX w w' F)/\Only w w' F:=by
 obtain ⟨bd,mv,ov,h1,h2,ok,ne,f1,f2⟩:=h.cells
 refine (xZ b bd mv ov s keep w h1 h2 ok ne).mono ?_
 rintro e w' ⟨he,q1,q2,o⟩
 exact ⟨he,mP q1 q2 (ok.crash keep) ne f1 f2,o.mono (fun j _ e=>by rcases e with rfl | rfl;exact f1;exact f2)⟩
theorem aFQ (b:Nat)(s:Sh)(F:Nat->Prop)(k keep:Int)(w:World)(h:PS w b s F)(hk:k<=9223372036854775807):
  Calls prog 67 #[.pointer (some ⟨b,0,none⟩),.int .i64 k,.int .i64 keep] w fun e w'=>(k<0/\e=.returned (.int .i64 2)/\w'=w)∨(0<=k/\e=.returned (.int .i64 0)/\PS w' b (s.on {s.dk with un:=k,kp:=keep}) (NX w w' F)/\Only w w' F):=by
 have h0:=h
 obtain ⟨bd,mv,ov,h1,h2,ok,ne,f1,f2⟩:=h.cells
 obtain ⟨bd,hh⟩:=h
 have key:∀(mv ov:Value),At w b (s.cells bd mv ov)->At w bd s.dk.cells->s.dk.Ok->F bd->(∀w',At w' bd ({s.dk with un:=k,kp:=keep}:Dk).cells->({s.dk with un:=k,kp:=keep}:Dk).Ok->Only w w' (fun j=>j=bd)->PS w' b (s.on {s.dk with un:=k,kp:=keep}) (NX w w' F))->Calls prog 67 #[.pointer (some ⟨b,0,none⟩),.int .i64 k,.int .i64 keep] w fun e w'=>(k<0/\e=.returned (.int .i64 2)/\w'=w)∨(0<=k/\e=.returned (.int .i64 0)/\PS w' b (s.on {s.dk with un:=k,kp:=keep}) (NX w w' F)/\Only w w' F):=fun mv ov c1 c2 ok f2 hp=>by
  refine (xY b bd mv ov s k keep w c1 c2).mono ?_
  rintro e w' (⟨q1,q2,q3⟩ | ⟨q1,q2,q3,o⟩)
  ·exact .inl ⟨q1,q2,q3⟩
  ·exact .inr ⟨q1,q2,hp w' q3 ⟨ok.a0,ok.a1,ok.b0,ok.b1,q1,hk⟩ o,o.mono (fun j _ e=>by rw[e];exact f2)⟩
 rcases hh with ⟨hu,B,bm,ov,p⟩ | ⟨hu,p⟩
 ·refine key _ _ p.su.hs.at_ p.su.dk p.su.ok p.f2 (fun w' c ok' o=>?_)
  have q:=p.su.hs.disk o p.su.d1 p.su.d2 p.su.d3
  exact ⟨bd,.inl ⟨hu,B,bm,ov,⟨q.on _,c,ok',p.su.d1,p.su.d2,p.su.d3⟩,⟨.inl p.f1,q.at_.lt⟩,⟨.inl p.f2,c.lt⟩,⟨.inl p.f3,q.mp.lt⟩,fun j hj=>⟨.inl (p.f4 j hj),(q.ob.lt j hj).2⟩⟩⟩
 ·refine key _ _ p.at_ p.dk p.ok p.f2 (fun w' c ok' o=>?_)
  have q:=p.at_.only o (fun e=>p.d1 e.symm)
  exact ⟨bd,.inr ⟨hu,q,c,ok',p.d1,⟨.inl p.f1,q.lt⟩,⟨.inl p.f2,c.lt⟩,p.e1,p.e2,p.e3⟩⟩
theorem aFR (b:Nat)(s:Sh)(F:Nat->Prop)(w:World)(h:PS w b s F)(hu:s.up=true)(hl:s.th.length<=1000):
  Calls prog 39 #[.pointer (some ⟨b,0,none⟩)] w fun e w'=>∃v,e=.returned v/\OwnI w.heap.size w' v (cH s.th)/\w.grownBy w' none:=by
 obtain ⟨bd,⟨_,B,bm,ov,p⟩ | ⟨hu',_⟩⟩:=h
 case inr=>rw[hu] at hu';cases hu'
 refine (xW B b bd bm ov s w p.su.hs hl).mono ?_
 rintro e w' ⟨v,ss,he,hp,hs,ho,g⟩
 obtain rfl:=nP hs hp p.su.hs.mp.nd
 exact ⟨v,he,ho,g⟩
theorem aDp (b:Nat)(s:Sh)(F:Nat->Prop)(w:World)(h:PS w b s F)(hu:s.up=true)(hl:s.ob.length<=1000):
  Calls prog 40 #[.pointer (some ⟨b,0,none⟩)] w fun e w'=>∃v,e=.returned v/\OwnE w.heap.size w' v s.ob/\w.grownBy w' none:=by
 obtain ⟨bd,⟨_,B,bm,ov,p⟩ | ⟨hu',_⟩⟩:=h
 case inr=>rw[hu] at hu';cases hu'
 have E:=Hid.mk' (pY B b 7 ov s.ob w (p.su.hs.at_.c 8 _ rfl) p.su.hs.ob hl)
 clear p hu
 go_enter func40,ntmps40
 go_wp2_with fail
 refine Calls.mono E.out ?_
 rintro e w1 ⟨v,rfl,h1,g1⟩
 go_wp2
 go_ret
 exact ⟨v,rfl,h1,g1⟩
theorem aFS (b:Nat)(s:Sh)(F:Nat->Prop)(w:World)(h:PS w b s F):
  Calls prog 41 #[.pointer (some ⟨b,0,none⟩)] w fun e w'=>e=.returned (.agg #[.int .i64 s.ms.g,.int .i64 s.ms.m,.int .i64 s.ms.s,.int .i64 s.ms.a,.int .i64 s.ms.n])/\w.grownBy w' none:=by
 obtain ⟨bd,mv,ov,h1,_⟩:=h.cells
 exact xX b bd mv ov s w h1
theorem aHC (b:Nat)(s:Sh)(F:Nat->Prop)(n:Int)(w:World)(h:PS w b s F):
  Calls prog 158 #[.pointer (some ⟨b,0,none⟩),.int .i64 n] w fun e w'=>e=.returned (.tuple #[.string (if n=0∨n=1 then S (s.dk.file n.toNat) else S []),.int .i64 (if n=0∨n=1 then 0 else 4)])/\w'=w:=by
 obtain ⟨bd,mv,ov,h1,h2,_⟩:=h.cells
 exact aAE b bd mv ov s n w h1 h2
theorem fG (b:Nat)(s:Sh)(F:Nat->Prop)(w:World)(h:PS w b s F):
  Calls prog 74 #[.pointer (some ⟨b,0,none⟩)] w fun e w'=>e=.returned (.bool s.up)/\w'=w:=by
 obtain ⟨bd,mv,ov,h1,_⟩:=h.cells
 exact aFv b s bd mv ov w h1
def wN (b0 b1:Nat)(f0 f1:Value):List Value:=[.pointer (some ⟨b0,0,none⟩),.pointer (some ⟨b1,0,none⟩),f0,f1]
@[reducible] def aV (i:Int):Prop:=i=0∨i=1
def aC {α:Type}(x y:α)(i:Int):α:=if i=0 then x else y
def upE (u0 u1:Bool)(i:Int):Int:=if aV i then (if aC u0 u1 i=true then 0 else 3) else 2
theorem sD (bp:Nat)(i:Int)(w:World)(hi:¬aV i):
  Calls prog 42 #[.pointer (some ⟨bp,0,none⟩),.int .i64 i] w fun e w'=>e=.returned (.tuple #[.pointer none,.int .i64 2])/\w'=w:=by
 unfold aV at hi
 rcases (by omega:i<0∨(0<=i/\2<=i)) with h | ⟨h0,h⟩
 all_goals
  clear hi
  go_enter func42,ntmps42
  go_wp2
  go_ret2
  exact ⟨rfl,rfl⟩
theorem oP (bp b0 b1:Nat)(f0 f1:Value)(i:Int)(w:World)(h:At w bp (wN b0 b1 f0 f1))(hi:aV i):
  Calls prog 42 #[.pointer (some ⟨bp,0,none⟩),.int .i64 i] w fun e w'=>e=.returned (.tuple #[.pointer (some ⟨aC b0 b1 i,0,none⟩),.int .i64 0])/\w'=w:=by
 have c0:=h.c 0 _ rfl
 have c1:=h.c 1 _ rfl
 clear h
 rcases hi with rfl | rfl
 all_goals
  go_enter func42,ntmps42
  go_wp2
  go_ret2
  exact ⟨rfl,rfl⟩
theorem fY (bp b0 b1:Nat)(f0 f1:Value)(u0 u1:Bool)(i:Int)(w:World)(h:At w bp (wN b0 b1 f0 f1))(h0:Calls prog 74 #[.pointer (some ⟨b0,0,none⟩)] w fun e w'=>e=.returned (.bool u0)/\w'=w)(h1:Calls prog 74 #[.pointer (some ⟨b1,0,none⟩)] w fun e w'=>e=.returned (.bool u1)/\w'=w):
  Calls prog 38 #[.pointer (some ⟨bp,0,none⟩),.int .i64 i] w fun e w'=>e=.returned (.tuple #[.pointer (if upE u0 u1 i=0 then some ⟨aC b0 b1 i,0,none⟩ else none),.int .i64 (upE u0 u1 i)])/\w'=w:=by
 by_cases hi:aV i
 ·have A:=Hid.mk' (oP bp b0 b1 f0 f1 i w h hi)
  clear h
  have U:Hid (Calls prog 74 #[.pointer (some ⟨aC b0 b1 i,0,none⟩)] w fun e w'=>e=.returned (.bool (aC u0 u1 i))/\w'=w):=by
   rcases hi with rfl | rfl
   ·exact h0
   ·exact h1
  clear h0 h1
  have hE:upE u0 u1 i=if aC u0 u1 i=true then 0 else 3:=if_pos hi
  rw[hE]
  clear hE
  generalize aC u0 u1 i=u at *
  generalize aC b0 b1 i=b at *
  clear hi
  cases u
  all_goals
   go_enter func38,ntmps38
   go_wp2_with fail
   refine Calls.mono A.out ?_
   rintro e w1 ⟨rfl,rfl⟩
   go_wp2_with fail
   refine Calls.mono U.out ?_
   rintro e w2 ⟨rfl,rfl⟩
   go_wp2
   go_ret2
   exact ⟨rfl,rfl⟩
 ·have A:=Hid.mk' (sD bp i w hi)
  have hE:upE u0 u1 i=2:=if_neg hi
  rw[hE]
  clear h h0 h1 hE hi
  go_enter func38,ntmps38
  go_wp2_with fail
  refine Calls.mono A.out ?_
  rintro e w1 ⟨rfl,rfl⟩
  go_wp2
  go_ret2
  exact ⟨rfl,rfl⟩
theorem aHD (bp b0 b1:Nat)(f0 f1:Value)(u0 u1:Bool)(i:Int)(w:World)(h:At w bp (wN b0 b1 f0 f1))(h0:Calls prog 74 #[.pointer (some ⟨b0,0,none⟩)] w fun e w'=>e=.returned (.bool u0)/\w'=w)(h1:Calls prog 74 #[.pointer (some ⟨b1,0,none⟩)] w fun e w'=>e=.returned (.bool u1)/\w'=w)(Q:Ending->World->Prop)
  (hno:upE u0 u1 i≠0->Q (.returned (.int .i64 (upE u0 u1 i))) w) (hok:upE u0 u1 i=0->Calls prog 80 #[.pointer (some ⟨aC b0 b1 i,0,none⟩)] w fun e w'=>∃v,e=.returned v/\Q (.returned v) w'):
  Calls prog 33 #[.pointer (some ⟨bp,0,none⟩),.int .i64 i] w Q:=by
 have U:=Hid.mk' (fY bp b0 b1 f0 f1 u0 u1 i w h h0 h1)
 clear h h0 h1
 by_cases c:upE u0 u1 i=0
 ·have OK:=Hid.mk' (hok c)
  rw[c,if_pos rfl] at U
  clear hno hok c
  go_enter func33,ntmps33
  go_wp2_with fail
  refine Calls.mono U.out ?_
  rintro e w1 ⟨rfl,rfl⟩
  go_wp2_with fail
  refine Calls.mono OK.out ?_
  rintro e w2 ⟨v,rfl,q⟩
  go_wp2
  first | exact q | (go_ret;exact q) | (go_ret2;exact q)
 ·have NO:=Hid.mk' (hno c)
  rw[if_neg c] at U
  have cb:(upE u0 u1 i !=0)=true:=by simpa using c
  generalize upE u0 u1 i=z at *
  clear hno hok
  go_enter func33,ntmps33
  go_wp2_with fail
  refine Calls.mono U.out ?_
  rintro e w1 ⟨rfl,rfl⟩
  go_wp2
  first | exact NO.out | (go_ret;exact NO.out) | (go_ret2;exact NO.out)
theorem yL (bp b0 b1:Nat)(f0 f1:Value)(u0 u1:Bool)(i:Int)(w:World)(h:At w bp (wN b0 b1 f0 f1))(h0:Calls prog 74 #[.pointer (some ⟨b0,0,none⟩)] w fun e w'=>e=.returned (.bool u0)/\w'=w)(h1:Calls prog 74 #[.pointer (some ⟨b1,0,none⟩)] w fun e w'=>e=.returned (.bool u1)/\w'=w)(Q:Ending->World->Prop)
  (hno:upE u0 u1 i≠0->Q (.returned (.int .i64 (upE u0 u1 i))) w) (hok:upE u0 u1 i=0->Calls prog 68 #[.pointer (some ⟨aC b0 b1 i,0,none⟩)] w fun e w'=>∃v,e=.returned v/\Q (.returned v) w'):
  Calls prog 28 #[.pointer (some ⟨bp,0,none⟩),.int .i64 i] w Q:=by
 have U:=Hid.mk' (fY bp b0 b1 f0 f1 u0 u1 i w h h0 h1)
 clear h h0 h1
 by_cases c:upE u0 u1 i=0
 ·have OK:=Hid.mk' (hok c)
  rw[c,if_pos rfl] at U
  clear hno hok c
  go_enter func28,ntmps28
  go_wp2_with fail
  refine Calls.mono U.out ?_
  rintro e w1 ⟨rfl,rfl⟩
  go_wp2_with fail
  refine Calls.mono OK.out ?_
  rintro e w2 ⟨v,rfl,q⟩
  go_wp2
  first | exact q | (go_ret;exact q) | (go_ret2;exact q)
 ·have NO:=Hid.mk' (hno c)
  rw[if_neg c] at U
  have cb:(upE u0 u1 i !=0)=true:=by simpa using c
  generalize upE u0 u1 i=z at *
  clear hno hok
  go_enter func28,ntmps28
  go_wp2_with fail
  refine Calls.mono U.out ?_
  rintro e w1 ⟨rfl,rfl⟩
  go_wp2
  first | exact NO.out | (go_ret;exact NO.out) | (go_ret2;exact NO.out)
theorem aAL (bp b0 b1:Nat)(f0 f1:Value)(u0 u1:Bool)(i:Int)(x y:Int)(w:World)(h:At (w.alloc (.cells #[.int .i64 x,.int .i64 y] 32)) bp (wN b0 b1 f0 f1))(h0:Calls prog 74 #[.pointer (some ⟨b0,0,none⟩)] (w.alloc (.cells #[.int .i64 x,.int .i64 y] 32)) fun e w'=>e=.returned (.bool u0)/\w'=(w.alloc (.cells #[.int .i64 x,.int .i64 y] 32)))(h1:Calls prog 74 #[.pointer (some ⟨b1,0,none⟩)] (w.alloc (.cells #[.int .i64 x,.int .i64 y] 32)) fun e w'=>e=.returned (.bool u1)/\w'=(w.alloc (.cells #[.int .i64 x,.int .i64 y] 32)))(Q:Ending->World->Prop)
  (hno:upE u0 u1 i≠0->Q (.returned (.int .i64 (upE u0 u1 i))) (w.alloc (.cells #[.int .i64 x,.int .i64 y] 32))) (hok:upE u0 u1 i=0->Calls prog 99 #[.pointer (some ⟨aC b0 b1 i,0,none⟩),.agg #[.int .i64 x,.int .i64 y]] (w.alloc (.cells #[.int .i64 x,.int .i64 y] 32)) fun e w'=>∃v,e=.returned v/\Q (.returned v) w'):
  Calls prog 48 #[.pointer (some ⟨bp,0,none⟩),.int .i64 i,.agg #[.int .i64 x,.int .i64 y]] w Q:=by
 have U:=Hid.mk' (fY bp b0 b1 f0 f1 u0 u1 i (w.alloc (.cells #[.int .i64 x,.int .i64 y] 32)) h h0 h1)
 clear h h0 h1
 by_cases c:upE u0 u1 i=0
 ·have OK:=Hid.mk' (hok c)
  rw[c,if_pos rfl] at U
  clear hno hok c
  go_enter func48,ntmps48
  go_wp2_with fail
  refine Calls.mono U.out ?_
  rintro e w1 ⟨rfl,rfl⟩
  go_wp2_with fail
  refine Calls.mono OK.out ?_
  rintro e w2 ⟨v,rfl,q⟩
  go_wp2
  first | exact q | (go_ret;exact q) | (go_ret2;exact q)
 ·have NO:=Hid.mk' (hno c)
  rw[if_neg c] at U
  have cb:(upE u0 u1 i !=0)=true:=by simpa using c
  generalize upE u0 u1 i=z at *
  clear hno hok
  go_enter func48,ntmps48
  go_wp2_with fail
  refine Calls.mono U.out ?_
  rintro e w1 ⟨rfl,rfl⟩
  go_wp2
  first | exact NO.out | (go_ret;exact NO.out) | (go_ret2;exact NO.out)
theorem aFT (bp b0 b1:Nat)(f0 f1:Value)(u0 u1:Bool)(i:Int)(k:Int)(w:World)(h:At w bp (wN b0 b1 f0 f1))(h0:Calls prog 74 #[.pointer (some ⟨b0,0,none⟩)] w fun e w'=>e=.returned (.bool u0)/\w'=w)(h1:Calls prog 74 #[.pointer (some ⟨b1,0,none⟩)] w fun e w'=>e=.returned (.bool u1)/\w'=w)(Q:Ending->World->Prop)
  (hno:upE u0 u1 i≠0->Q (.returned (.int .i64 (upE u0 u1 i))) w) (hok:upE u0 u1 i=0->Calls prog 44 #[.pointer (some ⟨aC b0 b1 i,0,none⟩),.int .i64 k] w fun e w'=>∃v,e=.returned v/\Q (.returned (.int .i64 0)) w'):
  Calls prog 18 #[.pointer (some ⟨bp,0,none⟩),.int .i64 i,.int .i64 k] w Q:=by
 have U:=Hid.mk' (fY bp b0 b1 f0 f1 u0 u1 i w h h0 h1)
 clear h h0 h1
 by_cases c:upE u0 u1 i=0
 ·have OK:=Hid.mk' (hok c)
  rw[c,if_pos rfl] at U
  clear hno hok c
  go_enter func18,ntmps18
  go_wp2_with fail
  refine Calls.mono U.out ?_
  rintro e w1 ⟨rfl,rfl⟩
  go_wp2_with fail
  refine Calls.mono OK.out ?_
  rintro e w2 ⟨v,rfl,q⟩
  go_wp2
  first | exact q | (go_ret;exact q) | (go_ret2;exact q)
 ·have NO:=Hid.mk' (hno c)
  rw[if_neg c] at U
  have cb:(upE u0 u1 i !=0)=true:=by simpa using c
  generalize upE u0 u1 i=z at *
  clear hno hok
  go_enter func18,ntmps18
  go_wp2_with fail
  refine Calls.mono U.out ?_
  rintro e w1 ⟨rfl,rfl⟩
  go_wp2
  first | exact NO.out | (go_ret;exact NO.out) | (go_ret2;exact NO.out)
theorem aFU (bp b0 b1:Nat)(f0 f1:Value)(u0 u1:Bool)(i:Int)(w:World)(h:At w bp (wN b0 b1 f0 f1))(h0:Calls prog 74 #[.pointer (some ⟨b0,0,none⟩)] w fun e w'=>e=.returned (.bool u0)/\w'=w)(h1:Calls prog 74 #[.pointer (some ⟨b1,0,none⟩)] w fun e w'=>e=.returned (.bool u1)/\w'=w)(Q:Ending->World->Prop)
  (hno:upE u0 u1 i≠0->Q (.returned (.tuple #[.slice none 0 0,.int .i64 (upE u0 u1 i)])) w) (hok:upE u0 u1 i=0->Calls prog 39 #[.pointer (some ⟨aC b0 b1 i,0,none⟩)] w fun e w'=>∃v,e=.returned v/\Q (.returned (.tuple #[v,.int .i64 0])) w'):
  Calls prog 14 #[.pointer (some ⟨bp,0,none⟩),.int .i64 i] w Q:=by
 have U:=Hid.mk' (fY bp b0 b1 f0 f1 u0 u1 i w h h0 h1)
 clear h h0 h1
 by_cases c:upE u0 u1 i=0
 ·have OK:=Hid.mk' (hok c)
  rw[c,if_pos rfl] at U
  clear hno hok c
  go_enter func14,ntmps14
  go_wp2_with fail
  refine Calls.mono U.out ?_
  rintro e w1 ⟨rfl,rfl⟩
  go_wp2_with fail
  refine Calls.mono OK.out ?_
  rintro e w2 ⟨v,rfl,q⟩
  go_wp2
  first | exact q | (go_ret;exact q) | (go_ret2;exact q)
 ·have NO:=Hid.mk' (hno c)
  rw[if_neg c] at U
  have cb:(upE u0 u1 i !=0)=true:=by simpa using c
  generalize upE u0 u1 i=z at *
  clear hno hok
  go_enter func14,ntmps14
  go_wp2_with fail
  refine Calls.mono U.out ?_
  rintro e w1 ⟨rfl,rfl⟩
  go_wp2
  first | exact NO.out | (go_ret;exact NO.out) | (go_ret2;exact NO.out)
theorem aDq (bp b0 b1:Nat)(f0 f1:Value)(u0 u1:Bool)(i:Int)(w:World)(h:At w bp (wN b0 b1 f0 f1))(h0:Calls prog 74 #[.pointer (some ⟨b0,0,none⟩)] w fun e w'=>e=.returned (.bool u0)/\w'=w)(h1:Calls prog 74 #[.pointer (some ⟨b1,0,none⟩)] w fun e w'=>e=.returned (.bool u1)/\w'=w)(Q:Ending->World->Prop)
  (hno:upE u0 u1 i≠0->Q (.returned (.tuple #[.slice none 0 0,.int .i64 (upE u0 u1 i)])) w) (hok:upE u0 u1 i=0->Calls prog 40 #[.pointer (some ⟨aC b0 b1 i,0,none⟩)] w fun e w'=>∃v,e=.returned v/\Q (.returned (.tuple #[v,.int .i64 0])) w'):
  Calls prog 15 #[.pointer (some ⟨bp,0,none⟩),.int .i64 i] w Q:=by
 have U:=Hid.mk' (fY bp b0 b1 f0 f1 u0 u1 i w h h0 h1)
 clear h h0 h1
 by_cases c:upE u0 u1 i=0
 ·have OK:=Hid.mk' (hok c)
  rw[c,if_pos rfl] at U
  clear hno hok c
  go_enter func15,ntmps15
  go_wp2_with fail
  refine Calls.mono U.out ?_
  rintro e w1 ⟨rfl,rfl⟩
  go_wp2_with fail
  refine Calls.mono OK.out ?_
  rintro e w2 ⟨v,rfl,q⟩
  go_wp2
  first | exact q | (go_ret;exact q) | (go_ret2;exact q)
 ·have NO:=Hid.mk' (hno c)
  rw[if_neg c] at U
  have cb:(upE u0 u1 i !=0)=true:=by simpa using c
  generalize upE u0 u1 i=z at *
  clear hno hok
  go_enter func15,ntmps15
  go_wp2_with fail
  refine Calls.mono U.out ?_
  rintro e w1 ⟨rfl,rfl⟩
  go_wp2
  first | exact NO.out | (go_ret;exact NO.out) | (go_ret2;exact NO.out)
theorem aFV (bp b0 b1:Nat)(f0 f1:Value)(i:Int)(k n:Int)(w:World)(h:At w bp (wN b0 b1 f0 f1))(Q:Ending->World->Prop)
  (hno:¬aV i->Q (.returned (.int .i64 2)) w) (hok:aV i->Calls prog 67 #[.pointer (some ⟨aC b0 b1 i,0,none⟩),.int .i64 k,.int .i64 n] w fun e w'=>∃v,e=.returned v/\Q (.returned v) w'):
  Calls prog 27 #[.pointer (some ⟨bp,0,none⟩),.int .i64 i,.int .i64 k,.int .i64 n] w Q:=by
 by_cases c:aV i
 ·have U:=Hid.mk' (oP bp b0 b1 f0 f1 i w h c)
  have OK:=Hid.mk' (hok c)
  clear h hno hok c
  go_enter func27,ntmps27
  go_wp2_with fail
  refine Calls.mono U.out ?_
  rintro e w1 ⟨rfl,rfl⟩
  go_wp2_with fail
  refine Calls.mono OK.out ?_
  rintro e w2 ⟨v,rfl,q⟩
  go_wp2
  first | exact q | (go_ret;exact q) | (go_ret2;exact q)
 ·have U:=Hid.mk' (sD bp i w c)
  have NO:=Hid.mk' (hno c)
  clear h hno hok c
  go_enter func27,ntmps27
  go_wp2_with fail
  refine Calls.mono U.out ?_
  rintro e w1 ⟨rfl,rfl⟩
  go_wp2
  first | exact NO.out | (go_ret;exact NO.out) | (go_ret2;exact NO.out)
theorem aAM (bp b0 b1:Nat)(f0 f1:Value)(i:Int)(w:World)(h:At w bp (wN b0 b1 f0 f1))(Q:Ending->World->Prop)
  (hno:¬aV i->Q (.returned (.int .i64 2)) w) (hok:aV i->Calls prog 43 #[.pointer (some ⟨aC b0 b1 i,0,none⟩)] w fun e w'=>∃v,e=.returned v/\Q (.returned v) w'):
  Calls prog 17 #[.pointer (some ⟨bp,0,none⟩),.int .i64 i] w Q:=by
 by_cases c:aV i
 ·have U:=Hid.mk' (oP bp b0 b1 f0 f1 i w h c)
  have OK:=Hid.mk' (hok c)
  clear h hno hok c
  go_enter func17,ntmps17
  go_wp2_with fail
  refine Calls.mono U.out ?_
  rintro e w1 ⟨rfl,rfl⟩
  go_wp2_with fail
  refine Calls.mono OK.out ?_
  rintro e w2 ⟨v,rfl,q⟩
  go_wp2
  first | exact q | (go_ret;exact q) | (go_ret2;exact q)
 ·have U:=Hid.mk' (sD bp i w c)
  have NO:=Hid.mk' (hno c)
  clear h hno hok c
  go_enter func17,ntmps17
  go_wp2_with fail
  refine Calls.mono U.out ?_
  rintro e w1 ⟨rfl,rfl⟩
  go_wp2
  first | exact NO.out | (go_ret;exact NO.out) | (go_ret2;exact NO.out)
theorem fA (bp b0 b1:Nat)(v0 v1:Value)(i:Int)(w:World)(h:At w bp (wN b0 b1 v0 v1))(hi:aV i):
  Calls prog 72 #[.pointer (some ⟨bp,0,none⟩),.int .i64 i] w fun e w'=>e=.returned (.tuple #[.pointer (some ⟨bp,aC 2 3 i,none⟩),.int .i64 0])/\w'=w:=by
 have U:=Hid.mk' (oP bp b0 b1 v0 v1 i w h hi)
 clear h
 rcases hi with rfl | rfl
 all_goals
  go_enter func72,ntmps72
  go_wp2_with fail
  refine Calls.mono U.out ?_
  rintro e w1 ⟨rfl,rfl⟩
  go_wp2
  go_ret2
  exact ⟨rfl,rfl⟩
theorem fT (bp:Nat)(i:Int)(w:World)(hi:¬aV i):
  Calls prog 72 #[.pointer (some ⟨bp,0,none⟩),.int .i64 i] w fun e w'=>e=.returned (.tuple #[.pointer none,.int .i64 2])/\w'=w:=by
 have U:=Hid.mk' (sD bp i w hi)
 clear hi
 go_enter func72,ntmps72
 go_wp2_with fail
 refine Calls.mono U.out ?_
 rintro e w1 ⟨rfl,rfl⟩
 go_wp2
 go_ret2
 exact ⟨rfl,rfl⟩
theorem mA (bp:Nat)(i:Int)(w:World)(hi:aV i):
  Calls prog 70 #[.pointer (some ⟨bp,0,none⟩),.int .i64 i] w fun e w'=>e=.returned (.pointer (some ⟨bp,aC 3 2 i,none⟩))/\w'=w:=by
 rcases hi with rfl | rfl
 all_goals
  go_enter func70,ntmps70
  go_wp2
  go_ret
  exact ⟨rfl,rfl⟩
structure FX (w:World)(bp b0 b1:Nat)(v0 v1:Value)(f0 f1:List (List UInt8)):Prop where
 at_:At w bp (wN b0 b1 v0 v1)
 o0:OwnF 0 w v0 f0
 o1:OwnF 0 w v1 f1
 n0:v0.ownBlock≠some bp
 n1:v1.ownBlock≠some bp
 d:∀j,v0.ownBlock=some j->v1.ownBlock≠some j
 l0:f0.length<=32
 l1:f1.length<=32
 t0:∀t∈f0,t.length<=100
 t1:∀t∈f1,t.length<=100
def fxF (bp:Nat)(v0 v1:Value)(j:Nat):Prop:=j=bp∨v0.ownBlock=some j∨v1.ownBlock=some j
theorem FX.only {w w':World}{bp b0 b1:Nat}{v0 v1:Value}{f0 f1:List (List UInt8)}{A:Nat->Prop}(h:FX w bp b0 b1 v0 v1 f0 f1)(o:Only w w' A)(hA:∀j,fxF bp v0 v1 j->¬A j):FX w' bp b0 b1 v0 v1 f0 f1:=
 ⟨h.at_.only o (hA _ (.inl rfl)),o.own h.o0 (fun j hj=>hA j (.inr (.inl hj))),o.own h.o1 (fun j hj=>hA j (.inr (.inr hj))),h.n0,h.n1,h.d,h.l0,h.l1,h.t0,h.t1⟩
theorem FX.grown {w w':World}{bp b0 b1:Nat}{v0 v1:Value}{f0 f1:List (List UInt8)}(h:FX w bp b0 b1 v0 v1 f0 f1)(g:w.grownBy w' none):FX w' bp b0 b1 v0 v1 f0 f1:=h.only (Only.grown g) (by simp)
theorem FX.lt {w:World}{bp b0 b1:Nat}{v0 v1:Value}{f0 f1:List (List UInt8)}(h:FX w bp b0 b1 v0 v1 f0 f1){j:Nat}(hj:fxF bp v0 v1 j):j<w.heap.size:=by
 rcases hj with rfl | hj | hj
 ·exact h.at_.lt
 ·exact (h.o0.lt j hj).2
 ·exact (h.o1.lt j hj).2
def FXn (w w':World)(bp b0 b1:Nat)(v0 v1:Value)(f0 f1:List (List UInt8)):Prop:=
 ∃u0 u1,FX w' bp b0 b1 u0 u1 f0 f1/\Only w w' (fxF bp v0 v1)/\∀j,fxF bp u0 u1 j->fxF bp v0 v1 j∨w.heap.size<=j
theorem FX.same {w:World}{bp b0 b1:Nat}{v0 v1:Value}{f0 f1:List (List UInt8)}(h:FX w bp b0 b1 v0 v1 f0 f1):FXn w w bp b0 b1 v0 v1 f0 f1:=⟨v0,v1,h,Only.refl _ _,fun _ hj=>.inl hj⟩
def bN {α:Type}(x y z:α)(i:Int):α×α:=if i=0 then (z,y) else (x,z)
theorem FX.put {w w':World}{bp b0 b1:Nat}{v0 v1 v':Value}{f0 f1 f':List (List UInt8)}{i:Int}(h:FX w bp b0 b1 v0 v1 f0 f1)(hi:aV i)(a:At w' bp ((wN b0 b1 v0 v1).set (aC 2 3 i) v'))(o:OwnF 0 w' v' f')(on:Only w w' (fun j=>j=bp∨(aC v0 v1 i).ownBlock=some j))(hb:∀j,v'.ownBlock=some j->(aC v0 v1 i).ownBlock=some j∨w.heap.size<=j)(hl:f'.length<=32)(ht:∀t∈f',t.length<=100):
  FXn w w' bp b0 b1 v0 v1 (bN f0 f1 f' i).1 (bN f0 f1 f' i).2:=by
 have bl:=h.at_.lt
 rcases hi with rfl | rfl
 ·have hb':∀j,v'.ownBlock=some j->v0.ownBlock=some j∨w.heap.size<=j:=hb
  have on':Only w w' (fun j=>j=bp∨v0.ownBlock=some j):=on
  refine ⟨v',v1,⟨a,o,on'.own h.o1 (fun j hj e=>?_),fun e=>?_,h.n1,fun j hj e=>?_,hl,h.l1,ht,h.t1⟩,on'.mono (fun j _ e=>?_),fun j hj=>?_⟩
  ·rcases e with e | e
   ·exact h.n1 (e ▸ hj)
   ·exact h.d j e hj
  ·rcases hb' _ e with e | e
   ·exact h.n0 e
   ·omega
  ·rcases hb' j hj with hj | hj
   ·exact h.d j hj e
   ·have:=(h.o1.lt j e).2;omega
  ·rcases e with e | e
   ·exact .inl e
   ·exact .inr (.inl e)
  ·rcases hj with hj | hj | hj
   ·exact .inl (.inl hj)
   ·rcases hb' j hj with hj | hj
    ·exact .inl (.inr (.inl hj))
    ·exact .inr hj
   ·exact .inl (.inr (.inr hj))
 ·have hb':∀j,v'.ownBlock=some j->v1.ownBlock=some j∨w.heap.size<=j:=hb
  have on':Only w w' (fun j=>j=bp∨v1.ownBlock=some j):=on
  refine ⟨v0,v',⟨a,on'.own h.o0 (fun j hj e=>?_),o,h.n0,fun e=>?_,fun j hj e=>?_,h.l0,hl,h.t0,ht⟩,on'.mono (fun j _ e=>?_),fun j hj=>?_⟩
  ·rcases e with e | e
   ·exact h.n0 (e ▸ hj)
   ·exact h.d j hj e
  ·rcases hb' _ e with e | e
   ·exact h.n1 e
   ·omega
  ·rcases hb' j e with e | e
   ·exact h.d j hj e
   ·have:=(h.o0.lt j hj).2;omega
  ·rcases e with e | e
   ·exact .inl e
   ·exact .inr (.inr e)
  ·rcases hj with hj | hj | hj
   ·exact .inl (.inl hj)
   ·exact .inl (.inr (.inl hj))
   ·rcases hb' j hj with hj | hj
    ·exact .inl (.inr (.inr hj))
    ·exact .inr hj
theorem FX.at {w:World}{bp b0 b1:Nat}{v0 v1:Value}{f0 f1:List (List UInt8)}(h:FX w bp b0 b1 v0 v1 f0 f1){i:Int}(hi:aV i):(wN b0 b1 v0 v1)[aC 2 3 i]?=some (aC v0 v1 i)/\OwnF 0 w (aC v0 v1 i) (aC f0 f1 i)/\(aC v0 v1 i).ownBlock≠some bp/\(aC f0 f1 i).length<=32/\∀t∈aC f0 f1 i,t.length<=100:=by
 rcases hi with rfl | rfl
 ·exact ⟨rfl,h.o0,h.n0,h.l0,h.t0⟩
 ·exact ⟨rfl,h.o1,h.n1,h.l1,h.t1⟩
theorem oQ {fs:List (List UInt8)}{t:List UInt8}(h:fs.length<=32):(dX fs t).length<=32:=by
 unfold dX
 split
 ·simp;omega
 ·exact h
theorem qR {fs:List (List UInt8)}{t:List UInt8}(h:∀x∈fs,x.length<=100)(ht:t.length<=100):∀x∈dX fs t,x.length<=100:=by
 unfold dX
 split
 ·intro x hx
  rcases List.mem_append.1 hx with hx | hx
  ·exact h x hx
  ·rw[List.mem_singleton.1 hx];exact ht
 ·exact h
theorem aAN {fs:List (List UInt8)}{k:Int}(h:∀x∈fs,x.length<=100):(lH fs k).length<=100:=by
 unfold lH
 split
 ·rename_i hk
  have hl:k.toNat<fs.length:=by unfold oF at hk;omega
  rw[List.getD_eq_getElem?_getD,List.getElem?_eq_getElem hl]
  exact h _ (List.getElem_mem hl)
 ·simp
theorem pL {fs:List (List UInt8)}{k:Int}(h:fs.length<=32):(fB fs k).length<=32:=by
 unfold fB
 split
 ·exact Nat.le_trans (List.length_eraseIdx_le ..) h
 ·exact h
theorem sE {fs:List (List UInt8)}{k:Int}(h:∀x∈fs,x.length<=100):∀x∈fB fs k,x.length<=100:=by
 unfold fB
 split
 ·exact fun x hx=>h x (List.mem_of_mem_eraseIdx hx)
 ·exact h
theorem sF {fs:List (List UInt8)}{k n:Int}(h:fs.length<=32):(dU fs k n).length<=32:=by
 unfold dU
 split
 ·simpa using h
 ·exact h
theorem tW {fs:List (List UInt8)}{k n:Int}(h:∀x∈fs,x.length<=100):∀x∈dU fs k n,x.length<=100:=by
 have ha:=aAN (k:=k) h
 unfold dU
 split
 ·intro x hx
  rcases List.mem_or_eq_of_mem_set hx with hx | rfl
  ·exact h x hx
  ·unfold sY
   rw[List.length_take]
   omega
 ·exact h
theorem yM {fs:List (List UInt8)}{k:Int}(h:fs.length<=32):(cN fs k).length<=32:=by
 unfold cN
 split
 ·exact oQ h
 ·exact h
theorem aAO {fs:List (List UInt8)}{k:Int}(h:∀x∈fs,x.length<=100):∀x∈cN fs k,x.length<=100:=by
 unfold cN
 split
 ·exact qR h (aAN h)
 ·exact h
def kP (f0 f1:List (List UInt8))(i k:Int):Int:=if aV i then eK (aC f0 f1 i) k else 2
def fH {α:Type}(f0 f1:α)(g:α->α)(i:Int):α×α:=if aV i then bN f0 f1 (g (aC f0 f1 i)) i else (f0,f1)
section
variable {w : World} {bp b0 b1 : Nat} {v0 v1 : Value} {f0 f1 : List (List UInt8)}
theorem aDr (h:FX w bp b0 b1 v0 v1 f0 f1)(i k:Int):
  Calls prog 35 #[.pointer (some ⟨bp,0,none⟩),.int .i64 i,.int .i64 k] w fun e w'=>e=.returned (.int .i64 (kP f0 f1 i k))/\FXn w w' bp b0 b1 v0 v1 (fH f0 f1 (fB · k) i).1 (fH f0 f1 (fB · k) i).2:=by
 unfold kP fH
 by_cases hi:aV i
 ·rw[if_pos hi,if_pos hi]
  obtain ⟨h1,h2,h3,h4,h5⟩:=h.at hi
  have FT:=Hid.mk' (fA bp b0 b1 v0 v1 i w h.at_ hi)
  have TK:=Hid.mk' ((xD bp (aC 2 3 i) _ 0 (aC v0 v1 i) (aC f0 f1 i) k w h.at_ h1 h2 h3 h4).mono (R':=fun e w'=>e=.returned (.tuple #[.string (S (lH (aC f0 f1 i) k)),.int .i64 (eK (aC f0 f1 i) k)])/\FXn w w' bp b0 b1 v0 v1 (bN f0 f1 (fB (aC f0 f1 i) k) i).1 (bN f0 f1 (fB (aC f0 f1 i) k) i).2) (by
   rintro e w' ⟨rfl,v',a1,a2,a3,a4⟩
   exact ⟨rfl,h.put hi a1 a2 a3 (fun j hj=>.inl (a4 j hj)) (pL h4) (sE h5)⟩))
  generalize (bN f0 f1 (fB (aC f0 f1 i) k) i)=ff at *
  generalize lH (aC f0 f1 i) k=t at *
  generalize eK (aC f0 f1 i) k=z at *
  generalize aC 2 3 i=kk at *
  clear h h1 h2 h3 h4 h5
  go_enter func35,ntmps35
  go_wp2_with fail
  refine Calls.mono FT.out ?_
  rintro e w1 ⟨rfl,rfl⟩
  go_wp2_with fail
  refine Calls.mono TK.out ?_
  rintro e w1 ⟨rfl,q⟩
  go_wp2
  go_ret
  exact ⟨rfl,q⟩
 ·rw[if_neg hi,if_neg hi]
  have FT:=Hid.mk' (fT bp i w hi)
  have QQ:=Hid.mk' h.same
  clear h hi
  go_enter func35,ntmps35
  go_wp2_with fail
  refine Calls.mono FT.out ?_
  rintro e w1 ⟨rfl,rfl⟩
  go_wp2
  go_ret
  exact ⟨rfl,QQ.out⟩
theorem yN (h:FX w bp b0 b1 v0 v1 f0 f1)(i k:Int):
  Calls prog 36 #[.pointer (some ⟨bp,0,none⟩),.int .i64 i,.int .i64 k] w fun e w'=>e=.returned (.int .i64 (kP f0 f1 i k))/\FXn w w' bp b0 b1 v0 v1 (fH f0 f1 (cN · k) i).1 (fH f0 f1 (cN · k) i).2:=by
 unfold kP fH
 by_cases hi:aV i
 ·rw[if_pos hi,if_pos hi]
  obtain ⟨h1,h2,h3,h4,h5⟩:=h.at hi
  have FT:=Hid.mk' (fA bp b0 b1 v0 v1 i w h.at_ hi)
  have TK:=Hid.mk' ((aAm bp (aC 2 3 i) _ 0 (aC v0 v1 i) (aC f0 f1 i) k w h.at_ h1 h2 h3 (Nat.zero_le _)).mono (R':=fun e w'=>e=.returned (.int .i64 (eK (aC f0 f1 i) k))/\FXn w w' bp b0 b1 v0 v1 (bN f0 f1 ((cN · k) (aC f0 f1 i)) i).1 (bN f0 f1 ((cN · k) (aC f0 f1 i)) i).2) (by
   rintro e w' ⟨rfl,v',a1,a2,a3,a4⟩
   exact ⟨rfl,h.put hi a1 a2 a3 a4 (yM h4) (aAO h5)⟩))
  generalize (bN f0 f1 ((cN · k) (aC f0 f1 i)) i)=ff at *
  generalize eK (aC f0 f1 i) k=z at *
  generalize aC 2 3 i=kk at *
  clear h h1 h2 h3 h4 h5
  go_enter func36,ntmps36
  go_wp2_with fail
  refine Calls.mono FT.out ?_
  rintro e w1 ⟨rfl,rfl⟩
  go_wp2_with fail
  refine Calls.mono TK.out ?_
  rintro e w1 ⟨rfl,q⟩
  go_wp2
  go_ret
  exact ⟨rfl,q⟩
 ·rw[if_neg hi,if_neg hi]
  have FT:=Hid.mk' (fT bp i w hi)
  have QQ:=Hid.mk' h.same
  clear h hi
  go_enter func36,ntmps36
  go_wp2_with fail
  refine Calls.mono FT.out ?_
  rintro e w1 ⟨rfl,rfl⟩
  go_wp2
  go_ret
  exact ⟨rfl,QQ.out⟩
theorem aAP (h:FX w bp b0 b1 v0 v1 f0 f1)(i k n:Int):
  Calls prog 37 #[.pointer (some ⟨bp,0,none⟩),.int .i64 i,.int .i64 k,.int .i64 n] w fun e w'=>e=.returned (.int .i64 (kP f0 f1 i k))/\FXn w w' bp b0 b1 v0 v1 (fH f0 f1 (dU · k n) i).1 (fH f0 f1 (dU · k n) i).2:=by
 unfold kP fH
 by_cases hi:aV i
 ·rw[if_pos hi,if_pos hi]
  obtain ⟨h1,h2,h3,h4,h5⟩:=h.at hi
  have FT:=Hid.mk' (fA bp b0 b1 v0 v1 i w h.at_ hi)
  have TK:=Hid.mk' ((aDa bp (aC 2 3 i) _ 0 (aC v0 v1 i) (aC f0 f1 i) k n w h.at_ h1 h2 h3 (fun t ht=>Nat.le_trans (h5 t ht) (by decide))).mono (R':=fun e w'=>e=.returned (.int .i64 (eK (aC f0 f1 i) k))/\FXn w w' bp b0 b1 v0 v1 (bN f0 f1 ((dU · k n) (aC f0 f1 i)) i).1 (bN f0 f1 ((dU · k n) (aC f0 f1 i)) i).2) (by
   rintro e w' ⟨rfl,v',a1,a2,a3,a4⟩
   exact ⟨rfl,h.put hi a1 a2 a3 a4 (sF h4) (tW h5)⟩))
  generalize (bN f0 f1 ((dU · k n) (aC f0 f1 i)) i)=ff at *
  generalize eK (aC f0 f1 i) k=z at *
  generalize aC 2 3 i=kk at *
  clear h h1 h2 h3 h4 h5
  go_enter func37,ntmps37
  go_wp2_with fail
  refine Calls.mono FT.out ?_
  rintro e w1 ⟨rfl,rfl⟩
  go_wp2_with fail
  refine Calls.mono TK.out ?_
  rintro e w1 ⟨rfl,q⟩
  go_wp2
  go_ret
  exact ⟨rfl,q⟩
 ·rw[if_neg hi,if_neg hi]
  have FT:=Hid.mk' (fT bp i w hi)
  have QQ:=Hid.mk' h.same
  clear h hi
  go_enter func37,ntmps37
  go_wp2_with fail
  refine Calls.mono FT.out ?_
  rintro e w1 ⟨rfl,rfl⟩
  go_wp2
  go_ret
  exact ⟨rfl,QQ.out⟩
def aFW (i:Int)(n:Nat):Int:=if aV i/\n<=100 then 0 else 2
def qC (f0 f1:List (List UInt8))(t:List UInt8)(i:Int):List (List UInt8)×List (List UInt8):=if aV i/\t.length<=100 then bN f0 f1 (dX (aC f0 f1 i) t) i else (f0,f1)
theorem yO (h:FX w bp b0 b1 v0 v1 f0 f1)(i:Int)(t:List UInt8):
  Calls prog 60 #[.pointer (some ⟨bp,0,none⟩),.int .i64 i,.string (S t)] w fun e w'=>e=.returned (.int .i64 (aFW i t.length))/\FXn w w' bp b0 b1 v0 v1 (qC f0 f1 t i).1 (qC f0 f1 t i).2:=by
 have zs:=aQ t
 unfold aFW qC
 by_cases hi:aV i
 ·have FT:=Hid.mk' (fA bp b0 b1 v0 v1 i w h.at_ hi)
  by_cases hl:t.length<=100
  ·rw[if_pos ⟨hi,hl⟩,if_pos ⟨hi,hl⟩]
   obtain ⟨h1,h2,h3,h4,h5⟩:=h.at hi
   have CL:=Hid.mk' (rK (S t) w (by omega))
   have PT:Hid (∀W,w.grownBy W none->Calls prog 71 #[.pointer (some ⟨bp,aC 2 3 i,none⟩),.string (S t)] W fun e w'=>e=.returned (.tuple #[])/\FXn w w' bp b0 b1 v0 v1 (bN f0 f1 (dX (aC f0 f1 i) t) i).1 (bN f0 f1 (dX (aC f0 f1 i) t) i).2):=Hid.mk' fun W gW=>by
    have hW:=h.grown gW
    obtain ⟨k1,k2,k3,k4,k5⟩:=hW.at hi
    refine (vB bp (aC 2 3 i) _ 0 (aC v0 v1 i) (aC f0 f1 i) t W hW.at_ k1 k2 k3 (Nat.zero_le _)).mono ?_
    rintro e w' ⟨rfl,v',a1,a2,a3,a4⟩
    obtain ⟨u0,u1,q1,q2,q3⟩:=hW.put hi a1 a2 a3 a4 (oQ k4) (qR k5 hl)
    refine ⟨rfl,u0,u1,q1,((Only.grown gW).mono (by simp)).trans (q2.mono (fun j _ e=>.inl e)),fun j hj=>?_⟩
    rcases q3 j hj with e | e
    ·exact .inl e
    ·exact .inr (Nat.le_trans gW.size e)
   generalize (bN f0 f1 (dX (aC f0 f1 i) t) i)=ff at *
   generalize aC 2 3 i=kk at *
   have hl':¬(100:Int)<(t.length:Int):=by omega
   clear h h1 h2 h3 h4 h5 hi
   go_enter func60,ntmps60
   go_wp2_with fail
   refine Calls.mono FT.out ?_
   rintro e w1 ⟨rfl,rfl⟩
   go_wp2_with fail
   refine Calls.mono CL.out ?_
   rintro e w1 ⟨rfl,g1⟩
   go_wp2_with fail
   refine Calls.mono (PT.out _ g1) ?_
   rintro e w1 ⟨rfl,q⟩
   go_wp2
   go_ret
   exact ⟨rfl,q⟩
  ·rw[if_neg (fun e=>hl e.2),if_neg (fun e=>hl e.2)]
   have QQ:=Hid.mk' h.same
   have hl':(100:Int)<(t.length:Int):=by omega
   generalize aC 2 3 i=kk at *
   clear h hi hl
   go_enter func60,ntmps60
   go_wp2_with fail
   refine Calls.mono FT.out ?_
   rintro e w1 ⟨rfl,rfl⟩
   go_wp2
   go_ret
   exact ⟨rfl,QQ.out⟩
 ·rw[if_neg (fun e=>hi e.1),if_neg (fun e=>hi e.1)]
  have FT:=Hid.mk' (fT bp i w hi)
  have QQ:=Hid.mk' h.same
  clear h hi
  go_enter func60,ntmps60
  go_wp2_with fail
  refine Calls.mono FT.out ?_
  rintro e w1 ⟨rfl,rfl⟩
  go_wp2
  go_ret
  exact ⟨rfl,QQ.out⟩
def flE (f0 f1:List (List UInt8))(i:Int):List (List UInt8):=if aV i then aC f0 f1 i else []
theorem yP (h:FX w bp b0 b1 v0 v1 f0 f1)(i:Int):
  Calls prog 114 #[.pointer (some ⟨bp,0,none⟩),.int .i64 i] w fun e w'=>∃v,e=.returned (.tuple #[v,.int .i64 (if aV i then 0 else 2)])/\OwnF w.heap.size w' v (flE f0 f1 i)/\(¬aV i->v=.slice none 0 0)/\w.grownBy w' none:=by
 unfold flE
 by_cases hi:aV i
 ·rw[if_pos hi,if_pos hi]
  obtain ⟨h1,h2,h3,h4,h5⟩:=h.at hi
  have FT:=Hid.mk' (fA bp b0 b1 v0 v1 i w h.at_ hi)
  have AL:=Hid.mk' (aDb bp (aC 2 3 i) 0 (aC v0 v1 i) ((aC f0 f1 i).map tx) w (h.at_.c _ _ h1) h2 (by simp;omega))
  have HI:=Hid.mk' hi
  generalize aC 2 3 i=kk at *
  generalize aC f0 f1 i=fs at *
  clear h h1 h2 h3 h4 h5 hi
  go_enter func114,ntmps114
  go_wp2_with fail
  refine Calls.mono FT.out ?_
  rintro e w1 ⟨rfl,rfl⟩
  go_wp2_with fail
  refine Calls.mono AL.out ?_
  rintro e w2 ⟨v2,rfl,o2,g2⟩
  obtain ⟨a2,c2,hv2⟩:=aJ o2
  rw[List.length_map] at hv2
  subst hv2
  go_wp2
  go_ret2
  exact ⟨_,rfl,o2,fun e=>absurd HI.out e,g2⟩
 ·rw[if_neg hi,if_neg hi]
  have FT:=Hid.mk' (fT bp i w hi)
  clear h hi
  go_enter func114,ntmps114
  go_wp2_with fail
  refine Calls.mono FT.out ?_
  rintro e w1 ⟨rfl,rfl⟩
  go_wp2
  go_ret2
  exact ⟨_,rfl,World.ownsRow_nil _ _ _ _,fun _=>rfl,aD _ _⟩
end
theorem sG {w W w':World}{v:Value}(h:w.grownBy W none)(g:W.grownBy w' v.ownBlock)(hv:∀j,v.ownBlock=some j->w.heap.size<=j):w.grownBy w' none:=
 ⟨g.os.trans h.os,g.tape.trans h.tape,g.output.trans h.output,Nat.le_trans h.size g.size,fun k hk _=>by rw[g.block k (Nat.lt_of_lt_of_le hk h.size) (fun e=>by have:=hv k e.symm;omega),h.block k hk (by simp)]⟩
def cX (e:En):Rc:=⟨7,e.sq,e.it,aZ,[],[]⟩
def gH (n:Int):Rc:=⟨8,n,bT,aZ,[],[]⟩
def dV (e:En):List UInt8:=enc (cX e)
def jN (n:Int):List UInt8:=enc (gH n)
theorem aHE (B b bd bm:Nat)(ov:Value)(s:Sh)(w:World)(h:HS w B b s bd bm ov)(h0:0<=s.ms.n)(h1:s.ms.n<=65535):
  Calls prog 162 #[.pointer (some ⟨b,0,none⟩)] w fun e w'=>e=.returned (.string (S (jN s.ms.n)))/\w.grownBy w' none:=by
 have c13:=h.at_.c 13 _ rfl
 have hm:aP (gH s.ms.n)=true:=by
  show (eE s.ms.n&&jM bT&&eU (gH s.ms.n))=true
  have:eE s.ms.n=true:=by simp[eE];omega
  rw[this];rfl
 have E:=Hid.mk' (lR (gH s.ms.n) (.slice none 0 0) (.slice none 0 0) w ⟨none,0,rfl,by simp[gH]⟩ ⟨none,0,rfl,by simp[gH]⟩ hm ⟨⟨by show (0:Nat)<_;decide,by show (0:Nat)<_;decide⟩,by simp[gH],by simp[gH]⟩)
 unfold jN
 generalize enc (gH s.ms.n)=T at *
 unfold rv gH bT aZ at E
 clear h hm
 go_enter func162,ntmps162
 go_wp2_with fail
 refine Calls.mono E.out ?_
 rintro e w1 ⟨rfl,g1⟩
 go_wp2
 go_ret
 exact ⟨rfl,g1⟩
theorem aDs (e:En)(w:World)(hm:aP (cX e)=true)(wf:WfIt e.it):
  Calls prog 126 #[.agg #[.int .i64 7,.int .i64 e.sq,.int .i64 e.it.sh,.int .i64 e.it.nu,.float .f32 e.it.pl,.float .f32 e.it.sp,.int .i64 0,.int .i64 0,.int .i64 0,.int .i64 0,.int .i64 0,.slice none 0 0,.slice none 0 0]] w fun e' w'=>e'=.returned (.string (S (dV e)))/\w.grownBy w' none:=
 lR (cX e) (.slice none 0 0) (.slice none 0 0) w ⟨none,0,rfl,by simp[cX]⟩ ⟨none,0,rfl,by simp[cX]⟩ hm ⟨wf,by simp[cX],by simp[cX]⟩
theorem yQ (B b bd bm:Nat)(ov:Value)(s:Sh)(w:World)(h:HS w B b s bd bm ov)(hl:s.ob.length<=1000)(hm:∀e∈s.ob,aP (cX e)=true/\WfIt e.it):
  Calls prog 69 #[.pointer (some ⟨b,0,none⟩)] w fun e w'=>∃v,e=.returned v/\OwnF w.heap.size w' v (s.ob.map dV)/\w.grownBy w' none:=by
 obtain ⟨ao,co,hov⟩:=aJ h.ob
 subst hov
 have c8:=h.at_.c 8 _ rfl
 have HO:=Hid.mk' h.ob
 have HM:=Hid.mk' hm
 have hsf:=aK
 clear h hm
 generalize s.ob=es at *
 obtain ⟨n,hnn⟩:∃n,es.length=n:=⟨_,rfl⟩
 have HNN:=Hid.mk' hnn
 rw[hnn] at hl c8 HO
 clear hnn
 go_enter func69,ntmps69
 go_wp2_with fail
 go_loopw [3,12] (fun c t wr=>∃k:Nat,k<=n/\t=.int .i64 k/\OwnF w.heap.size wr c ((es.take k).map dV)/\w.grownBy wr none) (fun _ t _=>n -(intOf t).toNat)
 case atStart=>exact ⟨0,by omega,rfl,World.ownsRow_nil _ _ _ _,aD _ _⟩
 case round=>
  obtain ⟨k,hk,rfl,hc,hg⟩:=hrel
  have HC:=Hid.mk' hc
  have HG:=Hid.mk' hg
  clear hc hg
  by_cases hlt:k<n
  ·have hkl:k<es.length:=by rw[HNN.out];exact hlt
   obtain ⟨g,rfl⟩:∃g,ao=some ⟨g,0,none⟩:=by
    rcases HO.out.2 with ⟨h',hn0⟩ | ⟨g,cap,cur,h',_⟩
    ·have:=HNN.out;omega
    ·injection h' with h1 h2 h3
     exact ⟨g,h1⟩
   obtain ⟨x,hx⟩:∃x,es[k]=x:=⟨_,rfl⟩
   have HO':w.ownsRow B 87 5 (.slice (some ⟨g,0,none⟩) n co) n (es.flatMap En.cells):=by
    have:=HO.out
    unfold OwnE at this
    rw[HNN.out] at this
    exact this
   have d:∀j (hj:j<5) u,x.cells[j]?=some u->wr.cell? ⟨g,k * 5+j,none⟩=some u:=fun j hj u hu=>by
    refine HG.out.cell ((HO'.cellAt (k * 5+j) (by omega)).trans ?_) (by simp)
    rw[Nat.mul_comm k 5,dY es k j hkl hj,hx]
    exact hu
   have d0:=d 0 (by omega) _ rfl
   have d1:=d 1 (by omega) _ rfl
   have d2:=d 2 (by omega) _ rfl
   have d3:=d 3 (by omega) _ rfl
   have d4:=d 4 (by omega) _ rfl
   have hxm:x∈es:=by rw[<- hx];exact List.getElem_mem hkl
   have hw:=HM.out x hxm
   have htk:es.take (k+1)=es.take k++[x]:=by rw[List.take_succ_eq_append_getElem hkl,hx]
   have HTK:=Hid.mk' htk
   have CE:=Hid.mk' fun W=>aDs x W hw.1 hw.2
   have LK:Hid (((es.take k).map dV).length=k):=by show _=_;rw[List.length_map,List.length_take];omega
   clear d hx hxm htk hw HO'
   rw[Nat.add_zero] at d0
   have y0:(0:Int)<=(k:Int):=by omega
   have y1:(k:Int)<(n:Int):=by omega
   obtain ⟨T,hT⟩:∃T,dV x=T:=⟨_,rfl⟩
   rw[hT] at CE
   have HT:=Hid.mk' hT
   clear hT
   go_wp2_with fail
   refine Calls.mono (CE.out _) ?_
   rintro e w2 ⟨rfl,g2⟩
   have G2:=Hid.mk' ((World.grownBy_alloc wr _ none).trans g2)
   have O2:Hid (∀o,OwnT w.heap.size (w2.alloc o) u3 (((es.take k).map dV).map tx)):=Hid.mk' fun o=>World.ownsRow.alloc (aO HC.out G2.out) o
   have z2:=(HG.out.trans G2.out).size
   have L2:Hid ((((es.take k).map dV).map tx).length+1<=1000000):=by show _<=_;rw[List.length_map,LK.out];omega
   clear g2
   go_wp2_with (at_builtin;refine vA rfl _ _ rfl w.heap.size u3 (((es.take k).map dV).map tx) rfl (O2.out _) ⟨w2.heap.size,0,none⟩ (tx T) rfl (aW w2 (tx T).cells _ _ rfl) L2.out (by simp;omega) ?_;intro v3 w3 r3 g3 h3;obtain ⟨a3,c3,hv3⟩:=aJ r3;rw[List.length_append,List.length_map,LK.out] at hv3;subst hv3)
   refine ⟨⟨k+1,by omega,by go_num,?_,?_⟩,by simp[intOf];omega⟩
   ·unfold OwnF
    rw[HTK.out,List.map_append,List.map_append]
    simpa [HT.out] using r3
   ·exact sG (HG.out.trans (G2.out.trans (World.grownBy_alloc w2 _ none))) g3 (fun j hj=>(HC.out.lt j hj).1)
  ·obtain rfl:k=n:=by omega
   have y1:¬(k:Int)<(k:Int):=by omega
   go_wp2
   go_ret
   refine ⟨_,rfl,?_,HG.out⟩
   have:=HC.out
   rw[List.take_of_length_le (by rw[HNN.out];omega)] at this
   exact this
theorem FXn.trans {w W w':World}{bp b0 b1:Nat}{v0 v1 u0 u1:Value}{f0 f1:List (List UInt8)}(o:Only w W (fxF bp v0 v1))(hb:∀j,fxF bp u0 u1 j->fxF bp v0 v1 j∨w.heap.size<=j)(h:FXn W w' bp b0 b1 u0 u1 f0 f1):FXn w w' bp b0 b1 v0 v1 f0 f1:=by
 obtain ⟨x0,x1,h1,h2,h3⟩:=h
 refine ⟨x0,x1,h1,o.trans (h2.mono (fun j _ e=>hb j e)),fun j hj=>?_⟩
 rcases h3 j hj with e | e
 ·exact hb j e
 ·exact .inr (Nat.le_trans o.size e)
theorem FXn.grown {w W w':World}{bp b0 b1:Nat}{v0 v1:Value}{f0 f1:List (List UInt8)}(g:w.grownBy W none)(h:FXn W w' bp b0 b1 v0 v1 f0 f1):FXn w w' bp b0 b1 v0 v1 f0 f1:=
 FXn.trans ((Only.grown g).mono (by simp)) (fun _ hj=>.inl hj) h
theorem aAQ (b:Nat)(s:Sh)(F:Nat->Prop)(w:World)(h:PS w b s F)(hu:s.up=true)(hl:s.ob.length<=1000)(hm:∀e∈s.ob,aP (cX e)=true/\WfIt e.it):
  Calls prog 69 #[.pointer (some ⟨b,0,none⟩)] w fun e w'=>∃v,e=.returned v/\OwnF w.heap.size w' v (s.ob.map dV)/\w.grownBy w' none:=by
 obtain ⟨bd,⟨_,B,bm,ov,p⟩ | ⟨hu',_⟩⟩:=h
 ·exact yQ B b bd bm ov s w p.su.hs hl hm
 ·rw[hu] at hu';cases hu'
def tX (f0 f1:List (List UInt8))(es:List En)(i:Int):List (List UInt8)×List (List UInt8):=bN f0 f1 ((es.map dV).foldl dX (aC f0 f1 (1 -i))) (1 -i)
theorem gS {i:Int}(h:aV i):aV (1 -i):=by
 rcases h with rfl | rfl
 ·exact .inr rfl
 ·exact .inl rfl
theorem sH {i:Int}(h:aV i):(aC 3 2 i:Nat)=aC 2 3 (1 -i):=by
 rcases h with rfl | rfl<;>rfl
theorem tY {α:Type}(f0 f1 x y:α)(i:Int):bN (bN f0 f1 x i).1 (bN f0 f1 x i).2 y i=bN f0 f1 y i:=by
 unfold bN
 split<;>rfl
theorem sI {α:Type}(f0 f1 x:α)(i:Int):aC (bN f0 f1 x i).1 (bN f0 f1 x i).2 i=x:=by
 unfold bN aC
 split<;>rfl
theorem kV {α:Type}(f0 f1:α){i:Int}(h:aV i):bN f0 f1 (aC f0 f1 i) i=(f0,f1):=by
 rcases h with rfl | rfl<;>rfl
theorem aFX {w:World}{bp b0 b1:Nat}{v0 v1:Value}{f0 f1:List (List UInt8)}(h:FX w bp b0 b1 v0 v1 f0 f1){i:Int}(hi:aV i)(t:List UInt8)(ht:t.length<=100):
  Calls prog 71 #[.pointer (some ⟨bp,aC 2 3 i,none⟩),.string (S t)] w fun e w'=>e=.returned (.tuple #[])/\FXn w w' bp b0 b1 v0 v1 (bN f0 f1 (dX (aC f0 f1 i) t) i).1 (bN f0 f1 (dX (aC f0 f1 i) t) i).2:=by
 obtain ⟨k1,k2,k3,k4,k5⟩:=h.at hi
 refine (vB bp (aC 2 3 i) _ 0 (aC v0 v1 i) (aC f0 f1 i) t w h.at_ k1 k2 k3 (Nat.zero_le _)).mono ?_
 rintro e w' ⟨rfl,v',a1,a2,a3,a4⟩
 exact ⟨rfl,h.put hi a1 a2 a3 a4 (oQ k4) (qR k5 ht)⟩
theorem aBS (bp b0 b1:Nat)(v0 v1:Value)(u0 u1:Bool)(f0 f1:List (List UInt8))(i:Int)(ts:List (List UInt8))(w:World)(h:FX w bp b0 b1 v0 v1 f0 f1)(h0:Calls prog 74 #[.pointer (some ⟨b0,0,none⟩)] w fun e w'=>e=.returned (.bool u0)/\w'=w)(h1:Calls prog 74 #[.pointer (some ⟨b1,0,none⟩)] w fun e w'=>e=.returned (.bool u1)/\w'=w)
  (hc:upE u0 u1 i=0->Calls prog 69 #[.pointer (some ⟨aC b0 b1 i,0,none⟩)] w fun e w'=>∃v,e=.returned v/\OwnF w.heap.size w' v ts/\w.grownBy w' none) (hl:ts.length<=1000) (ht:∀t∈ts,t.length<=100):
  Calls prog 29 #[.pointer (some ⟨bp,0,none⟩),.int .i64 i] w fun e w'=>e=.returned (.int .i64 (upE u0 u1 i))/\(upE u0 u1 i≠0->w'=w)/\(upE u0 u1 i=0->FXn w w' bp b0 b1 v0 v1 (bN f0 f1 (ts.foldl dX (aC f0 f1 (1 -i))) (1 -i)).1 (bN f0 f1 (ts.foldl dX (aC f0 f1 (1 -i))) (1 -i)).2):=by
 have U:=Hid.mk' (fY bp b0 b1 v0 v1 u0 u1 i w h.at_ h0 h1)
 have H:=Hid.mk' h
 clear h h0 h1
 by_cases c:upE u0 u1 i=0
 ·have hi:aV i:=by
   unfold upE at c
   by_cases hi:aV i
   ·exact hi
   ·rw[if_neg hi] at c;cases c
  have HI:=Hid.mk' hi
  have CR:=Hid.mk' (hc c)
  rw[c,if_pos rfl] at U
  have C:=Hid.mk' c
  have HT:=Hid.mk' ht
  have FF:=Hid.mk' fun W=>mA bp i W hi
  rw[sH hi] at FF
  clear hc c hi ht
  go_enter func29,ntmps29
  go_wp2_with fail
  refine Calls.mono U.out ?_
  rintro e w0 ⟨rfl,rfl⟩
  go_wp2_with fail
  refine Calls.mono CR.out ?_
  rintro e w1 ⟨v,rfl,ov,g1⟩
  obtain ⟨a,cc,hv⟩:=aJ ov
  rw[List.length_map] at hv
  subst hv
  obtain ⟨n,hnn⟩:∃n,ts.length=n:=⟨_,rfl⟩
  have HN:=Hid.mk' hnn
  have OV:=Hid.mk' ov
  have G1:=Hid.mk' g1
  rw[hnn] at hl ⊢
  clear g1 ov hnn
  go_wp2_with fail
  go_loopw [21] (fun t wr=>∃k:Nat,k<=n/\t=.int .i64 k/\FXn w1 wr bp b0 b1 v0 v1 (bN f0 f1 ((ts.take k).foldl dX (aC f0 f1 (1 -i))) (1 -i)).1 (bN f0 f1 ((ts.take k).foldl dX (aC f0 f1 (1 -i))) (1 -i)).2) (fun t _=>n -(intOf t).toNat)
  case atStart=>
   refine ⟨0,by omega,rfl,?_⟩
   have:=(H.out.grown G1.out).same
   rw[List.take_zero,List.foldl_nil,kV _ _ (gS HI.out)]
   exact this
  case round=>
   obtain ⟨k,hk,rfl,hf⟩:=hrel
   have HF:=Hid.mk' hf
   clear hf
   by_cases hlt:k<n
   ·have hkl:k<ts.length:=by rw[HN.out];exact hlt
    obtain ⟨x0,x1,f1',f2',f3'⟩:=HF.out
    have ov:OwnF w0.heap.size wr (.slice a ts.length cc) ts:=f2'.own OV.out (fun j hj e=>by
     have:=(OV.out.lt j hj).1
     have:=H.out.lt e
     omega)
    obtain ⟨g,c',hv',hcell,_⟩:=ov.cell hkl
    rw[HN.out] at hv'
    injection hv' with ha _ hcc
    subst ha hcc
    obtain ⟨t,ht⟩:∃t,ts.getD k []=t:=⟨_,rfl⟩
    rw[ht] at hcell
    have htm:t∈ts:=by rw[<- ht,List.getD_eq_getElem?_getD,List.getElem?_eq_getElem hkl];exact List.getElem_mem hkl
    have PT:=Hid.mk' (aFX f1' (gS HI.out) t (HT.out t htm))
    rw[sI,tY] at PT
    have TK:Hid ((ts.take (k+1)).foldl dX (aC f0 f1 (1 -i))=dX ((ts.take k).foldl dX (aC f0 f1 (1 -i))) t):=by
     show _=_
     rw[List.take_succ_eq_append_getElem hkl,List.foldl_append,<- ht,List.getD_eq_getElem?_getD,List.getElem?_eq_getElem hkl]
     rfl
    have O2:=Hid.mk' f2'
    have B2:=Hid.mk' f3'
    clear f1' f2' f3' ov ht htm HF
    generalize aC 2 3 (1 -i)=kk at *
    have y0:(0:Int)<=(k:Int):=by omega
    have y1:(k:Int)<(n:Int):=by omega
    go_wp2_with fail
    refine Calls.mono (FF.out _) ?_
    rintro e w2 ⟨rfl,rfl⟩
    go_wp2_with fail
    refine Calls.mono PT.out ?_
    rintro e w3 ⟨rfl,q3⟩
    go_wp2
    exact ⟨⟨k+1,by omega,by go_num,by rw[TK.out];exact FXn.trans O2.out B2.out q3⟩,by simp[intOf];omega⟩
   ·obtain rfl:k=n:=by omega
    have y1:¬(k:Int)<(k:Int):=by omega
    go_wp2
    go_ret
    refine ⟨by rw[C.out];rfl,fun e=>absurd C.out e,fun _=>?_⟩
    have:=HF.out
    rw[List.take_of_length_le (by rw[HN.out];omega)] at this
    exact FXn.grown G1.out this
 ·rw[if_neg c] at U
  have cb:(upE u0 u1 i !=0)=true:=by simpa using c
  have C:=Hid.mk' c
  generalize upE u0 u1 i=z at *
  clear hc c
  go_enter func29,ntmps29
  go_wp2_with fail
  refine Calls.mono U.out ?_
  rintro e w1 ⟨rfl,rfl⟩
  go_wp2
  go_ret
  exact ⟨rfl,fun _=>rfl,fun e=>absurd e C.out⟩
theorem yR (B b bd bm:Nat)(ov:Value)(s:Sh)(w:World)(h:HS w B b s bd bm ov):
  Calls prog 148 #[.pointer (some ⟨b,0,none⟩)] w fun e w'=>e=.returned (.bool (decide (s.cI<=(s.th.length:Int))))/\w'=w.drewN 1:=by
 have c7:=h.at_.c 7 _ rfl
 have c1:=h.at_.c 1 _ rfl
 have hlen:=h.mp.drew.len_run 3
 clear h
 go_enter func148,ntmps148
 go_wp2_with fail
 go_region
 all_goals
  go_wp2
  go_ret
  exact ⟨rfl,rfl⟩
def Sh.mayArr (s:Sh)(i:It):Bool:=decide (cK i.pl=(s.no:Int))&& !(decide (i.sh=(s.no:Int))&&decide (s.ms.m<i.nu))&& !cM s.th i.sh i.nu&& !decide (s.cI<=(s.th.length:Int))
theorem tD (B b bd bm:Nat)(ov:Value)(s:Sh)(i:It)(w:World)(h:HS w B b s bd bm ov)(hx:bD i.sh)(hy:bD i.nu):
  Calls prog 163 #[.pointer (some ⟨b,0,none⟩),kD i] w fun e w'=>e=.returned (.bool (s.mayArr i))/\w.grownBy w' none:=by
 have hsf:=aK
 have H:=Hid.mk' h
 have g0:=aA (World.grownBy_alloc w (.cells #[.int .i64 i.sh,.int .i64 i.nu,.float .f32 i.pl,.float .f32 i.sp] 75) none)
 have H0:=Hid.mk' (h.grown g0)
 have A0:=Hid.mk' (At.new w [.int .i64 i.sh,.int .i64 i.nu,.float .f32 i.pl,.float .f32 i.sp] 75).drew
 have G0:=Hid.mk' g0
 have z0:(w.alloc (.cells #[.int .i64 i.sh,.int .i64 i.nu,.float .f32 i.pl,.float .f32 i.sp] 75)).drew.heap.size=w.heap.size+1:=by simp
 have bl:=H0.out.at_.lt
 have ml:=H0.out.mp.lt
 clear h g0
 unfold kD
 go_enter func163,ntmps163
 go_wp2_with fail
 refine wp_region_held_drew (S:=fun w'=>At w' b (s.cells bd (.map (some bm)) ov)/\At w' w.heap.size [.int .i64 i.sh,.int .i64 i.nu,.float .f32 i.pl,.float .f32 i.sp]/\Mp w' bm s.th) (by kernel_rfl) (⟨H0.out.at_,A0.out,H0.out.mp⟩) (fun hHeld=>?_)
 refine dG 0 rfl (by intro w hSw;go_simp;try with_reducible rfl) ?_
 simp only[aF]
 refine dG 1 rfl (by intro w hSw;go_simp;try with_reducible rfl) ?_
 simp only[aF]
 refine dG 2 rfl (by intro w hSw;go_simp;try with_reducible rfl) ?_
 simp only[aF]
 refine dG 3 rfl (by intro w hSw;go_simp;try with_reducible rfl) ?_
 simp only[aF]
 refine bV 4 (fun _ h=>h.1.c 7 _ rfl) ?_
 simp only[aF]
 refine dG 5 rfl (by intro w hSw;go_simp;try with_reducible rfl) ?_
 simp only[aF]
 refine dG 6 rfl (by intro w hSw;have S0:=hSw.2.1.c 0 _ rfl;have S1:=hSw.2.1.c 1 _ rfl;go_simp;try with_reducible rfl) ?_
 simp only[aF]
 refine dG 7 rfl (by intro w hSw;have L:=hSw.2.2.look4 i.sh i.nu hx hy;unfold mW kD at L;go_simp;try with_reducible rfl) ?_
 simp only[aF]
 refine dG 8 rfl (by intro w hSw;go_simp;try with_reducible rfl) ?_
 simp only[aF]
 refine dG 9 rfl (by intro w hSw;go_simp;try with_reducible rfl) ?_
 simp only[aF]
 refine dG 10 rfl (by intro w hSw;go_simp;try with_reducible rfl) ?_
 simp only[aF]
 have g1:=World.grownBy_alloc (w.alloc (.cells #[.int .i64 i.sh,.int .i64 i.nu,.float .f32 i.pl,.float .f32 i.sp] 75)).drew (.cells #[.int .i64 0,.int .i64 0,.float .f32 0,.float .f32 0] 75) none
 have g2:=aA (World.grownBy_alloc (w.alloc (.cells #[.int .i64 i.sh,.int .i64 i.nu,.float .f32 i.pl,.float .f32 i.sp] 75)) (.cells #[.int .i64 (gG s.th i.sh i.nu).sh,.int .i64 (gG s.th i.sh i.nu).nu,.float .f32 (gG s.th i.sh i.nu).pl,.float .f32 (gG s.th i.sh i.nu).sp] 75) none)
 have H1:=Hid.mk' (H0.out.grown g1)
 have A1:=Hid.mk' (A0.out.grown g1)
 have A2:=Hid.mk' ((At.new w [.int .i64 i.sh,.int .i64 i.nu,.float .f32 i.pl,.float .f32 i.sp] 75).grown g2)
 have H2:=Hid.mk' ((H.out.grown (World.grownBy_alloc w (.cells #[.int .i64 i.sh,.int .i64 i.nu,.float .f32 i.pl,.float .f32 i.sp] 75) none)).grown g2)
 have G2:=Hid.mk' ((World.grownBy_alloc w (.cells #[.int .i64 i.sh,.int .i64 i.nu,.float .f32 i.pl,.float .f32 i.sp] 75) none).trans g2)
 refine fV 11 (by kernel_rfl) (by rfl) (by rfl) ?_
 intro K hK
 go_simp
 refine hK _ _ ⟨H1.out.at_,A1.out,H1.out.mp⟩ ?_
 clear hK K
 refine fV 12 (by kernel_rfl) (by rfl) (by rfl) ?_
 intro K hK
 go_simp
 clear hHeld
 have hHeld:=And.intro H2.out.at_ (And.intro A2.out H2.out.mp)
 refine hK _ _ hHeld ?_
 clear hK K
 refine aN 13 ?_
 simp only[aF]
 refine wpAnyH_done (by kernel_rfl) ?_ _
 have x0:=A2.out.c 0 _ rfl
 have x1:=A2.out.c 1 _ rfl
 have x2:=A2.out.c 2 _ rfl
 have k0:=H2.out.at_.c 0 _ rfl
 have k10:=H2.out.at_.c 10 _ rfl
 clear H0 A0 H1 A1 g1 g2 hHeld G0 z0
 generalize ((w.alloc (.cells #[.int .i64 i.sh,.int .i64 i.nu,.float .f32 i.pl,.float .f32 i.sp] 75)).alloc (.cells #[.int .i64 (gG s.th i.sh i.nu).sh,.int .i64 (gG s.th i.sh i.nu).nu,.float .f32 (gG s.th i.sh i.nu).pl,.float .f32 (gG s.th i.sh i.nu).sp] 75)).drew=W at *
 obtain ⟨tt,hT⟩:∃t,cM s.th i.sh i.nu=t:=⟨_,rfl⟩
 rw[hT]
 have HT:=Hid.mk' hT
 clear hT
 have FU:Hid (∀a k,Calls prog 148 #[.pointer (some ⟨b,0,none⟩)] (W.drewN (a+k)) fun e w'=>e=.returned (.bool (decide (s.cI<=(s.th.length:Int))))/\∃q,w'=W.drewN (a+q)):=Hid.mk' fun a k=>(yR B b bd bm ov s _ (H2.out.grown (aL (aD W none) (a+k)))).mono (fun _ _ h=>⟨h.1,k+1,h.2⟩)
 obtain ⟨fu,hF⟩:∃t,decide (s.cI<=(s.th.length:Int))=t:=⟨_,rfl⟩
 rw[hF] at FU
 have HF:=Hid.mk' hF
 clear hF
 obtain ⟨sd,hS⟩:∃t,cK i.pl=t:=⟨_,rfl⟩
 have SD:=Hid.mk' fun W=>iA i.pl W
 rw[hS] at SD
 have HS':=Hid.mk' hS
 clear hS
 have GQ:Hid (∀a k,w.grownBy ((W.drewN a).drewN k) none):=Hid.mk' fun a k=>aL (aL G2.out a) k
 have FIN:Hid (∀uu,uu=(decide (i.sh=(s.no:Int))&&decide (s.ms.m<i.nu))->s.mayArr i=(decide (sd=(s.no:Int))&& !uu&& !tt&& !fu)):=Hid.mk' fun uu hu=>by
  unfold Sh.mayArr
  rw[HS'.out,HT.out,HF.out,hu]
 clear H2 G2 H
 by_cases hs:i.sh=(s.no:Int)
 ·have bs:(i.sh==(s.no:Int))=true:=by simpa using hs
  by_cases hm:s.ms.m<i.nu
  ·have dm:decide (s.ms.m<i.nu)=true:=decide_eq_true hm
   have UU:Hid (true=(decide (i.sh=(s.no:Int))&&decide (s.ms.m<i.nu))):=by show _=_;rw[decide_eq_true hs,decide_eq_true hm];rfl
   go_wp2_with fail
   go_quiet (fail)
   go_wp2_with fail
   by_cases ha:sd=(s.no:Int)
   ·have ba:(sd==(s.no:Int))=true:=by simpa using ha
    go_quiet (first | exact (SD.out _).mono (fun _ _ h=>⟨h.1,_,h.2⟩) | exact (FU.out _ _).mono (fun _ _ h=>⟨h.1,h.2⟩))
    go_wp2
    go_ret
    exact ⟨by rw[FIN.out true UU.out,decide_eq_true ha];rfl,GQ.out _ _⟩
   ·have ba:(sd==(s.no:Int))=false:=by simpa using ha
    go_quiet (first | exact (SD.out _).mono (fun _ _ h=>⟨h.1,_,h.2⟩) | exact (FU.out _ _).mono (fun _ _ h=>⟨h.1,h.2⟩))
    go_wp2
    go_ret
    exact ⟨by rw[FIN.out true UU.out,decide_eq_false ha];rfl,GQ.out _ _⟩
  ·have dm:decide (s.ms.m<i.nu)=false:=decide_eq_false hm
   have UU:Hid (false=(decide (i.sh=(s.no:Int))&&decide (s.ms.m<i.nu))):=by show _=_;rw[decide_eq_true hs,decide_eq_false hm];rfl
   go_wp2_with fail
   go_quiet (fail)
   go_wp2_with fail
   by_cases ha:sd=(s.no:Int)
   ·have ba:(sd==(s.no:Int))=true:=by simpa using ha
    cases tt
    ·go_quiet (first | exact (SD.out _).mono (fun _ _ h=>⟨h.1,_,h.2⟩) | exact (FU.out _ _).mono (fun _ _ h=>⟨h.1,h.2⟩))
     go_wp2
     go_ret
     exact ⟨by rw[FIN.out false UU.out,decide_eq_true ha];cases fu<;>rfl,GQ.out _ _⟩
    ·go_quiet (first | exact (SD.out _).mono (fun _ _ h=>⟨h.1,_,h.2⟩) | exact (FU.out _ _).mono (fun _ _ h=>⟨h.1,h.2⟩))
     go_wp2
     go_ret
     exact ⟨by rw[FIN.out false UU.out,decide_eq_true ha];rfl,GQ.out _ _⟩
   ·have ba:(sd==(s.no:Int))=false:=by simpa using ha
    go_quiet (first | exact (SD.out _).mono (fun _ _ h=>⟨h.1,_,h.2⟩) | exact (FU.out _ _).mono (fun _ _ h=>⟨h.1,h.2⟩))
    go_wp2
    go_ret
    exact ⟨by rw[FIN.out false UU.out,decide_eq_false ha];rfl,GQ.out _ _⟩
 ·have bs:(i.sh==(s.no:Int))=false:=by simpa using hs
  have UU:Hid (false=(decide (i.sh=(s.no:Int))&&decide (s.ms.m<i.nu))):=by show _=_;rw[decide_eq_false hs];rfl
  go_wp2_with fail
  go_quiet (fail)
  go_wp2_with fail
  by_cases ha:sd=(s.no:Int)
  ·have ba:(sd==(s.no:Int))=true:=by simpa using ha
   cases tt
   ·go_quiet (first | exact (SD.out _).mono (fun _ _ h=>⟨h.1,_,h.2⟩) | exact (FU.out _ _).mono (fun _ _ h=>⟨h.1,h.2⟩))
    go_wp2
    go_ret
    exact ⟨by rw[FIN.out false UU.out,decide_eq_true ha];cases fu<;>rfl,GQ.out _ _⟩
   ·go_quiet (first | exact (SD.out _).mono (fun _ _ h=>⟨h.1,_,h.2⟩) | exact (FU.out _ _).mono (fun _ _ h=>⟨h.1,h.2⟩))
    go_wp2
    go_ret
    exact ⟨by rw[FIN.out false UU.out,decide_eq_true ha];rfl,GQ.out _ _⟩
  ·have ba:(sd==(s.no:Int))=false:=by simpa using ha
   go_quiet (first | exact (SD.out _).mono (fun _ _ h=>⟨h.1,_,h.2⟩) | exact (FU.out _ _).mono (fun _ _ h=>⟨h.1,h.2⟩))
   go_wp2
   go_ret
   exact ⟨by rw[FIN.out false UU.out,decide_eq_false ha];rfl,GQ.out _ _⟩
def cF (l:List UInt8):Rc:=if cV l=true then iC l else ⟨0,0,bT,aZ,[],[]⟩
theorem vX {w w':World}{l:List UInt8}{e:Ending}(h:dF w l e w'):w.grownBy w' none/\∃ai ni ci ao no co z,e=.returned (.tuple #[rv (cF l).kind (cF l).seq (cF l).it (cF l).mks (.slice ai ni ci) (.slice ao no co),.int .i64 z]):=by
 obtain ⟨g,hx⟩:=h
 refine ⟨g,?_⟩
 unfold cF
 rcases hx with ⟨h0,rfl⟩ | ⟨h1,vi,vo,rfl,oi,oo,ap⟩
 ·rw[h0]
  exact ⟨none,0,0,none,0,0,_,rfl⟩
 ·rw[h1]
  obtain ⟨ai,ci,rfl⟩:=aJ oi
  obtain ⟨ao,co,rfl⟩:=aJ oo
  exact ⟨ai,_,ci,ao,_,co,_,rfl⟩
def Sh.hearAck (s:Sh)(q:Int):Int×Sh:=if q<=s.ms.a∨s.ms.s<q then (0,s) else s.jrn ⟨5,q,bT,aZ,[],[]⟩
def Sh.hearCross (s:Sh)(q:Int)(i:It):(Int×List UInt8)×Sh:=
 if q<=s.ms.n then ((0,jN s.ms.n),s)
 else if s.ms.n+1<q∨s.mayArr i=false then ((0,[]),s)
 else if (s.jrn ⟨4,q,i,aZ,[],[]⟩).1=0 then ((0,jN (s.jrn ⟨4,q,i,aZ,[],[]⟩).2.ms.n),(s.jrn ⟨4,q,i,aZ,[],[]⟩).2)
 else (((s.jrn ⟨4,q,i,aZ,[],[]⟩).1,[]),(s.jrn ⟨4,q,i,aZ,[],[]⟩).2)
def Sh.hear (s:Sh)(l:List UInt8):(Int×List UInt8)×Sh:=
 if (cF l).kind=7 then s.hearCross (cF l).seq (cF l).it
 else if (cF l).kind=8 then (((s.hearAck (cF l).seq).1,[]),(s.hearAck (cF l).seq).2)
 else ((0,[]),s)
theorem aAR (b:Nat)(s:Sh)(F:Nat->Prop)(q:Int)(w:World)(h:PS w b s F)(hu:s.up=true)(hct:s.ct<2)(hcj:s.cJ<=5000)(ho:s.ob.length<=1000)(q0:0<=q)(q1:q<=65535):
  Calls prog 131 #[.pointer (some ⟨b,0,none⟩),.int .i64 q] w fun e w'=>e=.returned (.int .i64 (s.hearAck q).1)/\PS w' b (s.hearAck q).2 (NX w w' F)/\Only w w' F:=by
 have J:=Hid.mk' (jJ b s F ⟨5,q,bT,aZ,[],[]⟩ w h hu ⟨rfl,rfl⟩ (by
   show (eE q&&jM bT&&eU ⟨5,q,bT,aZ,[],[]⟩)=true
   have:eE q=true:=by simp[eE];omega
   rw[this];rfl) ⟨⟨by show (0:Nat)<_;decide,by show (0:Nat)<_;decide⟩,by simp,by simp⟩ hct hcj ⟨.inr (.inr (.inr (.inr rfl))),by unfold bD bT;simp,by simp,fun _=>ho⟩)
 unfold rv bT aZ at J
 have P0:Hid (PS w b s (NX w w F)):=h.grown (aD _ _)
 obtain ⟨bd,⟨_,B,bm,ov,p⟩ | ⟨hu',_⟩⟩:=h
 case inr=>rw[hu] at hu';cases hu'
 have c12:=p.su.hs.at_.c 12 _ rfl
 have c11:=p.su.hs.at_.c 11 _ rfl
 clear p
 unfold Sh.hearAck bT aZ
 by_cases h1:q<=s.ms.a
 ·rw[if_pos (.inl h1)]
  clear J
  go_enter func131,ntmps131
  go_wp2
  go_ret
  exact ⟨rfl,P0.out,Only.refl _ _⟩
 ·by_cases h2:s.ms.s<q
  ·rw[if_pos (.inr h2)]
   clear J
   go_enter func131,ntmps131
   go_wp2
   go_ret
   exact ⟨rfl,P0.out,Only.refl _ _⟩
  ·rw[if_neg (by omega)]
   clear P0
   go_enter func131,ntmps131
   go_wp2_with fail
   refine Calls.mono J.out ?_
   rintro e w1 ⟨rfl,h1,h2⟩
   go_wp2
   go_ret
   exact ⟨rfl,h1,h2⟩
theorem aJc {s:Sh}{r:Rc}(h:(s.jrn r).1=0):(s.jrn r).2.up=s.up:=by
 unfold Sh.jrn at *
 split at h
 ·cases h
 split at h
 ·cases h
 split at h
 ·cases h
 ·rename_i c1 c2 c3
  rw[if_neg c1,if_neg c2,if_neg c3]
  exact (sC _ _).1
theorem aFY (b:Nat)(s:Sh)(F:Nat->Prop)(w:World)(h:PS w b s F)(hu:s.up=true)(h0:0<=s.ms.n)(h1:s.ms.n<=65535):
  Calls prog 162 #[.pointer (some ⟨b,0,none⟩)] w fun e w'=>e=.returned (.string (S (jN s.ms.n)))/\w.grownBy w' none:=by
 obtain ⟨bd,⟨_,B,bm,ov,p⟩ | ⟨hu',_⟩⟩:=h
 ·exact aHE B b bd bm ov s w p.su.hs h0 h1
 ·rw[hu] at hu';cases hu'
theorem NX.trans {w w1 w2:World}{F:Nat->Prop}{b:Nat}{s:Sh}(o:Only w w1 F)(h:PS w2 b s (NX w1 w2 (NX w w1 F))):PS w2 b s (NX w w2 F):=
 h.mono (fun j hj hx=>⟨by
  rcases hx.1 with ⟨e | e,_⟩ | e
  ·exact .inl e
  ·exact .inr e
  ·exact .inr (Nat.le_trans o.size e),hj⟩)
theorem NX.grown {w w1 w2:World}{F:Nat->Prop}{b:Nat}{s:Sh}(g:w.grownBy w1 none)(h:PS w2 b s (NX w1 w2 F)):PS w2 b s (NX w w2 F):=
 h.mono (fun j hj hx=>⟨by
  rcases hx.1 with e | e
  ·exact .inl e
  ·exact .inr (Nat.le_trans g.size e),hj⟩)
structure HOk (s:Sh):Prop where
 up:s.up=true
 ct:s.ct<2
 cj:s.cJ<=5000
 ob:s.ob.length<=1000
 n0:0<=s.ms.n
 n1:s.ms.n<=65535
theorem vY (b:Nat)(s:Sh)(F:Nat->Prop)(q:Int)(i:It)(m:Mk)(ai ao:Option Addr)(ni ci no co:Nat)(w:World)(h:PS w b s F)(ok:HOk s)(q0:1<=q)(q1:q<=65535)(hi:eF i=true)(wf:WfIt i)(hx:bD i.sh)(hy:bD i.nu):
  Calls prog 130 #[.pointer (some ⟨b,0,none⟩),rv 7 q i m (.slice ai ni ci) (.slice ao no co)] w fun e w'=>e=.returned (.tuple #[.string (S (s.hearCross q i).1.2),.int .i64 (s.hearCross q i).1.1])/\PS w' b (s.hearCross q i).2 (NX w w' F)/\Only w w' F:=by
 have n0:=ok.n0
 have n1:=ok.n1
 have J:Hid (∀W,PS W b s F->Calls prog 134 #[.pointer (some ⟨b,0,none⟩),.agg #[.int .i64 4,.int .i64 q,.int .i64 i.sh,.int .i64 i.nu,.float .f32 i.pl,.float .f32 i.sp,.int .i64 0,.int .i64 0,.int .i64 0,.int .i64 0,.int .i64 0,.slice none 0 0,.slice none 0 0]] W fun e w'=>e=.returned (.int .i64 (s.jrn ⟨4,q,i,aZ,[],[]⟩).1)/\PS w' b (s.jrn ⟨4,q,i,aZ,[],[]⟩).2 (NX W w' F)/\Only W w' F):=Hid.mk' fun W hW=>jJ b s F ⟨4,q,i,aZ,[],[]⟩ W hW ok.up ⟨rfl,rfl⟩ (by
   show (decide (1<=q)&&eE q&&eF i&&eU ⟨4,q,i,aZ,[],[]⟩)=true
   have:eE q=true:=by simp[eE];omega
   rw[decide_eq_true q0,this,hi];rfl) ⟨wf,by simp,by simp⟩ ok.ct ok.cj ⟨.inr (.inr (.inr (.inl rfl))),⟨hx,hy⟩,by simp,by simp⟩
 have PP:=Hid.mk' h
 have g0:=World.grownBy_alloc w (.cells #[.int .i64 7,.int .i64 q,.int .i64 i.sh,.int .i64 i.nu,.float .f32 i.pl,.float .f32 i.sp,.int .i64 m.g,.int .i64 m.m,.int .i64 m.s,.int .i64 m.a,.int .i64 m.n,.slice ai ni ci,.slice ao no co] 139) none
 have G0:=Hid.mk' g0
 have AX:=Hid.mk' (At.new w [.int .i64 7,.int .i64 q,.int .i64 i.sh,.int .i64 i.nu,.float .f32 i.pl,.float .f32 i.sp,.int .i64 m.g,.int .i64 m.m,.int .i64 m.s,.int .i64 m.a,.int .i64 m.n,.slice ai ni ci,.slice ao no co] 139)
 have AK:=Hid.mk' fun W (hW:PS W b s F)=>aFY b s F W hW ok.up n0 n1
 have UP:=Hid.mk' ok.up
 have gp:Hid (∀W,w.grownBy W none->PS W b s F):=Hid.mk' fun W gW=>h.only ((Only.grown gW).mono (A':=fun _=>False) (by simp)) (fun _ _ h=>h)
 obtain ⟨bd,⟨_,B,bm,ov,p⟩ | ⟨hu',_⟩⟩:=h
 case inr=>rw[ok.up] at hu';cases hu'
 have hs0:=p.su.hs.grown g0
 have c13:=hs0.at_.c 13 _ rfl
 have MA:=Hid.mk' (tD B b bd bm ov s i _ hs0 hx hy)
 clear hs0 p g0 ok
 unfold kD at MA
 unfold Sh.hearCross rv
 by_cases c1:q<=s.ms.n
 ·rw[if_pos c1]
  have P0:=Hid.mk' (AK.out _ (gp.out _ G0.out))
  generalize jN s.ms.n=T at *
  go_enter func130,ntmps130
  go_wp2_with fail
  refine Calls.mono P0.out ?_
  rintro e w1 ⟨rfl,g1⟩
  go_wp2
  go_ret2
  exact ⟨rfl,PP.out.grown (G0.out.trans g1),(Only.grown (G0.out.trans g1)).mono (by simp)⟩
 ·rw[if_neg c1]
  have d1:decide (q<=s.ms.n)=false:=decide_eq_false c1
  have w1':IntKind.i64.wrap (s.ms.n+1)=s.ms.n+1:=by simp[IntKind.wrap,IntKind.bits,IntKind.signed];omega
  by_cases c2:s.ms.n+1<q
  ·rw[if_pos (.inl c2)]
   have e5:S []=⟨#[]⟩:=rfl
   rw[e5]
   go_enter func130,ntmps130
   go_wp2
   go_ret2
   exact ⟨rfl,PP.out.grown G0.out,(Only.grown G0.out).mono (by simp)⟩
  ·cases c3:s.mayArr i
   ·rw[if_pos (.inr rfl)]
    rw[c3] at MA
    have e5:S []=⟨#[]⟩:=rfl
    rw[e5]
    go_enter func130,ntmps130
    go_wp2_with fail
    refine Calls.mono MA.out ?_
    rintro e w1 ⟨rfl,g1⟩
    go_wp2
    go_ret2
    exact ⟨rfl,PP.out.grown (G0.out.trans g1),(Only.grown (G0.out.trans g1)).mono (by simp)⟩
   ·rw[if_neg (by simp;omega)]
    rw[c3] at MA
    have UQ:=Hid.mk' (aJc (s:=s) (r:=⟨4,q,i,aZ,[],[]⟩))
    have NQ:Hid ((s.jrn ⟨4,q,i,aZ,[],[]⟩).1=0->(s.jrn ⟨4,q,i,aZ,[],[]⟩).2.ms.n=q):=Hid.mk' fun hz=>by
     unfold Sh.jrn at *
     split at hz
     ·cases hz
     split at hz
     ·cases hz
     split at hz
     ·cases hz
     ·rename_i c1 c2 c3
      rw[if_neg c1,if_neg c2,if_neg c3]
      rfl
    generalize s.jrn ⟨4,q,i,aZ,[],[]⟩=jj at *
    obtain ⟨z,s'⟩:=jj
    simp only at *
    by_cases hz:z=0
    ·rw[if_pos hz]
     subst hz
     have nq:=NQ.out rfl
     have AA:Hid (∀W,PS W b s' (NX w W F)->Calls prog 162 #[.pointer (some ⟨b,0,none⟩)] W fun e w'=>e=.returned (.string (S (jN s'.ms.n)))/\W.grownBy w' none):=Hid.mk' fun W hW=>aFY b s' _ W hW ((UQ.out rfl).trans UP.out) (by omega) (by omega)
     generalize jN s'.ms.n=T at *
     clear NQ UQ nq
     go_enter func130,ntmps130
     go_wp2_with fail
     refine Calls.mono MA.out ?_
     rintro e w1 ⟨rfl,g1⟩
     have G1:=Hid.mk' (G0.out.trans g1)
     have A1:=AX.out.grown g1
     have x1:=A1.c 1 _ rfl
     have x2:=A1.c 2 _ rfl
     have x3:=A1.c 3 _ rfl
     have x4:=A1.c 4 _ rfl
     have x5:=A1.c 5 _ rfl
     have JJ:=Hid.mk' (J.out _ (gp.out _ G1.out))
     clear g1 A1 J AX MA G0
     go_wp2_with fail
     refine Calls.mono JJ.out ?_
     rintro e w2 ⟨rfl,P2,O2⟩
     have P2':=Hid.mk' (NX.grown G1.out P2)
     have O2':Hid (Only w w2 F):=((Only.grown G1.out).mono (by simp)).trans (O2.mono (fun _ _ e=>.inl e))
     clear P2 O2
     go_wp2_with fail
     refine Calls.mono (AA.out _ P2'.out) ?_
     rintro e w3 ⟨rfl,g3⟩
     go_wp2
     go_ret2
     exact ⟨rfl,NX.trans O2'.out (P2'.out.grown g3),O2'.out.trans ((Only.grown g3).mono (by simp))⟩
    ·rw[if_neg hz]
     have e5:S []=⟨#[]⟩:=rfl
     rw[e5]
     have zb:(z !=0)=true:=by simpa using hz
     clear NQ UQ
     go_enter func130,ntmps130
     go_wp2_with fail
     refine Calls.mono MA.out ?_
     rintro e w1 ⟨rfl,g1⟩
     have G1:=Hid.mk' (G0.out.trans g1)
     have A1:=AX.out.grown g1
     have x1:=A1.c 1 _ rfl
     have x2:=A1.c 2 _ rfl
     have x3:=A1.c 3 _ rfl
     have x4:=A1.c 4 _ rfl
     have x5:=A1.c 5 _ rfl
     have JJ:=Hid.mk' (J.out _ (gp.out _ G1.out))
     clear g1 A1 J AX MA G0
     go_wp2_with fail
     refine Calls.mono JJ.out ?_
     rintro e w2 ⟨rfl,P2,O2⟩
     have P2':=Hid.mk' (NX.grown G1.out P2)
     have O2':Hid (Only w w2 F):=((Only.grown G1.out).mono (by simp)).trans (O2.mono (fun _ _ e=>.inl e))
     clear P2 O2
     go_wp2
     go_ret2
     exact ⟨rfl,P2'.out,O2'.out⟩
theorem aIE {l:List UInt8}(h:(cF l).kind=7):cV l=true/\1<=(cF l).seq/\(cF l).seq<=65535/\eF (cF l).it=true:=by
 unfold cF at *
 by_cases hd:cV l=true
 ·rw[if_pos hd] at h ⊢
  refine ⟨hd,?_⟩
  have hm:aP (iC l)=true:=by unfold cV at hd;exact (Bool.and_eq_true _ _ ▸ hd).1
  unfold aP at hm
  rw[if_neg (by omega),if_neg (by omega),if_neg (by omega),if_pos (.inr h)] at hm
  simp only[Bool.and_eq_true,decide_eq_true_eq,eE] at hm
  exact ⟨hm.1.1.1,hm.1.1.2.2,hm.1.2⟩
 ·rw[if_neg hd] at h
  cases h
theorem aIF {l:List UInt8}(h:(cF l).kind=8):cV l=true/\0<=(cF l).seq/\(cF l).seq<=65535:=by
 unfold cF at *
 by_cases hd:cV l=true
 ·rw[if_pos hd] at h ⊢
  refine ⟨hd,?_⟩
  have hm:aP (iC l)=true:=by unfold cV at hd;exact (Bool.and_eq_true _ _ ▸ hd).1
  unfold aP at hm
  rw[if_neg (by omega),if_neg (by omega),if_neg (by omega),if_neg (by omega),if_pos (.inr h)] at hm
  simp only[Bool.and_eq_true,decide_eq_true_eq,eE] at hm
  omega
 ·rw[if_neg hd] at h
  cases h
theorem aFZ (l:List UInt8):WfIt (cF l).it:=by
 unfold cF
 split
 ·exact (aEC l).it
 ·exact ⟨by show (0:Nat)<_;decide,by show (0:Nat)<_;decide⟩
theorem aBT {i:It}(h:eF i=true):bD i.sh/\bD i.nu:=by
 simp only[eF,Bool.and_eq_true] at h
 have:=jZ h.1.1
 unfold bD
 omega
theorem aHF (b:Nat)(s:Sh)(F:Nat->Prop)(l:List UInt8)(w:World)(h:PS w b s F)(ok:HOk s):
  Calls prog 75 #[.pointer (some ⟨b,0,none⟩),.string (S l)] w fun e w'=>e=.returned (.tuple #[.string (S (s.hear l).1.2),.int .i64 (s.hear l).1.1])/\PS w' b (s.hear l).2 (NX w w' F)/\Only w w' F:=by
 have hsf:=aK
 have DC:=Hid.mk' (rB l w)
 have PP:=Hid.mk' h
 have gp:Hid (∀W,w.grownBy W none->PS W b s F):=Hid.mk' fun W gW=>h.only ((Only.grown gW).mono (A':=fun _=>False) (by simp)) (fun _ _ h=>h)
 have e5:S []=⟨#[]⟩:=rfl
 unfold Sh.hear
 by_cases k7:(cF l).kind=7
 ·rw[if_pos k7]
  obtain ⟨_,q0,q1,hi⟩:=aIE k7
  have HC:Hid (∀W ai ni ci ao no co,PS W b s F->_):=Hid.mk' fun W ai ni ci ao no co hW=>vY b s F (cF l).seq (cF l).it (cF l).mks ai ao ni ci no co W hW ok q0 q1 hi (aFZ l) (aBT hi).1 (aBT hi).2
  unfold rv at HC
  have du:Hid (∀{w':World} {e:Ending},dF w l e w'->w.grownBy w' none/\∃ai ni ci ao no co z,e=.returned (.tuple #[rv (cF l).kind (cF l).seq (cF l).it (cF l).mks (.slice ai ni ci) (.slice ao no co),.int .i64 z])):=fun h=>vX h
  rw[k7] at du
  unfold rv at du
  generalize (cF l)=r at *
  obtain ⟨rk,rs,ri,rm,_,_⟩:=r
  simp only at *
  subst k7
  generalize s.hearCross rs ri=hc at *
  obtain ⟨⟨z,t⟩,s'⟩:=hc
  simp only at *
  clear h ok q0 q1 hi e5
  go_enter func75,ntmps75
  go_wp2_with fail
  refine Calls.mono DC.out ?_
  rintro e w1 dp
  obtain ⟨g1,ai,ni,ci,ao,no,co,zz,rfl⟩:=du.out dp
  have G1:=Hid.mk' (g1.trans (World.grownBy_alloc w1 (.cells #[.int .i64 7,.int .i64 rs,.int .i64 ri.sh,.int .i64 ri.nu,.float .f32 ri.pl,.float .f32 ri.sp,.int .i64 rm.g,.int .i64 rm.m,.int .i64 rm.s,.int .i64 rm.a,.int .i64 rm.n,.slice ai ni ci,.slice ao no co] 139) none))
  have HH:=Hid.mk' (HC.out _ ai ni ci ao no co (gp.out _ G1.out))
  clear g1 dp HC
  go_wp2_with fail
  refine Calls.mono HH.out ?_
  rintro e w2 ⟨rfl,P2,O2⟩
  go_wp2
  go_ret2
  exact ⟨rfl,NX.grown G1.out P2,((Only.grown G1.out).mono (by simp)).trans (O2.mono (fun _ _ e=>.inl e))⟩
 ·rw[if_neg k7]
  have d7:((cF l).kind==7)=false:=by simpa using k7
  by_cases k8:(cF l).kind=8
  ·rw[if_pos k8]
   obtain ⟨_,q0,q1⟩:=aIF k8
   have HC:Hid (∀W,PS W b s F->_):=Hid.mk' fun W hW=>aAR b s F (cF l).seq W hW ok.up ok.ct ok.cj ok.ob q0 q1
   have du:Hid (∀{w':World} {e:Ending},dF w l e w'->w.grownBy w' none/\∃ai ni ci ao no co z,e=.returned (.tuple #[rv (cF l).kind (cF l).seq (cF l).it (cF l).mks (.slice ai ni ci) (.slice ao no co),.int .i64 z])):=fun h=>vX h
   rw[k8] at du
   unfold rv at du
   generalize (cF l)=r at *
   obtain ⟨rk,rs,ri,rm,_,_⟩:=r
   simp only at *
   subst k8
   generalize s.hearAck rs=hc at *
   obtain ⟨z,s'⟩:=hc
   simp only at *
   rw[e5]
   clear h ok q0 q1 e5 d7 k7
   go_enter func75,ntmps75
   go_wp2_with fail
   refine Calls.mono DC.out ?_
   rintro e w1 dp
   obtain ⟨g1,ai,ni,ci,ao,no,co,zz,rfl⟩:=du.out dp
   have G1:=Hid.mk' (g1.trans (World.grownBy_alloc w1 (.cells #[.int .i64 8,.int .i64 rs,.int .i64 ri.sh,.int .i64 ri.nu,.float .f32 ri.pl,.float .f32 ri.sp,.int .i64 rm.g,.int .i64 rm.m,.int .i64 rm.s,.int .i64 rm.a,.int .i64 rm.n,.slice ai ni ci,.slice ao no co] 139) none))
   have HH:=Hid.mk' (HC.out _ (gp.out _ G1.out))
   clear g1 dp HC
   go_wp2_with fail
   refine Calls.mono HH.out ?_
   rintro e w2 ⟨rfl,P2,O2⟩
   go_wp2
   go_ret2
   exact ⟨rfl,NX.grown G1.out P2,((Only.grown G1.out).mono (by simp)).trans (O2.mono (fun _ _ e=>.inl e))⟩
  ·rw[if_neg k8]
   have d8:((cF l).kind==8)=false:=by simpa using k8
   have du:Hid (∀{w':World} {e:Ending},dF w l e w'->w.grownBy w' none/\∃ai ni ci ao no co z,e=.returned (.tuple #[rv (cF l).kind (cF l).seq (cF l).it (cF l).mks (.slice ai ni ci) (.slice ao no co),.int .i64 z])):=fun h=>vX h
   unfold rv at du
   generalize (cF l)=r at *
   obtain ⟨rk,rs,ri,rm,_,_⟩:=r
   simp only at *
   rw[e5]
   clear h ok e5 k7 k8
   go_enter func75,ntmps75
   go_wp2_with fail
   refine Calls.mono DC.out ?_
   rintro e w1 dp
   obtain ⟨g1,ai,ni,ci,ao,no,co,zz,rfl⟩:=du.out dp
   have G1:=Hid.mk' (g1.trans (World.grownBy_alloc w1 (.cells #[.int .i64 rk,.int .i64 rs,.int .i64 ri.sh,.int .i64 ri.nu,.float .f32 ri.pl,.float .f32 ri.sp,.int .i64 rm.g,.int .i64 rm.m,.int .i64 rm.s,.int .i64 rm.a,.int .i64 rm.n,.slice ai ni ci,.slice ao no co] 139) none))
   clear g1 dp
   go_wp2
   go_ret2
   exact ⟨rfl,PP.out.grown G1.out,(Only.grown G1.out).mono (by simp)⟩
structure Pr where
 s0:Sh
 s1:Sh
 f0:List (List UInt8)
 f1:List (List UInt8)
def Pr.sh (p:Pr)(i:Int):Sh:=aC p.s0 p.s1 i
def Pr.fl (p:Pr)(i:Int):List (List UInt8):=aC p.f0 p.f1 i
def Pr.setSh (p:Pr)(i:Int)(s:Sh):Pr:=if i=0 then {p with s0:=s} else {p with s1:=s}
def Pr.upE (p:Pr)(i:Int):Int:=YtammnaafdhhjaaaGreat.upE p.s0.up p.s1.up i
structure PX (w:World)(bp b0 b1:Nat)(v0 v1:Value)(F0 F1:Nat->Prop)(p:Pr):Prop where
 fx:FX w bp b0 b1 v0 v1 p.f0 p.f1
 p0:PS w b0 p.s0 F0
 p1:PS w b1 p.s1 F1
 x0:∀j,fxF bp v0 v1 j->¬F0 j
 x1:∀j,fxF bp v0 v1 j->¬F1 j
 dj:∀j,F0 j->¬F1 j
 l0:∀j,F0 j->j<w.heap.size
 l1:∀j,F1 j->j<w.heap.size
def pxF (bp:Nat)(v0 v1:Value)(F0 F1:Nat->Prop)(j:Nat):Prop:=fxF bp v0 v1 j∨F0 j∨F1 j
def PW (w:World)(bp:Nat)(A:Nat->Prop)(p:Pr):Prop:=∃b0 b1 v0 v1 F0 F1,PX w bp b0 b1 v0 v1 F0 F1 p/\∀j,pxF bp v0 v1 F0 F1 j->A j
def PN (w w':World)(bp:Nat)(A:Nat->Prop)(p:Pr):Prop:=PW w' bp (fun j=>A j∨w.heap.size<=j) p/\Only w w' A
section
variable {w w' : World} {bp b0 b1 : Nat} {v0 v1 : Value} {F0 F1 A : Nat -> Prop} {p : Pr}
theorem PX.lt (h:PX w bp b0 b1 v0 v1 F0 F1 p){j:Nat}(hj:pxF bp v0 v1 F0 F1 j):j<w.heap.size:=by
 rcases hj with hj | hj | hj
 ·exact h.fx.lt hj
 ·exact h.l0 j hj
 ·exact h.l1 j hj
theorem PX.only {D:Nat->Prop}(h:PX w bp b0 b1 v0 v1 F0 F1 p)(o:Only w w' D)(n:∀j,pxF bp v0 v1 F0 F1 j->¬D j):PX w' bp b0 b1 v0 v1 F0 F1 p:=
 ⟨h.fx.only o (fun j hj=>n j (.inl hj)),h.p0.only o (fun j hj=>n j (.inr (.inl hj))),h.p1.only o (fun j hj=>n j (.inr (.inr hj))),h.x0,h.x1,h.dj,fun j hj=>Nat.lt_of_lt_of_le (h.l0 j hj) o.size,fun j hj=>Nat.lt_of_lt_of_le (h.l1 j hj) o.size⟩
theorem PW.only {D:Nat->Prop}(h:PW w bp A p)(o:Only w w' D)(n:∀j,j<w.heap.size->A j->¬D j):PW w' bp A p:=by
 obtain ⟨b0,b1,v0,v1,F0,F1,hx,hA⟩:=h
 exact ⟨b0,b1,v0,v1,F0,F1,hx.only o (fun j hj=>n j (hx.lt hj) (hA j hj)),hA⟩
theorem PW.grown (h:PW w bp A p)(g:w.grownBy w' none):PW w' bp A p:=h.only (Only.grown g) (by simp)
theorem PW.mono {A':Nat->Prop}(h:PW w bp A p)(n:∀j,j<w.heap.size->A j->A' j):PW w bp A' p:=by
 obtain ⟨b0,b1,v0,v1,F0,F1,hx,hA⟩:=h
 exact ⟨b0,b1,v0,v1,F0,F1,hx,fun j hj=>n j (hx.lt hj) (hA j hj)⟩
theorem PW.same (h:PW w bp A p):PN w w bp A p:=⟨h.mono (fun _ _ e=>.inl e),Only.refl _ _⟩
theorem PW.grew (h:PW w bp A p)(g:w.grownBy w' none):PN w w' bp A p:=⟨(h.grown g).mono (fun _ _ e=>.inl e),(Only.grown g).mono (by simp)⟩
theorem PN.trans {W:World}(o:Only w W A)(h:PN W w' bp (fun j=>A j∨w.heap.size<=j) p):PN w w' bp A p:=
 ⟨h.1.mono (fun j _ e=>by
  rcases e with e | e
  ·exact e
  ·exact .inr (Nat.le_trans o.size e)),o.trans h.2⟩
theorem PN.grown {W:World}(g:w.grownBy W none)(h:PN W w' bp A p):PN w w' bp A p:=
 ⟨h.1.mono (fun j _ e=>by
  rcases e with e | e
  ·exact .inl e
  ·exact .inr (Nat.le_trans g.size e)),((Only.grown g).mono (by simp)).trans (h.2.mono (fun _ _ e=>.inl e))⟩
theorem PX.turn (h:PX w bp b0 b1 v0 v1 F0 F1 p)(hA:∀j,pxF bp v0 v1 F0 F1 j->A j){i:Int}(hi:aV i){s:Sh}(ps:PS w' (aC b0 b1 i) s (NX w w' (aC F0 F1 i)))(o:Only w w' (aC F0 F1 i)):PN w w' bp A (p.setSh i s):=by
 have z:=o.size
 rcases hi with rfl | rfl
 ·have o':Only w w' F0:=o
  have nw:∀j,NX w w' F0 j->F0 j∨w.heap.size<=j:=fun j hj=>hj.1
  refine ⟨⟨b0,b1,v0,v1,NX w w' F0,F1,⟨h.fx.only o' (fun j hj=>h.x0 j hj),ps,h.p1.only o' (fun j hj e=>h.dj j e hj),fun j hj e=>?_,h.x1,fun j hj e=>?_,fun j hj=>hj.2,fun j hj=>Nat.lt_of_lt_of_le (h.l1 j hj) z⟩,fun j hj=>?_⟩,o'.mono (fun j _ e=>hA j (.inr (.inl e)))⟩
  ·rcases nw j e with e | e
   ·exact h.x0 j hj e
   ·have:=h.fx.lt hj;omega
  ·rcases nw j hj with hj | hj
   ·exact h.dj j hj e
   ·have:=h.l1 j e;omega
  ·rcases hj with hj | hj | hj
   ·exact .inl (hA j (.inl hj))
   ·rcases nw j hj with hj | hj
    ·exact .inl (hA j (.inr (.inl hj)))
    ·exact .inr hj
   ·exact .inl (hA j (.inr (.inr hj)))
 ·have o':Only w w' F1:=o
  have nw:∀j,NX w w' F1 j->F1 j∨w.heap.size<=j:=fun j hj=>hj.1
  refine ⟨⟨b0,b1,v0,v1,F0,NX w w' F1,⟨h.fx.only o' (fun j hj=>h.x1 j hj),h.p0.only o' (fun j hj e=>h.dj j hj e),ps,h.x0,fun j hj e=>?_,fun j hj e=>?_,fun j hj=>Nat.lt_of_lt_of_le (h.l0 j hj) z,fun j hj=>hj.2⟩,fun j hj=>?_⟩,o'.mono (fun j _ e=>hA j (.inr (.inr e)))⟩
  ·rcases nw j e with e | e
   ·exact h.x1 j hj e
   ·have:=h.fx.lt hj;omega
  ·rcases nw j e with e | e
   ·exact h.dj j hj e
   ·have:=h.l0 j hj;omega
  ·rcases hj with hj | hj | hj
   ·exact .inl (hA j (.inl hj))
   ·exact .inl (hA j (.inr (.inl hj)))
   ·rcases nw j hj with hj | hj
    ·exact .inl (hA j (.inr (.inr hj)))
    ·exact .inr hj
theorem PX.flown (h:PX w bp b0 b1 v0 v1 F0 F1 p)(hA:∀j,pxF bp v0 v1 F0 F1 j->A j){f0 f1:List (List UInt8)}(hn:FXn w w' bp b0 b1 v0 v1 f0 f1):PN w w' bp A ⟨p.s0,p.s1,f0,f1⟩:=by
 obtain ⟨u0,u1,hf,o,hb⟩:=hn
 have z:=o.size
 refine ⟨⟨b0,b1,u0,u1,F0,F1,⟨hf,h.p0.only o (fun j hj e=>h.x0 j e hj),h.p1.only o (fun j hj e=>h.x1 j e hj),fun j hj e=>?_,fun j hj e=>?_,h.dj,fun j hj=>Nat.lt_of_lt_of_le (h.l0 j hj) z,fun j hj=>Nat.lt_of_lt_of_le (h.l1 j hj) z⟩,fun j hj=>?_⟩,o.mono (fun j _ e=>hA j (.inl e))⟩
 ·rcases hb j hj with hj | hj
  ·exact h.x0 j hj e
  ·have:=h.l0 j e;omega
 ·rcases hb j hj with hj | hj
  ·exact h.x1 j hj e
  ·have:=h.l1 j e;omega
 ·rcases hj with hj | hj | hj
  ·rcases hb j hj with hj | hj
   ·exact .inl (hA j (.inl hj))
   ·exact .inr hj
  ·exact .inl (hA j (.inr (.inl hj)))
  ·exact .inl (hA j (.inr (.inr hj)))
theorem PX.at (h:PX w bp b0 b1 v0 v1 F0 F1 p){i:Int}(hi:aV i):PS w (aC b0 b1 i) (p.sh i) (aC F0 F1 i):=by
 rcases hi with rfl | rfl
 ·exact h.p0
 ·exact h.p1
end
end Go.Proofs.YtammnaafdhhjaaaGreat
