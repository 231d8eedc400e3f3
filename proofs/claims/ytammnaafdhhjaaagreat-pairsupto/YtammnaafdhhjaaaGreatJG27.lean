import Derived.Test.YtammnaafdhhjaaaGreatJG26
import Derived.Test.YtammnaafdhhjaaaGreatC9
set_option maxHeartbeats 16000000
set_option maxRecDepth 100000
namespace Go.Proofs.YtammnaafdhhjaaaGreat
open Go.RowKit Go.Proofs.Tryz
def cY:Rc:=⟨6,0,bT,⟨1,0,0,0,0⟩,[],[]⟩
theorem told1:Told cY:=⟨by decide,⟨by decide,by decide⟩,by simp[cY],by simp[cY]⟩
def dk1:Dk:=⟨aY cY,(aY cY).length,[],0,0,0⟩
def Sh.init (no:Nat)(cI cO cJ:Int):Sh:=⟨no,cI,cO,cJ,dk1,false,0,[],[],aZ⟩
theorem yV:(aY cY).length<=1200:=by
 have:=(dM cY told1.m).2
 rw[gR];omega
theorem aGf:dk1.Ok:=⟨Nat.le_refl _,Nat.le_refl _,by have:=yV;show (aY cY).length<=10000;omega,by decide,by decide,by decide⟩
theorem scan1:aR (aY cY)=[cY]/\(bK (aY cY)).2=(aY cY).length:=by
 have:=nQ (rs:=[cY]) (by simp[told1])
 simpa [dE] using this
theorem aHL:dk1.choice=0:=by
 unfold Dk.choice dk1
 simp only
 rw[scan1.1,scan_nil.1]
 rfl
theorem aKc (no:Nat)(cI cO cJ:Int):Jnl (Sh.init no cI cO cJ).begun (aR ((Sh.init no cI cO cJ).dk.file (Sh.init no cI cO cJ).dk.choice)):=by
 have e:aR ((Sh.init no cI cO cJ).dk.file (Sh.init no cI cO cJ).dk.choice)=[cY]:=by
  show aR (dk1.file dk1.choice)=_
  rw[aHL]
  exact scan1.1
 rw[e]
 exact ⟨by simp,fun _=>⟨rfl,by simp[cY],by simp[cY]⟩,fun _=>trivial,by simp⟩
theorem tZ (no:Nat)(cI cO cJ:Int)(w:World):
  Calls prog 77 #[.int .i64 no,.agg #[.int .i64 cI,.int .i64 cO,.int .i64 cJ]] w fun e w'=>∃b,e=.returned (.pointer (some ⟨b,0,none⟩))/\PS w' b (Sh.init no cI cO cJ).restart (fun j=>w.heap.size<=j/\j<w'.heap.size)/\w.grownBy w' none:=by
 have hsf:=aK
 have g0:=aA ((World.grownBy_alloc w (.cells #[.int .i64 cI,.int .i64 cO,.int .i64 cJ] 23) none).trans (World.grownBy_alloc _ (.cells #[.int .i64 6,.int .i64 0,.int .i64 0,.int .i64 0,.float .f32 0,.float .f32 0,.int .i64 1,.int .i64 0,.int .i64 0,.int .i64 0,.int .i64 0,.slice none 0 0,.slice none 0 0] 139) none))
 have G0:=Hid.mk' g0
 have A0:=Hid.mk' (((At.new w [.int .i64 cI,.int .i64 cO,.int .i64 cJ] 23).grown (World.grownBy_alloc _ (.cells #[.int .i64 6,.int .i64 0,.int .i64 0,.int .i64 0,.float .f32 0,.float .f32 0,.int .i64 1,.int .i64 0,.int .i64 0,.int .i64 0,.int .i64 0,.slice none 0 0,.slice none 0 0] 139) none)).drew)
 have R0:=Hid.mk' (At.new (w.alloc (.cells #[.int .i64 cI,.int .i64 cO,.int .i64 cJ] 23)) [.int .i64 6,.int .i64 0,.int .i64 0,.int .i64 0,.float .f32 0,.float .f32 0,.int .i64 1,.int .i64 0,.int .i64 0,.int .i64 0,.int .i64 0,.slice none 0 0,.slice none 0 0] 139).drew
 have FR:Hid (∀W:World,Calls prog 122 #[rv 6 0 bT ⟨1,0,0,0,0⟩ (.slice none 0 0) (.slice none 0 0)] W fun e w'=>e=.returned (.string (S (aY cY)))/\W.grownBy w' none):=Hid.mk' fun W=>dT cY _ _ W (rF W) (pF W) told1.m told1.wf
 unfold rv bT at FR
 clear g0
 go_enter func77,ntmps77
 go_wp2_with fail
 refine wp_region_held_drew (S:=fun w'=>At w' w.heap.size [.int .i64 cI,.int .i64 cO,.int .i64 cJ]/\At w' (w.heap.size+1) [.int .i64 6,.int .i64 0,.int .i64 0,.int .i64 0,.float .f32 0,.float .f32 0,.int .i64 1,.int .i64 0,.int .i64 0,.int .i64 0,.int .i64 0,.slice none 0 0,.slice none 0 0]) (by kernel_rfl) (⟨A0.out,by have:=R0.out;simpa using this⟩) (fun hHeld=>?_)
 refine aN 0 ?_
 simp only[aF]
 refine dG 1 rfl (by intro w hSw;have S0:=hSw.1.c 0 _ rfl;have S1:=hSw.1.c 1 _ rfl;have S2:=hSw.1.c 2 _ rfl;go_simp;try with_reducible rfl) ?_
 simp only[aF]
 refine dG 2 rfl (by intro w hSw;have S0:=hSw.2.c 0 _ rfl;have S1:=hSw.2.c 1 _ rfl;have S2:=hSw.2.c 2 _ rfl;have S3:=hSw.2.c 3 _ rfl;have S4:=hSw.2.c 4 _ rfl;have S5:=hSw.2.c 5 _ rfl;have S6:=hSw.2.c 6 _ rfl;have S7:=hSw.2.c 7 _ rfl;have S8:=hSw.2.c 8 _ rfl;have S9:=hSw.2.c 9 _ rfl;have S10:=hSw.2.c 10 _ rfl;have S11:=hSw.2.c 11 _ rfl;have S12:=hSw.2.c 12 _ rfl;go_simp;try with_reducible rfl) ?_
 simp only[aF]
 refine aX 3 (f:=122) (args:=#[.agg #[.int .i64 6,.int .i64 0,.int .i64 0,.int .i64 0,.float .f32 0,.float .f32 0,.int .i64 1,.int .i64 0,.int .i64 0,.int .i64 0,.int .i64 0,.slice none 0 0,.slice none 0 0]]) (by kernel_rfl) (by rfl) (by rfl) (by go_simp) ?_
 refine Calls.mono (FR.out _) ?_
 rintro e w1 ⟨rfl,g1⟩
 have G1:=Hid.mk' (G0.out.trans g1)
 have h1:=And.intro (hHeld.1.grown g1) (hHeld.2.grown g1)
 clear hHeld
 have hHeld:=h1
 clear g1 h1
 refine ⟨_,rfl,hHeld,?_⟩
 simp only[aF]
 refine aX 4 (f:=133) (args:=#[.string (S (aY cY))]) (by kernel_rfl) (by rfl) (by rfl) (by go_simp) ?_
 refine Calls.mono (aCA (aY cY) _) ?_
 rintro e w2 ⟨bd,rfl,hbd,ad,g2⟩
 have G2:=Hid.mk' (G1.out.trans g2)
 have h2:=And.intro (hHeld.1.grown g2) (hHeld.2.grown g2)
 clear hHeld
 have hHeld:=h2
 have AD:=Hid.mk' ad
 have zb:w.heap.size<=bd:=by have:=G1.out.size;omega
 clear h2 ad g2
 refine ⟨_,rfl,hHeld,?_⟩
 simp only[aF]
 refine aN 5 ?_
 simp only[aF]
 refine fV 6 (by kernel_rfl) (by rfl) (by rfl) ?_
 intro K hK
 go_simp
 refine hK _ _ ⟨hHeld.1.alloc _,hHeld.2.alloc _⟩ ?_
 replace hHeld:=And.intro (hHeld.1.alloc (.cells #[.int .i64 no,.int .i64 cI,.int .i64 cO,.int .i64 cJ,.pointer (some ⟨bd,0,none⟩),.bool false,.int .i64 0,.map none,.slice none 0 0,.int .i64 0,.int .i64 0,.int .i64 0,.int .i64 0,.int .i64 0] 132)) (hHeld.2.alloc (.cells #[.int .i64 no,.int .i64 cI,.int .i64 cO,.int .i64 cJ,.pointer (some ⟨bd,0,none⟩),.bool false,.int .i64 0,.map none,.slice none 0 0,.int .i64 0,.int .i64 0,.int .i64 0,.int .i64 0,.int .i64 0] 132))
 refine aN 7 ?_
 simp only[aF]
 refine wpAnyH_done (by kernel_rfl) ?_ _
 have g3:=World.grownBy_alloc w2 (.cells #[.int .i64 no,.int .i64 cI,.int .i64 cO,.int .i64 cJ,.pointer (some ⟨bd,0,none⟩),.bool false,.int .i64 0,.map none,.slice none 0 0,.int .i64 0,.int .i64 0,.int .i64 0,.int .i64 0,.int .i64 0] 132) none
 have bl:=AD.out.lt
 have z2:=G2.out.size
 have RS:=Hid.mk' (sJ w2.heap.size (Sh.init no cI cO cJ) (fun j=>w.heap.size<=j/\j<w2.heap.size+1) _ ⟨bd,.inr ⟨rfl,At.new w2 [.int .i64 no,.int .i64 cI,.int .i64 cO,.int .i64 cJ,.pointer (some ⟨bd,0,none⟩),.bool false,.int .i64 0,.map none,.slice none 0 0,.int .i64 0,.int .i64 0,.int .i64 0,.int .i64 0,.int .i64 0] 132,AD.out.grown g3,aGf,by omega,⟨z2,by omega⟩,⟨zb,by omega⟩,rfl,rfl,rfl⟩⟩ rfl (aKc no cI cO cJ))
 have G3:=Hid.mk' (G2.out.trans g3)
 clear g3 hHeld
 go_wp2_with fail
 refine Calls.mono RS.out ?_
 rintro e w4 ⟨rfl,ps,on⟩
 go_wp2
 go_ret
 refine ⟨_,rfl,ps.mono (fun j hj h=>⟨?_,hj⟩),?_⟩
 ·rcases h.1 with h | h
  ·exact h.1
  ·have:=G3.out.size;omega
 ·exact fJ G3.out on (fun k hk=>hk.1)
end Go.Proofs.YtammnaafdhhjaaaGreat
namespace Go.Proofs.YtammnaafdhhjaaaGreat
open Go.RowKit Go.Proofs.Tryz
structure Fl (no:Nat)(cI cO:Int)(d:Dk)(c:Nat)(rs:List Rc):Prop where
 told:∀r∈rs,Told r
 rp:Rp no cI cO rs (fZ no cO rs)
 file:∃t,d.file c=dE rs++t/\aR t=[]/\(bK t).2=0
 oth:bA (aR (d.file (1 -c)))<bA rs
structure Good (s:Sh)(r:Rs):Prop where
 no:s.no<2
 i0:1<=s.cI
 i1:s.cI<=16
 o0:1<=s.cO
 o1:s.cO<=8
 j1:s.cJ<=2000
 ct:s.ct<2
 up:r.up=s.up
 rct:r.ct=s.ct
 dk:DkEq s.dk r.d
 ok:s.dk.Ok
 w0:s.dk.l0=s.dk.f0.length
 w1:s.dk.l1=s.dk.f1.length
 kb:-9223372036854775808<=r.d.kp/\r.d.kp<=9223372036854775807
 jn:∃c rs,c<2/\Fl s.no s.cI s.cO s.dk c rs/\(s.up=true->c=s.ct/\s.dk.file c=dE rs/\s.ds=fZ s.no s.cO rs)
theorem Good.rok {s:Sh}{r:Rs}(h:Good s r):r.d.Ok:=by
 obtain ⟨a,b,c,d,e,f⟩:=h.ok
 have q:=h.dk
 refine ⟨?_,?_,?_,?_,?_,?_⟩<;>simp only[q.f0,q.l0,q.f1,q.l1,q.un]<;>assumption
theorem Good.has {s:Sh}{r:Rs}(h:Good s r)(hu:s.up=true):∃rs,(∀r∈rs,Told r)/\s.dk.file s.ct=dE rs/\s.ds=fZ s.no s.cO rs/\Rp s.no s.cI s.cO rs s.ds/\HasD s.no s.cI s.cO s.ds/\bA rs=s.ms.g/\bA (aR (s.dk.file (1 -s.ct)))<s.ms.g:=by
 obtain ⟨c,rs,hc,fl,hx⟩:=h.jn
 obtain ⟨rfl,h1,h2⟩:=hx hu
 have rp:=fl.rp
 rw[<- h2] at rp
 have f:=rp.facts
 have g:bA rs=s.ms.g:=f.2.2.2
 exact ⟨rs,fl.told,h1,h2,rp,f.2.2.1,g,by rw[<- g];exact fl.oth⟩
def Rs.jrn (cJ:Int)(r:Rs)(p:Rc):Int×Rs:=
 if cJ<((r.d.file r.ct).length:Int)+((aY p).length:Int) then (5,r)
 else if (r.put (r.d.append r.ct (aY p))).2=false then (3,(r.put (r.d.append r.ct (aY p))).1)
 else if ((r.put (r.d.append r.ct (aY p))).1.put ((r.put (r.d.append r.ct (aY p))).1.d.sync r.ct)).2=false then (3,((r.put (r.d.append r.ct (aY p))).1.put ((r.put (r.d.append r.ct (aY p))).1.d.sync r.ct)).1)
 else (0,((r.put (r.d.append r.ct (aY p))).1.put ((r.put (r.d.append r.ct (aY p))).1.d.sync r.ct)).1)
theorem Rs.put_yes (r:Rs){a:Dk×Bool}(h:a.2=true):r.put a=(⟨r.up,a.1,r.ct⟩,true):=if_pos h
theorem Rs.put_no (r:Rs){a:Dk×Bool}(h:a.2=false):r.put a=(⟨false,{a.1 with kp:=r.d.kp},r.ct⟩,false):=if_neg (by rw[h];simp)
theorem pM (d:Dk):d.act.1.kp=d.kp∨d.act.1.kp=0:=by
 unfold Dk.act
 split
 ·exact .inl rfl
 split
 ·exact .inr rfl
 ·exact .inl rfl
theorem mQ (d:Dk)(c:Nat)(p:List UInt8):(d.append c p).1.kp=d.kp∨(d.append c p).1.kp=0:=by
 unfold Dk.append
 split
 ·exact pM _
 ·exact pM _
theorem aAU (d:Dk)(c:Nat)(p:List UInt8)(m:Nat):(d.put c p m).kp=d.kp:=by
 unfold Dk.put;split<;>rfl
theorem aCa (d:Dk)(c:Nat):(d.sync c).1.kp=d.kp∨(d.sync c).1.kp=0:=by
 unfold Dk.sync
 split
 ·rw[aAU];exact pM d
 ·exact pM d
theorem aGg (d:Dk)(c:Nat):(d.cut c).1.kp=d.kp∨(d.cut c).1.kp=0:=by
 unfold Dk.cut
 split
 ·rw[aAU];exact pM d
 ·exact pM d
def wE (k:Int):Prop:=-9223372036854775808<=k/\k<=9223372036854775807
theorem pN {k m:Int}(h:wE k)(hm:m=k∨m=0):wE m:=by
 unfold wE at *;omega
theorem pO (rs:List Rc)(p:Rc):dE (rs++[p])=dE rs++aY p:=by simp[dE]
theorem sL {rs:List Rc}(h:0<rs.length)(p:Rc):bA (rs++[p])=bA rs:=by
 cases rs with
 | nil=>simp at h
 | cons b t=>rfl
theorem aHM {no:Nat}{cI cO:Int}{d:Dk}{c:Nat}{rs:List Rc}{G:List UInt8}{p:Rc}{j:Nat}(told:∀r∈rs,Told r)(rp:Rp no cI cO rs (fZ no cO rs))(ho:bA (aR G)<bA rs)(tp:Told p)(ok:DOk no cI (fZ no cO rs) p)(hj:j<=(aY p).length)(h:Wh d c (dE rs++(aY p).take j) G):∃rs',Fl no cI cO d c rs':=by
 by_cases hk:j<(aY p).length
 ·obtain ⟨a1,a2⟩:=yE tp j hk
  exact ⟨rs,told,rp,⟨_,h.f,a1,a2⟩,by rw[h.g];exact ho⟩
 ·have e:j=(aY p).length:=by omega
  subst e
  have pos:=rp.facts.1
  refine ⟨rs++[p],?_,?_,⟨[],?_,scan_nil.1,scan_nil.2⟩,?_⟩
  ·intro x hx
   rcases List.mem_append.1 hx with hx | hx
   ·exact told x hx
   ·rw[List.mem_singleton.1 hx];exact tp
  ·rw[iX pos]
   exact .snoc p rp ok
  ·rw[h.f,List.take_length,pO,List.append_nil]
  ·rw[h.g,sL pos];exact ho
theorem mC {s:Sh}{r:Rs}{p:Rc}(h:Good s r)(hu:s.up=true)(tp:Told p)(ok:DOk s.no s.cI s.ds p):(r.jrn s.cJ p).1=(s.jrn p).1/\Good (s.jrn p).2 (r.jrn s.cJ p).2:=by
 obtain ⟨rs,told,hf,hds,rp,has,hg,ho⟩:=h.has hu
 have wh:Wh s.dk s.ct (dE rs) (s.dk.file (1 -s.ct)):=⟨hf,rfl,h.w0,h.w1⟩
 rw[<- hg] at ho
 have ap:=wh.appended h.ct (aY p)
 have rp':=rp
 rw[hds] at rp'
 have ok':=ok
 rw[hds] at ok'
 unfold Rs.jrn Sh.jrn
 rw[h.dk.file,h.rct]
 split
 ·exact ⟨rfl,h⟩
 rename_i hc
 have hlen:(s.dk.file s.ct).length+(aY p).length<=10000:=by have:=h.j1;omega
 have okA:=(h.ok.append s.ct (aY p) hlen).act
 obtain ⟨e1,e2,e3⟩:=h.dk.append s.ct (aY p) r.d.kp
 have dn:∀(D E:Dk),DkEq D E->D.Ok->wE E.kp->(∃j,j<=(aY p).length/\Wh D s.ct (dE rs++(aY p).take j) (s.dk.file (1 -s.ct)))->Good (s.down.on D) ⟨false,E,s.ct⟩:=by
  rintro D E he hk kb ⟨j,hj,hw⟩
  obtain ⟨rs',fl⟩:=aHM told rp' ho tp ok' hj hw
  exact ⟨h.no,h.i0,h.i1,h.o0,h.o1,h.j1,h.ct,rfl,rfl,he,hk,hw.l0,hw.l1,kb,s.ct,rs',h.ct,fl,fun h=>absurd h (by simp[Sh.on,Sh.down])⟩
 cases ha:(s.dk.append s.ct (aY p)).2
 ·rw[Rs.put_no r (e1.trans ha)]
  simp only[if_true]
  exact ⟨trivial,by rw[h.rct];exact dn _ _ (e3 ha) okA h.kb (ap.1 ha)⟩
 rw[Rs.put_yes r (e1.trans ha)]
 simp only[Bool.true_eq_false,if_false]
 have kA:wE (r.d.append s.ct (aY p)).1.kp:=pN h.kb (mQ _ _ _)
 obtain ⟨g1,g2,g3⟩:=(e2 ha).sync s.ct (r.d.append s.ct (aY p)).1.kp
 have okB:=Dk.Ok.sync okA s.ct
 obtain ⟨ap1,ap2⟩:=ap.2 ha
 cases hb:((s.dk.append s.ct (aY p)).1.sync s.ct).2
 ·rw[Rs.put_no _ (g1.trans hb)]
  simp only[if_true]
  exact ⟨trivial,by rw[h.rct];exact dn _ _ (g3 hb) okB kA (ap1 hb)⟩
 rw[Rs.put_yes _ (g1.trans hb)]
 simp only[Bool.true_eq_false,if_false]
 refine ⟨trivial,?_⟩
 have hw:=ap2 hb
 have up:=sC (s.on ((s.dk.append s.ct (aY p)).1.sync s.ct).1) p
 obtain ⟨u1,u2,u3,u4,u5,u6,u7⟩:=up
 have nd:s.th.Pairwise (fun a b=>¬a.same b):=mN (bG _).symm (has.ord.imp pX)
 have dd:=(aGe nd has ok).2
 have dd':((s.on ((s.dk.append s.ct (aY p)).1.sync s.ct).1).doR p).ds=s.ds.doR s.no s.cO p:=by
  rw[aFM];exact dd
 have pos:=rp.facts.1
 have e:fZ s.no s.cO (rs++[p])=s.ds.doR s.no s.cO p:=by rw[iX pos,<- hds]
 refine ⟨by rw[u4];exact h.no,by rw[u5];exact h.i0,by rw[u5];exact h.i1,by rw[u6];exact h.o0,by rw[u6];exact h.o1,by rw[u7];exact h.j1,by rw[u3];exact h.ct,by rw[u1];exact h.up,by rw[u3];exact h.rct,by rw[u2];exact g2 hb,by rw[u2];exact okB,by rw[u2];exact hw.l0,by rw[u2];exact hw.l1,pN kA (aCa _ _),s.ct,rs++[p],h.ct,?_,fun _=>?_⟩
 ·rw[u2,u4,u5,u6]
  refine ⟨?_,?_,⟨[],?_,scan_nil.1,scan_nil.2⟩,?_⟩
  ·intro x hx
   rcases List.mem_append.1 hx with hx | hx
   ·exact told x hx
   ·rw[List.mem_singleton.1 hx];exact tp
  ·show Rp s.no s.cI s.cO (rs++[p]) (fZ s.no s.cO (rs++[p]))
   rw[e]
   exact .snoc p rp ok
  ·show Dk.file _ s.ct=_
   rw[List.append_nil,pO]
   exact hw.f
  ·show bA (aR (Dk.file _ (1 -s.ct)))<_
   rw[sL pos]
   have:=hw.g
   simp only[Sh.on] at *
   rw[this]
   exact ho
 ·rw[u2,u3,u4,u6]
  refine ⟨rfl,?_,?_⟩
  ·rw[pO];exact hw.f
  ·rw[dd'];exact e.symm
end Go.Proofs.YtammnaafdhhjaaaGreat
namespace Go.Proofs.YtammnaafdhhjaaaGreat
open Go.RowKit Go.Proofs.Tryz
def eN (x y:Int):Rc:=⟨2,0,⟨x,y,0,0⟩,aZ,[],[]⟩
def eO:Rc:=⟨3,0,bT,aZ,[],[]⟩
def cZ (no:Nat)(m:Int)(pl sp:Nat):Rc:=⟨1,0,⟨no,m+1,pl,sp⟩,aZ,[],[]⟩
def cL (d:Ds):Rc:=⟨6,0,bT,{d.ms with g:=d.ms.g+1},d.it,d.ob⟩
theorem uA:Told eO:=⟨by decide,⟨by decide,by decide⟩,by simp[eO],by simp[eO]⟩
theorem uB {x y:Int}(h:pA x y=true):Told (eN x y):=
 ⟨by show ((0:Int)==0&&pA x y&&zU ⟨x,y,0,0⟩&&eU (eN x y))=true;rw[h];rfl,⟨by show (0:Nat)<_;decide,by show (0:Nat)<_;decide⟩,by simp[eN],by simp[eN]⟩
theorem uC {no:Nat}{m:Int}{pl sp:Nat}(hn:no<2)(h0:0<=m)(h1:m<65535)(hp:aS pl=true)(hq:aS sp=true)(wp:pl<4294967296)(wq:sp<4294967296):eF ⟨no,m+1,pl,sp⟩=true/\Told (cZ no m pl sp):=by
 have hi:eF ⟨no,m+1,pl,sp⟩=true:=by
  simp only[eF,pA]
  rw[hp,hq,decide_eq_true (by omega:1<=m+1),decide_eq_true (by omega:m+1<=65535)]
  rcases (by omega:no=0∨no=1) with rfl | rfl<;>rfl
 refine ⟨hi,?_,⟨wp,wq⟩,by simp[cZ],by simp[cZ]⟩
 show ((0:Int)==0&&eF ⟨no,m+1,pl,sp⟩&&eU (cZ no m pl sp))=true
 rw[hi];rfl
theorem aCb:∀(l:List It) (p:Option It),(∀q,p=some q->∀x∈l,lt q x)->vS l->(∀x∈l,eF x=true)->qV p l=true
 | [],_,_,_,_=>rfl
 | i::t,p,hp,ho,hi=>by
  have h':=List.pairwise_cons.1 ho
  show (eF i&&jY p i&&qV (some i) t)=true
  rw[hi i (.head _),aCb t (some i) (fun q hq x hx=>by injection hq with hq;subst hq;exact h'.1 x hx) h'.2 (fun x hx=>hi x (.tail _ hx))]
  cases p with
  | none=>rfl
  | some q=>
   have:jY (some q) i=true:=decide_eq_true ((rZ q i).2 (hp q rfl i (.head _)))
   rw[this];rfl
theorem pP {no:Nat}{cI cO:Int}{d:Ds}(h:HasD no cI cO d)(hI:cI<=16)(hO:cO<=8)(hg:d.ms.g<65535):Told (cL d):=by
 have m:=h.mo
 have tl:=h.tl
 have ol:=h.ol
 refine ⟨?_,⟨by show (0:Nat)<_;decide,by show (0:Nat)<_;decide⟩,fun i hi=>(h.it i hi).2,fun e he=>(h.en e he).2.1⟩
 show ((0:Int)==0&&jM bT&&(zQ {d.ms with g:=d.ms.g+1}&&(decide (d.it.length<=16)&&qV none d.it)&&(decide (d.ob.length<=8)&&fD 0 d.ob)))=true
 rw[h.oc,aCb d.it none (fun q hq=>by simp at hq) h.ord (fun x hx=>(h.it x hx).1),decide_eq_true (by omega:d.it.length<=16),decide_eq_true (by omega:d.ob.length<=8)]
 have e:zQ {d.ms with g:=d.ms.g+1}=true:=by
  have g0:=m.g0;have m0:=m.m0;have m1:=m.m1;have s0:=m.s0;have s1:=m.s1;have a0:=m.a0;have a1:=m.a1;have n0:=m.n0;have n1:=m.n1
  simp[zQ,eE]
  omega
 rw[e];rfl
theorem HasD.base {no:Nat}{cI cO:Int}{d:Ds}(h:HasD no cI cO d)(hg:d.ms.g<65535):HasD no cI cO ⟨d.it,d.ob,{d.ms with g:=d.ms.g+1}⟩:=
 ⟨h.ord,h.it,h.tl,h.ol,h.en,h.oc,⟨by have:=h.mo.g0;show 0<=d.ms.g+1;omega,by show d.ms.g+1<=65535;omega,h.mo.m0,h.mo.m1,h.mo.s0,h.mo.s1,h.mo.a0,h.mo.a1,h.mo.n0,h.mo.n1⟩,h.mi⟩
theorem wF {s:Sh}(x y:Int):cM s.th x y=true↔∃i∈s.ds.it,i.sh=x/\i.nu=y:=by
 unfold cM
 rw[List.any_eq_true]
 constructor
 ·rintro ⟨i,hi,e⟩
  exact ⟨i,(bG s.th).mem_iff.2 hi,of_decide_eq_true e⟩
 ·rintro ⟨i,hi,e⟩
  exact ⟨i,(bG s.th).mem_iff.1 hi,decide_eq_true e⟩
def Rs.mint (no:Nat)(cI cJ:Int)(d:Ds)(r:Rs)(pl sp:Nat):(Int×Int×Int)×Rs:=
 if (aS pl&&aS sp)=false∨¬cK pl=(no:Int) then ((0,0,2),r)
 else if cI<=(d.it.length:Int)∨65535<=d.ms.m then ((0,0,6),r)
 else if (r.jrn cJ (cZ no d.ms.m pl sp)).1=0 then ((no,d.ms.m+1,0),(r.jrn cJ (cZ no d.ms.m pl sp)).2) else ((0,0,(r.jrn cJ (cZ no d.ms.m pl sp)).1),(r.jrn cJ (cZ no d.ms.m pl sp)).2)
theorem aDx {s:Sh}{r:Rs}(h:Good s r)(hu:s.up=true)(pl sp:Nat)(wp:pl<4294967296)(wq:sp<4294967296):(r.mint s.no s.cI s.cJ s.ds pl sp).1=(s.mint pl sp).1/\Good (s.mint pl sp).2 (r.mint s.no s.cI s.cJ s.ds pl sp).2:=by
 obtain ⟨rs,_,_,_,_,has,_,_⟩:=h.has hu
 have len:s.ds.it.length=s.th.length:=(bG s.th).length_eq
 have m0:0<=s.ms.m:=has.mo.m0
 have m1:s.ms.m<=65535:=has.mo.m1
 have em:s.ds.ms=s.ms:=rfl
 unfold Rs.mint Sh.mint
 split
 ·exact ⟨rfl,h⟩
 rename_i c1
 by_cases c2:s.cI<=(s.th.length:Int)∨s.ms.m=65535
 ·rw[if_pos c2,if_pos (by rw[len,em];omega)]
  exact ⟨rfl,h⟩
 rw[if_neg c2,if_neg (by rw[len,em];omega)]
 have hn:aS pl=true/\aS sp=true:=by
  have:¬(aS pl&&aS sp)=false:=fun e=>c1 (.inl e)
  simpa using this
 obtain ⟨hi,ht⟩:=uC (no:=s.no) (m:=s.ms.m) h.no m0 (by omega) hn.1 hn.2 wp wq
 have e:s.mintRec pl sp=cZ s.no s.ds.ms.m pl sp:=rfl
 rw[e]
 have no2:=h.no
 have jg:=mC h hu (p:=cZ s.no s.ds.ms.m pl sp) ht ⟨.inl rfl,fun _=>⟨rfl,rfl,by rw[em];omega,by rw[len];omega,hi,wp,wq⟩,fun h=>absurd h (by simp[cZ]),⟨by show bD (s.no:Int);unfold bD;omega,by show bD (s.ms.m+1);unfold bD;omega⟩,fun h=>absurd h (by simp[cZ]),fun h=>absurd h (by simp[cZ])⟩
 obtain ⟨j1,j2⟩:=jg
 rw[j1]
 split
 ·exact ⟨rfl,j2⟩
 ·exact ⟨rfl,j2⟩
theorem uD {s:Sh}{r:Rs}(h:Good s r)(hu:s.up=true)(x y:Int)(hh:cM s.th x y=true):pA x y=true/\(r.jrn s.cJ (eN x y)).1=(s.jrn (eN x y)).1/\Good (s.jrn (eN x y)).2 (r.jrn s.cJ (eN x y)).2:=by
 obtain ⟨rs,_,_,_,_,has,_,_⟩:=h.has hu
 obtain ⟨i,hi,rfl,rfl⟩:=(wF x y).1 hh
 have hb:=(fI (has.it i hi).1).1
 exact ⟨hb,mC h hu (uB hb) ⟨.inr (.inl rfl),fun h=>absurd h (by simp[eN]),fun _=>⟨i,hi,rfl,rfl⟩,wD hb,fun h=>absurd h (by simp[eN]),fun h=>absurd h (by simp[eN])⟩⟩
theorem aDy {s:Sh}{r:Rs}(h:Good s r)(hu:s.up=true):(r.jrn s.cJ eO).1=(s.jrn eO).1/\Good (s.jrn eO).2 (r.jrn s.cJ eO).2:=
 mC h hu uA ⟨.inr (.inr (.inl rfl)),fun h=>absurd h (by simp[eO]),fun h=>absurd h (by simp[eO]),by unfold bD eO bT;decide,fun h=>absurd h (by simp[eO]),fun h=>absurd h (by simp[eO])⟩
def bE (q:Int)(i:It):Rc:=⟨4,q,i,aZ,[],[]⟩
def dN (q:Int):Rc:=⟨5,q,bT,aZ,[],[]⟩
theorem yW {q:Int}{i:It}(h0:1<=q)(h1:q<=65535)(hi:eF i=true)(wf:WfIt i):Told (bE q i):=by
 refine ⟨?_,wf,by simp[bE],by simp[bE]⟩
 show (decide (1<=q)&&eE q&&eF i&&eU (bE q i))=true
 have:eE q=true:=by simp[eE];omega
 rw[decide_eq_true h0,this,hi];rfl
theorem sM {q:Int}(h0:0<=q)(h1:q<=65535):Told (dN q):=by
 refine ⟨?_,⟨by show (0:Nat)<_;decide,by show (0:Nat)<_;decide⟩,by simp[dN],by simp[dN]⟩
 show (eE q&&jM bT&&eU (dN q))=true
 have:eE q=true:=by simp[eE];omega
 rw[this];rfl
def Ds.mayArr (no:Nat)(cI:Int)(d:Ds)(i:It):Prop:=cK i.pl=(no:Int)/\¬(i.sh=(no:Int)/\d.ms.m<i.nu)/\(∀x∈d.it,¬x.same i)/\(d.it.length:Int)<cI
theorem aGh {s:Sh}{r:Rs}(h:Good s r)(hu:s.up=true){i:It}(hn:s.ms.n<65535)(hi:eF i=true)(wf:WfIt i)(ma:s.ds.mayArr s.no s.cI i):(r.jrn s.cJ (bE (s.ms.n+1) i)).1=(s.jrn (bE (s.ms.n+1) i)).1/\Good (s.jrn (bE (s.ms.n+1) i)).2 (r.jrn s.cJ (bE (s.ms.n+1) i)).2:=by
 obtain ⟨rs,_,_,_,_,has,_,_⟩:=h.has hu
 have n0:0<=s.ms.n:=has.mo.n0
 obtain ⟨m1,m2,m3,m4⟩:=ma
 have e:s.ds.ms=s.ms:=rfl
 exact mC h hu (yW (by omega) (by omega) hi wf) ⟨.inr (.inr (.inr (.inl rfl))),fun h=>absurd h (by simp[bE]),fun h=>absurd h (by simp[bE]),wD (fI hi).1,fun _=>⟨rfl,by rw[e];exact hn,m4,hi,wf,m3,fun hs=>by rw[e] at m2 ⊢;have:¬s.ms.m<i.nu:=fun hx=>m2 ⟨hs,hx⟩;show i.nu<=s.ms.m;omega⟩,fun h=>absurd h (by simp[bE])⟩
theorem aAV {s:Sh}{r:Rs}(h:Good s r)(hu:s.up=true){q:Int}(h1:s.ms.a<q)(h2:q<=s.ms.s):(r.jrn s.cJ (dN q)).1=(s.jrn (dN q)).1/\Good (s.jrn (dN q)).2 (r.jrn s.cJ (dN q)).2:=by
 obtain ⟨rs,_,_,_,_,has,_,_⟩:=h.has hu
 have a0:0<=s.ms.a:=has.mo.a0
 have s1:s.ms.s<=65535:=has.mo.s1
 exact mC h hu (sM (by omega) (by omega)) ⟨.inr (.inr (.inr (.inr rfl))),fun h=>absurd h (by simp[dN]),fun h=>absurd h (by simp[dN]),by unfold bD dN bT;simp,fun h=>absurd h (by simp[dN]),fun _=>⟨h1,h2⟩⟩
def Rs.snap (cJ:Int)(d:Ds)(r:Rs):Int×Rs:=
 if 65535<=d.ms.g then (5,r)
 else if cJ<((aY (cL d)).length:Int) then (5,r)
 else if (r.put (r.d.cut (1 -r.ct))).2=false then (3,(r.put (r.d.cut (1 -r.ct))).1)
 else if ((r.put (r.d.cut (1 -r.ct))).1.put ((r.put (r.d.cut (1 -r.ct))).1.d.append (1 -r.ct) (aY (cL d)))).2=false then (3,((r.put (r.d.cut (1 -r.ct))).1.put ((r.put (r.d.cut (1 -r.ct))).1.d.append (1 -r.ct) (aY (cL d)))).1)
 else
  let q:=((r.put (r.d.cut (1 -r.ct))).1.put ((r.put (r.d.cut (1 -r.ct))).1.d.append (1 -r.ct) (aY (cL d)))).1
  if (q.put (q.d.sync (1 -r.ct))).2=false then (3,(q.put (q.d.sync (1 -r.ct))).1) else (0,{(q.put (q.d.sync (1 -r.ct))).1 with ct:=1 -r.ct})
theorem aDz {s:Sh}{r:Rs}(h:Good s r)(hu:s.up=true):(r.snap s.cJ s.ds).1=s.snap.1/\Good s.snap.2 (r.snap s.cJ s.ds).2:=by
 obtain ⟨rs,told,hf,hds,rp,has,hg,ho⟩:=h.has hu
 have hct:=h.ct
 have g0:0<=s.ms.g:=has.mo.g0
 have g1:s.ms.g<=65535:=has.mo.g1
 have eg:s.ds.ms.g=s.ms.g:=rfl
 unfold Rs.snap Sh.snap
 by_cases c1:s.ms.g=65535
 ·rw[if_pos c1,if_pos (by omega)]
  exact ⟨rfl,h⟩
 rw[if_neg c1,if_neg (by omega)]
 have e:s.snapRec=cL s.ds:=rfl
 rw[e]
 split
 ·exact ⟨rfl,h⟩
 rename_i c2
 have hlt:s.ds.ms.g<65535:=by omega
 have tb:=pP has h.i1 h.o1 hlt
 have hb:=has.base hlt
 have wh:Wh s.dk (1 -s.ct) (s.dk.file (1 -s.ct)) (dE rs):=⟨rfl,by rw[show 1 -(1 -s.ct)=s.ct by omega];exact hf,h.w0,h.w1⟩
 have hc1:1 -s.ct<2:=by omega
 have hfl:(aY (cL s.ds)).length<=2000:=by have:=h.j1;omega
 rw[h.rct]
 have old:∀(D:Dk) (l:List UInt8),aR l=[]->Wh D (1 -s.ct) l (dE rs)->Fl s.no s.cI s.cO D s.ct rs:=fun D l hl hw=>by
  refine ⟨told,by rw[<- hds];exact rp,⟨[],by rw[List.append_nil];have:=hw.g;rwa [show 1 -(1 -s.ct)=s.ct by omega] at this,scan_nil.1,scan_nil.2⟩,?_⟩
  rw[hw.f,hl,hg]
  show (-1:Int)<_
  omega
 have new:∀(D:Dk),Wh D (1 -s.ct) (aY (cL s.ds)) (dE rs)->Fl s.no s.cI s.cO D (1 -s.ct) [cL s.ds]/\D.file (1 -s.ct)=dE [cL s.ds]:=fun D hw=>by
  have e1:D.file (1 -s.ct)=dE [cL s.ds]:=by rw[hw.f];simp[dE]
  refine ⟨⟨by intro x hx;rw[List.mem_singleton.1 hx];exact tb,.base (cL s.ds) rfl hb,⟨[],by rw[List.append_nil];exact e1,scan_nil.1,scan_nil.2⟩,?_⟩,e1⟩
  rw[hw.g,(nQ told).1,hg]
  show s.ms.g<s.ms.g+1
  omega
 have dn:∀(D E:Dk),DkEq D E->D.Ok->wE E.kp->(∃c rs',c<2/\Fl s.no s.cI s.cO D c rs')->D.l0=D.f0.length->D.l1=D.f1.length->Good (s.down.on D) ⟨false,E,s.ct⟩:=by
  rintro D E he hk kb ⟨c,rs',hc,fl⟩ w0 w1
  exact ⟨h.no,h.i0,h.i1,h.o0,h.o1,h.j1,h.ct,rfl,rfl,he,hk,w0,w1,kb,c,rs',hc,fl,fun h=>absurd h (by simp[Sh.on,Sh.down])⟩
 have part:∀(D:Dk) (j:Nat),j<=(aY (cL s.ds)).length->Wh D (1 -s.ct) ([]++(aY (cL s.ds)).take j) (dE rs)->∃c rs',c<2/\Fl s.no s.cI s.cO D c rs':=fun D j hj hw=>by
  rw[List.nil_append] at hw
  by_cases hk:j<(aY (cL s.ds)).length
  ·exact ⟨s.ct,rs,hct,old D _ (yE tb j hk).1 hw⟩
  ·rw[List.take_of_length_le (by omega)] at hw
   exact ⟨1 -s.ct,_,hc1,(new D hw).1⟩
 obtain ⟨e1,e2,e3⟩:=h.dk.cut (1 -s.ct) r.d.kp
 obtain ⟨cu1,cu2⟩:=wh.cut hc1
 have okC:=h.ok.cut (1 -s.ct)
 cases ha:(s.dk.cut (1 -s.ct)).2
 ·rw[Rs.put_no r (e1.trans ha)]
  simp only[if_true]
  have hw:=cu1 ha
  refine ⟨trivial,?_⟩
  rw[h.rct]
  refine dn _ _ (e3 ha) okC h.kb ⟨s.ct,rs,hct,told,by rw[<- hds];exact rp,⟨[],?_,scan_nil.1,scan_nil.2⟩,?_⟩ hw.l0 hw.l1
  ·have:=hw.g
   rw[show 1 -(1 -s.ct)=s.ct by omega] at this
   rw[List.append_nil];exact this
  ·rw[hw.f,hg];exact ho
 rw[Rs.put_yes r (e1.trans ha)]
 simp only[Bool.true_eq_false,if_false]
 have hwC:=cu2 ha
 have kC:wE (r.d.cut (1 -s.ct)).1.kp:=pN h.kb (aGg _ _)
 obtain ⟨f1,f2,f3⟩:=(e2 ha).append (1 -s.ct) (aY (cL s.ds)) (r.d.cut (1 -s.ct)).1.kp
 obtain ⟨ap1,ap2⟩:=hwC.appended hc1 (aY (cL s.ds))
 have hl0:((s.dk.cut (1 -s.ct)).1.file (1 -s.ct)).length+(aY (cL s.ds)).length<=10000:=by rw[hwC.f];simp;omega
 have okA:=(okC.append (1 -s.ct) (aY (cL s.ds)) hl0).act
 cases hb2:((s.dk.cut (1 -s.ct)).1.append (1 -s.ct) (aY (cL s.ds))).2
 ·rw[Rs.put_no _ (f1.trans hb2)]
  simp only[if_true]
  obtain ⟨j,hj,hw⟩:=ap1 hb2
  refine ⟨trivial,?_⟩
  rw[h.rct]
  exact dn _ _ (f3 hb2) okA kC (part _ j hj hw) hw.l0 hw.l1
 rw[Rs.put_yes _ (f1.trans hb2)]
 simp only[Bool.true_eq_false,if_false]
 have kA:wE ((r.d.cut (1 -s.ct)).1.append (1 -s.ct) (aY (cL s.ds))).1.kp:=pN kC (mQ _ _ _)
 obtain ⟨y1,y2,y3⟩:=(f2 hb2).sync (1 -s.ct) ((r.d.cut (1 -s.ct)).1.append (1 -s.ct) (aY (cL s.ds))).1.kp
 obtain ⟨sy1,sy2⟩:=ap2 hb2
 have okB:=Dk.Ok.sync okA (1 -s.ct)
 cases hb3:(((s.dk.cut (1 -s.ct)).1.append (1 -s.ct) (aY (cL s.ds))).1.sync (1 -s.ct)).2
 ·rw[Rs.put_no _ (y1.trans hb3)]
  simp only[if_true]
  obtain ⟨j,hj,hw⟩:=sy1 hb3
  refine ⟨trivial,?_⟩
  rw[h.rct]
  exact dn _ _ (y3 hb3) okB kA (part _ j hj hw) hw.l0 hw.l1
 rw[Rs.put_yes _ (y1.trans hb3)]
 simp only[Bool.true_eq_false,if_false]
 have hw:=sy2 hb3
 rw[List.nil_append] at hw
 refine ⟨trivial,h.no,h.i0,h.i1,h.o0,h.o1,h.j1,hc1,h.up,rfl,y2 hb3,okB,hw.l0,hw.l1,pN kA (aCa _ _),1 -s.ct,[cL s.ds],hc1,(new _ hw).1,fun _=>⟨rfl,(new _ hw).2,rfl⟩⟩
theorem aAW {s:Sh}{r:Rs}(h:Good s r)(keep:Int):Good (s.down.on (s.dk.crash keep)) (r.lost keep):=by
 obtain ⟨c,rs,hc,fl,_⟩:=h.jn
 have wh:Wh s.dk c (s.dk.file c) (s.dk.file (1 -c)):=⟨rfl,rfl,h.w0,h.w1⟩
 have hw:=wh.crash hc keep
 refine ⟨h.no,h.i0,h.i1,h.o0,h.o1,h.j1,h.ct,rfl,h.rct,h.dk.crash keep r.d.kp,h.ok.crash keep,hw.l0,hw.l1,h.kb,c,rs,hc,⟨fl.told,fl.rp,?_,?_⟩,fun h=>absurd h (by simp[Sh.on,Sh.down])⟩
 ·obtain ⟨t,h1,h2⟩:=fl.file
  exact ⟨t,by rw[show (s.down.on (s.dk.crash keep)).dk=s.dk.crash keep from rfl,hw.f];exact h1,h2⟩
 ·rw[show (s.down.on (s.dk.crash keep)).dk=s.dk.crash keep from rfl,hw.g];exact fl.oth
theorem aAX {s:Sh}{r:Rs}(h:Good s r)(k keep:Int)(h0:0<=k)(h1:k<=9223372036854775807)(hk:wE keep):Good (s.on {s.dk with un:=k,kp:=keep}) ⟨r.up,{r.d with un:=k,kp:=keep},r.ct⟩:=
 ⟨h.no,h.i0,h.i1,h.o0,h.o1,h.j1,h.ct,h.up,h.rct,⟨h.dk.f0,h.dk.l0,h.dk.f1,h.dk.l1,rfl,fun _=>rfl⟩,⟨h.ok.a0,h.ok.a1,h.ok.b0,h.ok.b1,h0,h1⟩,h.w0,h.w1,hk,by
  obtain ⟨c,rs,hc,fl,hx⟩:=h.jn
  exact ⟨c,rs,hc,⟨fl.told,fl.rp,fl.file,fl.oth⟩,hx⟩⟩
theorem yX:∀(l:List Rc) (s:Sh) (r:Rc),Leg s l->DoOk (l.foldl Sh.doR s) r->Leg s (l++[r])
 | [],_,_,_,h=>⟨h,trivial⟩
 | x::l,s,r,h,h'=>⟨h.1,yX l (s.doR x) r h.2 h'⟩
theorem Rp.runs {no:Nat}{cI cO:Int}{rs:List Rc}{d:Ds}(h:Rp no cI cO rs d)(hI:cI<=16)(hO:cO<=8)(s:Sh)(h1:s.no=no)(h2:s.cI=cI)(h3:s.cO=cO):(rs.foldl Sh.doR s).ds=d/\(∀hp:0<rs.length,(rs[0]).kind=6/\(rs[0]).items.length<=1000/\(∀x∈(rs[0]).items,bD x.sh/\bD x.nu)/\Leg (s.doR rs[0]) rs.tail):=by
 refine Rp.ind (motive:=fun rs d=>(rs.foldl Sh.doR s).ds=d/\(∀hp:0<rs.length,(rs[0]).kind=6/\(rs[0]).items.length<=1000/\(∀x∈(rs[0]).items,bD x.sh/\bD x.nu)/\Leg (s.doR rs[0]) rs.tail)) ?_ ?_ h
 ·intro b hk hh
  refine ⟨?_,fun _=>⟨hk,?_,fun x hx=>wD (fI (hh.it x hx).1).1,trivial⟩⟩
  ·show (s.doR b).ds=_
   unfold Sh.doR
   rw[if_pos hk]
   show (⟨cH (b.items.foldl dB []),_,_⟩:Ds)=_
   rw[yU b.items [] (by simpa using hh.ord.imp pX),List.nil_append,yC hh.ord]
   rfl
  ·have:=hh.tl
   show b.items.length<=1000
   simp only at this
   omega
 ·intro rs d r h ok ih
  obtain ⟨i1,i2⟩:=ih
  have f:=h.facts
  have up:=vZ rs s
  have e1:(rs.foldl Sh.doR s).no=no:=up.2.2.2.1.trans h1
  have e2:(rs.foldl Sh.doR s).cI=cI:=up.2.2.2.2.1.trans h2
  have e3:(rs.foldl Sh.doR s).cO=cO:=up.2.2.2.2.2.1.trans h3
  have has:HasD (rs.foldl Sh.doR s).no (rs.foldl Sh.doR s).cI (rs.foldl Sh.doR s).cO (rs.foldl Sh.doR s).ds:=by rw[e1,e2,e3,i1];exact f.2.2.1
  have ok':DOk (rs.foldl Sh.doR s).no (rs.foldl Sh.doR s).cI (rs.foldl Sh.doR s).ds r:=by rw[e1,e2,i1];exact ok
  have nd:(rs.foldl Sh.doR s).th.Pairwise (fun a b=>¬a.same b):=mN (bG _).symm (has.ord.imp pX)
  constructor
  ·rw[List.foldl_append]
   show ((rs.foldl Sh.doR s).doR r).ds=_
   rw[(aGe nd has ok').2,e1,e3,i1]
  ·intro _
   have g:=ok'.sh has (by rw[e2];exact hI) (by rw[e3];exact hO)
   obtain ⟨b,t,rfl,_⟩:=h.head
   obtain ⟨j1,j2,j3,j4⟩:=i2 (by simp)
   exact ⟨j1,j2,j3,yX t _ r j4 g⟩
def Rs.pick (r:Rs):Nat:=if (if -1<bA (aR r.d.f0) then bA (aR r.d.f0) else -1)<bA (aR r.d.f1) then 1 else (if -1<bA (aR r.d.f0) then 0 else r.ct)
def Rs.restart (r:Rs):Rs:=⟨true,r.d.shorten r.pick (bK (r.d.file r.pick)).2,r.pick⟩
theorem kX {s:Sh}{r:Rs}(h:Good s r):Jnl s.begun (aR (s.dk.file s.dk.choice))/\Good s.restart r.restart:=by
 obtain ⟨c,rs,hc,fl,_⟩:=h.jn
 obtain ⟨t,ht,hs,hn⟩:=fl.file
 have e1:aR (s.dk.file c)=rs:=by rw[ht,(mO fl.told t).1,hs,List.append_nil]
 have e2:(bK (s.dk.file c)).2=(dE rs).length:=by rw[ht,(mO fl.told t).2,hn,Nat.add_zero]
 have e3:(s.dk.file c).take (dE rs).length=dE rs:=by rw[ht,List.take_left]
 have f:=fl.rp.facts
 have g0:0<=bA rs:=by rw[f.2.2.2];exact f.2.2.1.mo.g0
 have oth:=fl.oth
 have ch:s.dk.choice=c:=by
  unfold Dk.choice
  rcases (by omega:c=0∨c=1) with rfl | rfl
  ·have a1:aR s.dk.f0=rs:=e1
   have a2:bA (aR s.dk.f1)<bA rs:=oth
   rw[a1,if_neg (by omega)]
  ·have a1:aR s.dk.f1=rs:=e1
   have a2:bA (aR s.dk.f0)<bA rs:=oth
   rw[a1,if_pos a2]
 have pk:r.pick=c:=by
  unfold Rs.pick
  rw[h.dk.f0,h.dk.f1]
  rcases (by omega:c=0∨c=1) with rfl | rfl
  ·have a1:aR s.dk.f0=rs:=e1
   have a2:bA (aR s.dk.f1)<bA rs:=oth
   rw[a1,if_pos (by omega:-1<bA rs),if_neg (by omega),if_pos (by omega)]
  ·have a1:aR s.dk.f1=rs:=e1
   have a2:bA (aR s.dk.f0)<bA rs:=oth
   rw[a1]
   refine if_pos ?_
   split<;>omega
 have hd:s.begun.dk=s.dk.shorten c (dE rs).length:=by unfold Sh.begun;rw[ch,e2];rfl
 have rn:=fl.rp.runs h.i1 h.o1 s.begun rfl rfl rfl
 rw[ch,e1]
 refine ⟨⟨f.1,fun hp=>⟨(rn.2 hp).1,(rn.2 hp).2.1,(rn.2 hp).2.2.1⟩,fun hp=>(rn.2 hp).2.2.2,?_⟩,?_⟩
 ·have:=gQ (s.dk.file c)
  rw[e1] at this
  have:(s.dk.file c).length<=10000:=by
   unfold Dk.file
   split
   ·exact h.ok.b0
   ·exact h.ok.b1
  omega
 ·have up:=vZ rs s.begun
  obtain ⟨u1,u2,u3,u4,u5,u6,u7⟩:=up
  have er:s.restart={rs.foldl Sh.doR s.begun with up:=true}:=by unfold Sh.restart;rw[ch,e1]
  have d1:s.restart.dk=s.dk.shorten c (dE rs).length:=by rw[er];exact u2.trans hd
  have d2:s.restart.ct=c:=by rw[er];exact u3.trans (by show s.dk.choice=c;exact ch)
  have d3:s.restart.no=s.no:=by rw[er];exact u4
  have d4:s.restart.cI=s.cI:=by rw[er];exact u5
  have d5:s.restart.cO=s.cO:=by rw[er];exact u6
  have d6:s.restart.cJ=s.cJ:=by rw[er];exact u7
  have d7:s.restart.ds=fZ s.no s.cO rs:=by rw[er];exact rn.1
  have d8:s.restart.up=true:=rfl
  have rr:r.restart=⟨true,r.d.shorten c (dE rs).length,c⟩:=by
   unfold Rs.restart
   rw[pk,h.dk.file,e2]
  have le:(dE rs).length<=(s.dk.file c).length:=by rw[ht,List.length_append];omega
  have sh:s.dk.shorten c (dE rs).length=s.dk.put c (dE rs) (dE rs).length:=by unfold Dk.shorten;rw[e3]
  have sf:(s.dk.shorten c (dE rs).length).file c=dE rs/\(s.dk.shorten c (dE rs).length).file (1 -c)=s.dk.file (1 -c)/\(s.dk.shorten c (dE rs).length).l0=(s.dk.shorten c (dE rs).length).f0.length/\(s.dk.shorten c (dE rs).length).l1=(s.dk.shorten c (dE rs).length).f1.length:=by
   rw[sh]
   rcases (by omega:c=0∨c=1) with rfl | rfl
   ·exact ⟨rfl,rfl,rfl,h.w1⟩
   ·exact ⟨rfl,rfl,h.w0,rfl⟩
  rw[rr]
  refine ⟨by rw[d3];exact h.no,by rw[d4];exact h.i0,by rw[d4];exact h.i1,by rw[d5];exact h.o0,by rw[d5];exact h.o1,by rw[d6];exact h.j1,by rw[d2];exact hc,d8.symm,d2.symm,?_,?_,by rw[d1];exact sf.2.2.1,by rw[d1];exact sf.2.2.2,?_,c,rs,hc,?_,fun _=>⟨d2.symm,by rw[d1];exact sf.1,by rw[d3,d5];exact d7⟩⟩
  ·rw[d1]
   unfold Dk.shorten
   rw[h.dk.file]
   exact h.dk.put _ _ _
  ·rw[d1]
   exact h.ok.shorten c _ le
  ·show wE (Dk.put _ _ _ _).kp
   rw[aAU]
   exact h.kb
  ·rw[d1,d3,d4,d5]
   refine ⟨fl.told,fl.rp,⟨[],by rw[sf.1,List.append_nil],scan_nil.1,scan_nil.2⟩,?_⟩
   rw[sf.2.1]
   exact oth
theorem uE (no:Nat)(cI cO cJ:Int)(hn:no<2)(i0:1<=cI)(i1:cI<=16)(o0:1<=cO)(o1:cO<=8)(j1:cJ<=2000):Good (Sh.init no cI cO cJ).restart ⟨true,dk1,0⟩:=by
 have hb:HasD no cI cO ⟨[],[],⟨1,0,0,0,0⟩⟩:=⟨.nil,by simp,by simp;omega,by simp;omega,by simp,rfl,⟨by decide,by decide,by decide,by decide,by decide,by decide,by decide,by decide,by decide,by decide⟩,by simp⟩
 have g:Good (Sh.init no cI cO cJ) ⟨false,dk1,0⟩:=by
  refine ⟨hn,i0,i1,o0,o1,j1,by show 0<2;decide,rfl,rfl,⟨rfl,rfl,rfl,rfl,rfl,fun _=>rfl⟩,aGf,rfl,rfl,by decide,0,[cY],by decide,⟨by intro x hx;rw[List.mem_singleton.1 hx];exact told1,.base cY rfl hb,⟨[],by show aY cY=_;simp[dE],scan_nil.1,scan_nil.2⟩,?_⟩,fun h=>absurd h (by simp[Sh.init])⟩
  show bA (aR [])<bA [cY]
  rw[scan_nil.1]
  decide
 have:=(kX g).2
 have e:(⟨false,dk1,0⟩:Rs).restart=⟨true,dk1,0⟩:=by
  have pk:(⟨false,dk1,0⟩:Rs).pick=0:=by
   unfold Rs.pick
   show (if (if -1<bA (aR (aY cY)) then bA (aR (aY cY)) else -1)<bA (aR []) then 1 else (if -1<bA (aR (aY cY)) then 0 else 0))=0
   rw[scan1.1,scan_nil.1]
   rfl
  unfold Rs.restart
  rw[pk]
  show (⟨true,dk1.shorten 0 (bK (aY cY)).2,0⟩:Rs)=_
  rw[scan1.2]
  unfold Dk.shorten Dk.put dk1 Dk.file
  simp
 rw[e] at this
 exact this
end Go.Proofs.YtammnaafdhhjaaaGreat
namespace Go.Proofs.YtammnaafdhhjaaaGreat
open Go.RowKit Go.Proofs.Tryz
theorem aHN (bp b0 b1:Nat)(f0 f1:Value)(u0 u1:Bool)(i:Int)(pl sp:Nat)(w:World)(h:At (w.alloc (.cells #[.int .i64 0,.int .i64 0] 32)) bp (wN b0 b1 f0 f1))(h0:Calls prog 74 #[.pointer (some ⟨b0,0,none⟩)] (w.alloc (.cells #[.int .i64 0,.int .i64 0] 32)) fun e w'=>e=.returned (.bool u0)/\w'=(w.alloc (.cells #[.int .i64 0,.int .i64 0] 32)))(h1:Calls prog 74 #[.pointer (some ⟨b1,0,none⟩)] (w.alloc (.cells #[.int .i64 0,.int .i64 0] 32)) fun e w'=>e=.returned (.bool u1)/\w'=(w.alloc (.cells #[.int .i64 0,.int .i64 0] 32)))(Q:Ending->World->Prop)
  (hno:upE u0 u1 i≠0->∀w',Only (w.alloc (.cells #[.int .i64 0,.int .i64 0] 32)) w' (fun j=>j=w.heap.size)->Q (.returned (.tuple #[.agg #[.int .i64 0,.int .i64 0],.int .i64 (upE u0 u1 i)])) w')
  (hok:upE u0 u1 i=0->Calls prog 93 #[.pointer (some ⟨aC b0 b1 i,0,none⟩),.float .f32 pl,.float .f32 sp] (w.alloc (.cells #[.int .i64 0,.int .i64 0] 32)) fun e w'=>∃x y z:Int,e=.returned (.tuple #[.agg #[.int .i64 x,.int .i64 y],.int .i64 z])/\At w' w.heap.size [.int .i64 0,.int .i64 0]/\(∀w'',Only w' w'' (fun j=>j=w.heap.size)->Q (.returned (.tuple #[.agg #[.int .i64 x,.int .i64 y],.int .i64 z])) w'')):
  Calls prog 46 #[.pointer (some ⟨bp,0,none⟩),.int .i64 i,.float .f32 pl,.float .f32 sp] w Q:=by
 have U:=Hid.mk' (fY bp b0 b1 f0 f1 u0 u1 i (w.alloc (.cells #[.int .i64 0,.int .i64 0] 32)) h h0 h1)
 clear h h0 h1
 by_cases c:upE u0 u1 i=0
 ·have OK:=Hid.mk' (hok c)
  rw[c,if_pos rfl] at U
  clear hno hok c
  go_enter func46,ntmps46
  go_wp2_with fail
  refine Calls.mono U.out ?_
  rintro e w1 ⟨rfl,rfl⟩
  go_wp2_with fail
  refine Calls.mono OK.out ?_
  rintro e w2 ⟨x,y,z,rfl,at2,q⟩
  have A3:=at2.all [.int .i64 x,.int .i64 y] rfl
  have QQ:=Hid.mk' (q _ (cW w.heap.size [.int .i64 x,.int .i64 y] w2 0))
  have hf:=at2.f
  have c0:=at2.c 0 _ rfl
  have c1:=at2.c 1 _ rfl
  have k0:=A3.c 0 _ rfl
  have k1:=A3.c 1 _ rfl
  simp only[mR,Nat.reduceAdd] at k0 k1 QQ
  clear at2 q A3
  go_wp2
  exact bodyPost_ret (v:=.tuple #[.agg #[.int .i64 x,.int .i64 y],.int .i64 z]) (by simp[results,results46,go_sem, *]) rfl QQ.out
 ·have NO:=Hid.mk' (hno c)
  rw[if_neg c] at U
  have cb:(upE u0 u1 i !=0)=true:=by simpa using c
  have QQ:=Hid.mk' (NO.out _ (Only.refl _ _))
  generalize upE u0 u1 i=z at *
  clear hno hok NO
  go_enter func46,ntmps46
  go_wp2_with fail
  refine Calls.mono U.out ?_
  rintro e w1 ⟨rfl,rfl⟩
  go_wp2
  exact bodyPost_ret (v:=.tuple #[.agg #[.int .i64 0,.int .i64 0],.int .i64 z]) (by simp[results,results46,go_sem]) rfl QQ.out
theorem aGi (bp b0 b1:Nat)(f0 f1:Value)(u0 u1:Bool)(i:Int)(w:World)(h:At (w.alloc (.cells #[.int .i64 0,.int .i64 0,.int .i64 0,.int .i64 0,.int .i64 0] 44)) bp (wN b0 b1 f0 f1))(h0:Calls prog 74 #[.pointer (some ⟨b0,0,none⟩)] (w.alloc (.cells #[.int .i64 0,.int .i64 0,.int .i64 0,.int .i64 0,.int .i64 0] 44)) fun e w'=>e=.returned (.bool u0)/\w'=(w.alloc (.cells #[.int .i64 0,.int .i64 0,.int .i64 0,.int .i64 0,.int .i64 0] 44)))(h1:Calls prog 74 #[.pointer (some ⟨b1,0,none⟩)] (w.alloc (.cells #[.int .i64 0,.int .i64 0,.int .i64 0,.int .i64 0,.int .i64 0] 44)) fun e w'=>e=.returned (.bool u1)/\w'=(w.alloc (.cells #[.int .i64 0,.int .i64 0,.int .i64 0,.int .i64 0,.int .i64 0] 44)))(Q:Ending->World->Prop)
  (hno:upE u0 u1 i≠0->∀w',Only (w.alloc (.cells #[.int .i64 0,.int .i64 0,.int .i64 0,.int .i64 0,.int .i64 0] 44)) w' (fun j=>j=w.heap.size)->Q (.returned (.tuple #[.agg #[.int .i64 0,.int .i64 0,.int .i64 0,.int .i64 0,.int .i64 0],.int .i64 (upE u0 u1 i)])) w')
  (hok:upE u0 u1 i=0->Calls prog 41 #[.pointer (some ⟨aC b0 b1 i,0,none⟩)] (w.alloc (.cells #[.int .i64 0,.int .i64 0,.int .i64 0,.int .i64 0,.int .i64 0] 44)) fun e w'=>∃g m s a n:Int,e=.returned (.agg #[.int .i64 g,.int .i64 m,.int .i64 s,.int .i64 a,.int .i64 n])/\At w' w.heap.size [.int .i64 0,.int .i64 0,.int .i64 0,.int .i64 0,.int .i64 0]/\(∀w'',Only w' w'' (fun j=>j=w.heap.size)->Q (.returned (.tuple #[.agg #[.int .i64 g,.int .i64 m,.int .i64 s,.int .i64 a,.int .i64 n],.int .i64 0])) w'')):
  Calls prog 16 #[.pointer (some ⟨bp,0,none⟩),.int .i64 i] w Q:=by
 have U:=Hid.mk' (fY bp b0 b1 f0 f1 u0 u1 i (w.alloc (.cells #[.int .i64 0,.int .i64 0,.int .i64 0,.int .i64 0,.int .i64 0] 44)) h h0 h1)
 clear h h0 h1
 by_cases c:upE u0 u1 i=0
 ·have OK:=Hid.mk' (hok c)
  rw[c,if_pos rfl] at U
  clear hno hok c
  go_enter func16,ntmps16
  go_wp2_with fail
  refine Calls.mono U.out ?_
  rintro e w1 ⟨rfl,rfl⟩
  go_wp2_with fail
  refine Calls.mono OK.out ?_
  rintro e w2 ⟨g,m,s,a,n,rfl,at2,q⟩
  have A3:=at2.all [.int .i64 g,.int .i64 m,.int .i64 s,.int .i64 a,.int .i64 n] rfl
  have QQ:=Hid.mk' (q _ (cW w.heap.size [.int .i64 g,.int .i64 m,.int .i64 s,.int .i64 a,.int .i64 n] w2 0))
  have hf:=at2.f
  have c0:=at2.c 0 _ rfl
  have c1:=at2.c 1 _ rfl
  have c2:=at2.c 2 _ rfl
  have c3:=at2.c 3 _ rfl
  have c4:=at2.c 4 _ rfl
  have k0:=A3.c 0 _ rfl
  have k1:=A3.c 1 _ rfl
  have k2:=A3.c 2 _ rfl
  have k3:=A3.c 3 _ rfl
  have k4:=A3.c 4 _ rfl
  simp only[mR,Nat.reduceAdd] at k0 k1 k2 k3 k4 QQ
  clear at2 q A3
  go_wp2
  exact bodyPost_ret (v:=.tuple #[.agg #[.int .i64 g,.int .i64 m,.int .i64 s,.int .i64 a,.int .i64 n],.int .i64 0]) (by simp[results,results16,go_sem, *]) rfl QQ.out
 ·have NO:=Hid.mk' (hno c)
  rw[if_neg c] at U
  have cb:(upE u0 u1 i !=0)=true:=by simpa using c
  have QQ:=Hid.mk' (NO.out _ (Only.refl _ _))
  generalize upE u0 u1 i=z at *
  clear hno hok NO
  go_enter func16,ntmps16
  go_wp2_with fail
  refine Calls.mono U.out ?_
  rintro e w1 ⟨rfl,rfl⟩
  go_wp2
  exact bodyPost_ret (v:=.tuple #[.agg #[.int .i64 0,.int .i64 0,.int .i64 0,.int .i64 0,.int .i64 0],.int .i64 z]) (by simp[results,results16,go_sem]) rfl QQ.out
theorem aHO (bp b0 b1:Nat)(f0 f1:Value)(i k:Int)(w:World)(h:At w bp (wN b0 b1 f0 f1))(Q:Ending->World->Prop)
  (hno:¬aV i->Q (.returned (.tuple #[.string ⟨#[]⟩,.int .i64 2])) w) (hok:aV i->Calls prog 158 #[.pointer (some ⟨aC b0 b1 i,0,none⟩),.int .i64 k] w fun e w'=>∃x y,e=.returned (.tuple #[x,y])/\Q (.returned (.tuple #[x,y])) w'):
  Calls prog 118 #[.pointer (some ⟨bp,0,none⟩),.int .i64 i,.int .i64 k] w Q:=by
 by_cases c:aV i
 ·have U:=Hid.mk' (oP bp b0 b1 f0 f1 i w h c)
  have OK:=Hid.mk' (hok c)
  clear h hno hok c
  go_enter func118,ntmps118
  go_wp2_with fail
  refine Calls.mono U.out ?_
  rintro e w1 ⟨rfl,rfl⟩
  go_wp2_with fail
  refine Calls.mono OK.out ?_
  rintro e w2 ⟨x,y,rfl,q⟩
  go_wp2
  first | exact q | (go_ret;exact q) | (go_ret2;exact q)
 ·have U:=Hid.mk' (sD bp i w c)
  have NO:=Hid.mk' (hno c)
  clear h hno hok c
  go_enter func118,ntmps118
  go_wp2_with fail
  refine Calls.mono U.out ?_
  rintro e w1 ⟨rfl,rfl⟩
  go_wp2
  first | exact NO.out | (go_ret;exact NO.out) | (go_ret2;exact NO.out)
end Go.Proofs.YtammnaafdhhjaaaGreat
namespace Go.Proofs.YtammnaafdhhjaaaGreat
open Go.RowKit Go.Proofs.Tryz
structure PGd (p:Pr):Prop where
 g0:∃r,Good p.s0 r
 g1:∃r,Good p.s1 r
 n0:p.s0.no=0
 n1:p.s1.no=1
theorem PGd.at {p:Pr}(h:PGd p){i:Int}(hi:aV i):(∃r,Good (p.sh i) r)/\((p.sh i).no:Int)=i:=by
 rcases hi with rfl | rfl
 ·exact ⟨h.g0,by show (p.s0.no:Int)=0;rw[h.n0];rfl⟩
 ·exact ⟨h.g1,by show (p.s1.no:Int)=1;rw[h.n1];rfl⟩
theorem PGd.set {p:Pr}(h:PGd p){i:Int}(hi:aV i){s:Sh}(g:∃r,Good s r)(hn:s.no=(p.sh i).no):PGd (p.setSh i s):=by
 rcases hi with rfl | rfl
 ·exact ⟨g,h.g1,hn.trans h.n0,h.n1⟩
 ·exact ⟨h.g0,g,h.n0,hn.trans h.n1⟩
theorem eL {p:Pr}{i:Int}(h:p.upE i=0):aV i/\(p.sh i).up=true:=by
 have h':YtammnaafdhhjaaaGreat.upE p.s0.up p.s1.up i=0:=h
 unfold YtammnaafdhhjaaaGreat.upE at h'
 by_cases hi:aV i
 ·rw[if_pos hi] at h'
  refine ⟨hi,?_⟩
  by_cases hu:aC p.s0.up p.s1.up i=true
  ·rcases hi with rfl | rfl<;>exact hu
  ·rw[if_neg hu] at h';cases h'
 ·rw[if_neg hi] at h';cases h'
theorem kL {p:Pr}{i:Int}(hi:aV i):p.setSh i (p.sh i)=p:=by
 rcases hi with rfl | rfl<;>rfl
def Pr.onUp (p:Pr)(i:Int)(f:Sh->Int×Sh):Int×Pr:=if p.upE i=0 then ((f (p.sh i)).1,p.setSh i (f (p.sh i)).2) else (p.upE i,p)
def Pr.tick (p:Pr)(i:Int):Int×Pr:=p.onUp i (fun s=>s.jrn eO)
def Pr.snap (p:Pr)(i:Int):Int×Pr:=p.onUp i Sh.snap
def Sh.dest (s:Sh)(x y:Int):Int×Sh:=if cM s.th x y=true then s.jrn (eN x y) else (4,s)
def Pr.destroy (p:Pr)(i x y:Int):Int×Pr:=p.onUp i (fun s=>s.dest x y)
def Pr.crash (p:Pr)(i k:Int):Int×Pr:=p.onUp i (fun s=>(0,s.down.on (s.dk.crash k)))
def Pr.mint (p:Pr)(i:Int)(pl sp:Nat):(Int×Int×Int)×Pr:=if p.upE i=0 then (((p.sh i).mint pl sp).1,p.setSh i ((p.sh i).mint pl sp).2) else ((0,0,p.upE i),p)
def Pr.brk (p:Pr)(i k m:Int):Int×Pr:=if aV i/\0<=k then (0,p.setSh i ((p.sh i).on {(p.sh i).dk with un:=k,kp:=m})) else (2,p)
def Pr.restart (p:Pr)(i:Int):Int×Pr:=if aV i/\(p.sh i).up=false then (0,p.setSh i (p.sh i).restart) else (2,p)
section
variable {w : World} {bp : Nat} {A : Nat -> Prop} {p : Pr}
theorem aHP (h:PW w bp A p)(gd:PGd p)(i:Int):Calls prog 33 #[.pointer (some ⟨bp,0,none⟩),.int .i64 i] w fun e w'=>e=.returned (.int .i64 (p.tick i).1)/\PN w w' bp A (p.tick i).2:=by
 have h0:=h
 obtain ⟨b0,b1,v0,v1,F0,F1,hx,hA⟩:=h
 unfold Pr.tick Pr.onUp
 refine aHD bp b0 b1 v0 v1 p.s0.up p.s1.up i w hx.fx.at_ (fG b0 p.s0 F0 w hx.p0) (fG b1 p.s1 F1 w hx.p1) _ (fun hu=>?_) (fun hu=>?_)
 ·rw[if_neg (show ¬p.upE i=0 from hu)]
  exact ⟨rfl,h0.same⟩
 ·rw[if_pos (show p.upE i=0 from hu)]
  obtain ⟨hi,up⟩:=eL hu
  obtain ⟨⟨r,g⟩,_⟩:=gd.at hi
  obtain ⟨_,_,_,_,_,has,_⟩:=g.has up
  obtain ⟨d1,d2,d3,_⟩:=has.sh g.i1 g.o1
  refine (aHz (aC b0 b1 i) (p.sh i) (aC F0 F1 i) w (hx.at hi) up g.ct (by have:=g.j1;omega) ⟨d1,d2,d3⟩).mono ?_
  rintro e w1 ⟨rfl,p1,o1⟩
  exact ⟨_,rfl,rfl,hx.turn hA hi p1 o1⟩
theorem aHQ (h:PW w bp A p)(gd:PGd p)(i:Int):Calls prog 28 #[.pointer (some ⟨bp,0,none⟩),.int .i64 i] w fun e w'=>e=.returned (.int .i64 (p.snap i).1)/\PN w w' bp A (p.snap i).2:=by
 have h0:=h
 obtain ⟨b0,b1,v0,v1,F0,F1,hx,hA⟩:=h
 unfold Pr.snap Pr.onUp
 refine yL bp b0 b1 v0 v1 p.s0.up p.s1.up i w hx.fx.at_ (fG b0 p.s0 F0 w hx.p0) (fG b1 p.s1 F1 w hx.p1) _ (fun hu=>?_) (fun hu=>?_)
 ·rw[if_neg (show ¬p.upE i=0 from hu)]
  exact ⟨rfl,h0.same⟩
 ·rw[if_pos (show p.upE i=0 from hu)]
  obtain ⟨hi,up⟩:=eL hu
  obtain ⟨⟨r,g⟩,_⟩:=gd.at hi
  obtain ⟨_,_,_,_,_,has,_⟩:=g.has up
  obtain ⟨d1,d2,d3,_⟩:=has.sh g.i1 g.o1
  have tb:=fun hg=>pP has g.i1 g.o1 hg
  refine (aHB (aC b0 b1 i) (p.sh i) (aC F0 F1 i) w (hx.at hi) up d2 d1.l g.ct has.mo.g0 has.mo.g1 (fun hg=>(tb hg).m) ⟨⟨by show (0:Nat)<_;decide,by show (0:Nat)<_;decide⟩,fun x hx=>(has.it x hx).2,fun x hx=>(has.en x hx).2.1⟩).mono ?_
  rintro e w1 ⟨rfl,p1,o1⟩
  exact ⟨_,rfl,rfl,hx.turn hA hi p1 o1⟩
theorem aGj (h:PW w bp A p)(i k:Int):Calls prog 18 #[.pointer (some ⟨bp,0,none⟩),.int .i64 i,.int .i64 k] w fun e w'=>e=.returned (.int .i64 (p.crash i k).1)/\PN w w' bp A (p.crash i k).2:=by
 have h0:=h
 obtain ⟨b0,b1,v0,v1,F0,F1,hx,hA⟩:=h
 unfold Pr.crash Pr.onUp
 refine aFT bp b0 b1 v0 v1 p.s0.up p.s1.up i k w hx.fx.at_ (fG b0 p.s0 F0 w hx.p0) (fG b1 p.s1 F1 w hx.p1) _ (fun hu=>?_) (fun hu=>?_)
 ·rw[if_neg (show ¬p.upE i=0 from hu)]
  exact ⟨rfl,h0.same⟩
 ·rw[if_pos (show p.upE i=0 from hu)]
  obtain ⟨hi,up⟩:=eL hu
  refine (aFP (aC b0 b1 i) (p.sh i) (aC F0 F1 i) k w (hx.at hi)).mono ?_
  rintro e w1 ⟨rfl,p1,o1⟩
  exact ⟨_,rfl,rfl,hx.turn hA hi p1 o1⟩
theorem aGk (h:PW w bp A p)(i k m:Int)(hk:k<=9223372036854775807):Calls prog 27 #[.pointer (some ⟨bp,0,none⟩),.int .i64 i,.int .i64 k,.int .i64 m] w fun e w'=>e=.returned (.int .i64 (p.brk i k m).1)/\PN w w' bp A (p.brk i k m).2:=by
 have h0:=h
 obtain ⟨b0,b1,v0,v1,F0,F1,hx,hA⟩:=h
 unfold Pr.brk
 refine aFV bp b0 b1 v0 v1 i k m w hx.fx.at_ _ (fun hu=>?_) (fun hi=>?_)
 ·rw[if_neg (fun e=>hu e.1)]
  exact ⟨rfl,h0.same⟩
 ·refine (aFQ (aC b0 b1 i) (p.sh i) (aC F0 F1 i) k m w (hx.at hi) hk).mono ?_
  rintro e w1 (⟨hk0,rfl,rfl⟩ | ⟨hk0,rfl,p1,o1⟩)
  ·rw[if_neg (fun e=>by omega)]
   exact ⟨_,rfl,rfl,h0.same⟩
  ·rw[if_pos ⟨hi,hk0⟩]
   exact ⟨_,rfl,rfl,hx.turn hA hi p1 o1⟩
theorem aAY (h:PW w bp A p)(gd:PGd p)(i:Int):Calls prog 17 #[.pointer (some ⟨bp,0,none⟩),.int .i64 i] w fun e w'=>e=.returned (.int .i64 (p.restart i).1)/\PN w w' bp A (p.restart i).2:=by
 have h0:=h
 obtain ⟨b0,b1,v0,v1,F0,F1,hx,hA⟩:=h
 unfold Pr.restart
 refine aAM bp b0 b1 v0 v1 i w hx.fx.at_ _ (fun hu=>?_) (fun hi=>?_)
 ·rw[if_neg (fun e=>hu e.1)]
  exact ⟨rfl,h0.same⟩
 ·cases hu:(p.sh i).up
  ·rw[if_pos ⟨hi,rfl⟩]
   obtain ⟨⟨r,g⟩,_⟩:=gd.at hi
   obtain ⟨j1,_⟩:=kX g
   refine (sJ (aC b0 b1 i) (p.sh i) (aC F0 F1 i) w (hx.at hi) hu j1).mono ?_
   rintro e w1 ⟨rfl,p1,o1⟩
   exact ⟨_,rfl,rfl,hx.turn hA hi p1 o1⟩
  ·rw[if_neg (fun e=>by simp at e)]
   refine (aAS (aC b0 b1 i) (p.sh i) (aC F0 F1 i) w (hx.at hi) hu).mono ?_
   rintro e w1 ⟨rfl,rfl⟩
   exact ⟨_,rfl,rfl,h0.same⟩
theorem aAZ (h:PW w bp A p)(gd:PGd p)(i x y:Int)(hx':bD x)(hy:bD y):Calls prog 48 #[.pointer (some ⟨bp,0,none⟩),.int .i64 i,.agg #[.int .i64 x,.int .i64 y]] w fun e w'=>e=.returned (.int .i64 (p.destroy i x y).1)/\PN w w' bp A (p.destroy i x y).2:=by
 have g0:=World.grownBy_alloc w (.cells #[.int .i64 x,.int .i64 y] 32) none
 have h0:=h.grown g0
 have h1:=h0
 obtain ⟨b0,b1,v0,v1,F0,F1,hx,hA⟩:=h0
 unfold Pr.destroy Pr.onUp
 refine aAL bp b0 b1 v0 v1 p.s0.up p.s1.up i x y w hx.fx.at_ (fG b0 p.s0 F0 _ hx.p0) (fG b1 p.s1 F1 _ hx.p1) _ (fun hu=>?_) (fun hu=>?_)
 ·rw[if_neg (show ¬p.upE i=0 from hu)]
  exact ⟨rfl,PN.grown g0 h1.same⟩
 ·rw[if_pos (show p.upE i=0 from hu)]
  obtain ⟨hi,up⟩:=eL hu
  obtain ⟨⟨r,g⟩,_⟩:=gd.at hi
  refine (aAK (aC b0 b1 i) (p.sh i) (aC F0 F1 i) x y _ (hx.at hi) up g.ct (by have:=g.j1;omega) hx' hy (fun hh=>(uD g up x y hh).1)).mono ?_
  rintro e w1 ⟨d1,d2⟩
  cases hh:cM (p.sh i).th x y
  ·obtain ⟨rfl,p1,o1⟩:=d1 hh
   have e:(p.sh i).dest x y=(4,p.sh i):=if_neg (by rw[hh];simp)
   simp only[e]
   exact ⟨_,rfl,rfl,PN.grown g0 (hx.turn hA hi p1 o1)⟩
  ·obtain ⟨rfl,p1,o1⟩:=d2 hh
   have e:(p.sh i).dest x y=(p.sh i).jrn (eN x y):=if_pos hh
   simp only[e]
   exact ⟨_,rfl,rfl,PN.grown g0 (hx.turn hA hi p1 o1)⟩
theorem aHR (h:PW w bp A p)(gd:PGd p)(i:Int)(pl sp:Nat)(hp:pl<4294967296)(hq:sp<4294967296):Calls prog 46 #[.pointer (some ⟨bp,0,none⟩),.int .i64 i,.float .f32 pl,.float .f32 sp] w fun e w'=>e=.returned (.tuple #[.agg #[.int .i64 (p.mint i pl sp).1.1,.int .i64 (p.mint i pl sp).1.2.1],.int .i64 (p.mint i pl sp).1.2.2])/\PN w w' bp A (p.mint i pl sp).2:=by
 have g0:=World.grownBy_alloc w (.cells #[.int .i64 0,.int .i64 0] 32) none
 obtain ⟨b0,b1,v0,v1,F0,F1,hw,hA⟩:=h
 have hx:=hw.only (Only.grown g0) (by simp)
 have nb:∀j,pxF bp v0 v1 F0 F1 j->j≠w.heap.size:=fun j hj e=>by have:=hw.lt hj;omega
 have zA:(w.alloc (.cells #[.int .i64 0,.int .i64 0] 32)).heap.size=w.heap.size+1:=by simp
 unfold Pr.mint
 refine aHN bp b0 b1 v0 v1 p.s0.up p.s1.up i pl sp w hx.fx.at_ (fG b0 p.s0 F0 _ hx.p0) (fG b1 p.s1 F1 _ hx.p1) _ (fun hu w1 o1=>?_) (fun hu=>?_)
 ·rw[if_neg (show ¬p.upE i=0 from hu)]
  exact ⟨rfl,⟨b0,b1,v0,v1,F0,F1,hx.only o1 nb,fun j hj=>.inl (hA j hj)⟩,((Only.grown g0).mono (by simp)).trans (o1.mono (fun j _ e=>.inr (by omega)))⟩
 ·rw[if_pos (show p.upE i=0 from hu)]
  obtain ⟨hi,up⟩:=eL hu
  obtain ⟨⟨r,g⟩,hno⟩:=gd.at hi
  obtain ⟨_,_,_,_,_,has,_⟩:=g.has up
  have pl':∀j,aC F0 F1 i j->j<(w.alloc (.cells #[.int .i64 0,.int .i64 0] 32)).heap.size:=fun j hj=>by
   rcases hi with rfl | rfl
   ·exact hx.l0 j hj
   ·exact hx.l1 j hj
  have pn:∀j,aC F0 F1 i j->j≠w.heap.size:=fun j hj=>by
   rcases hi with rfl | rfl
   ·exact nb j (.inr (.inl hj))
   ·exact nb j (.inr (.inr hj))
  refine (aHA (aC b0 b1 i) (p.sh i) (aC F0 F1 i) pl sp _ (hx.at hi) pl' up g.ct (by have:=g.j1;omega) g.no has.mo.m0 has.mo.m1 hp hq).mono ?_
  rintro e w2 ⟨rfl,p1,o1⟩
  obtain ⟨q1,q2⟩:=hx.turn (fun j hj=>hj) hi p1 o1
  refine ⟨_,_,_,rfl,(At.new w [.int .i64 0,.int .i64 0] 32).only o1 (fun e=>pn _ e rfl),fun w3 o3=>⟨rfl,(q1.only o3 (fun j _ e=>?_)).mono (fun j _ e=>?_),?_⟩⟩
  ·rcases e with e | e
   ·exact nb j e
   ·show ¬j=w.heap.size
    omega
  ·rcases e with e | e
   ·exact .inl (hA j e)
   ·exact .inr (by omega)
  ·refine ((Only.grown g0).mono (by simp)).trans ((q2.mono (fun j _ e=>.inl (hA j e))).trans (o3.mono (fun j _ e=>.inl (.inr (by omega)))))
end
end Go.Proofs.YtammnaafdhhjaaaGreat
namespace Go.Proofs.YtammnaafdhhjaaaGreat
open Go.RowKit Go.Proofs.Tryz
theorem sN (e:En):(dV e).length=16:=by
 unfold dV enc cG cX
 simp[n2,gZ,n4]
theorem oT (n:Int):(jN n).length=5:=by
 unfold jN enc cG gH
 simp[n2]
theorem aCc (n:Int):jN n≠[]:=fun e=>by
 have:=oT n
 rw[e] at this
 cases this
def Pr.drop (p:Pr)(i k:Int):Int×Pr:=(kP p.f0 p.f1 i k,⟨p.s0,p.s1,(fH p.f0 p.f1 (fB · k) i).1,(fH p.f0 p.f1 (fB · k) i).2⟩)
def Pr.double (p:Pr)(i k:Int):Int×Pr:=(kP p.f0 p.f1 i k,⟨p.s0,p.s1,(fH p.f0 p.f1 (cN · k) i).1,(fH p.f0 p.f1 (cN · k) i).2⟩)
def Pr.spoil (p:Pr)(i k n:Int):Int×Pr:=(kP p.f0 p.f1 i k,⟨p.s0,p.s1,(fH p.f0 p.f1 (dU · k n) i).1,(fH p.f0 p.f1 (dU · k n) i).2⟩)
def Pr.inject (p:Pr)(i:Int)(t:List UInt8):Int×Pr:=(aFW i t.length,⟨p.s0,p.s1,(qC p.f0 p.f1 t i).1,(qC p.f0 p.f1 t i).2⟩)
def Pr.send (p:Pr)(i:Int):Int×Pr:=if p.upE i=0 then (0,⟨p.s0,p.s1,(tX p.f0 p.f1 (p.sh i).ob i).1,(tX p.f0 p.f1 (p.sh i).ob i).2⟩) else (p.upE i,p)
def Pr.reply (p:Pr)(i:Int)(t:List UInt8):Pr:=if t=[] then p else ⟨p.s0,p.s1,(bN p.f0 p.f1 (dX (aC p.f0 p.f1 (1 -i)) t) (1 -i)).1,(bN p.f0 p.f1 (dX (aC p.f0 p.f1 (1 -i)) t) (1 -i)).2⟩
def Pr.deliver (p:Pr)(i k:Int):Int×Pr:=
 if kP p.f0 p.f1 i k≠0 then (kP p.f0 p.f1 i k,p)
 else if (p.sh i).up=false then (0,(p.drop i k).2)
 else (((p.sh i).hear (lH (p.fl i) k)).1.1,(((p.drop i k).2.setSh i ((p.sh i).hear (lH (p.fl i) k)).2).reply i ((p.sh i).hear (lH (p.fl i) k)).1.2))
section
variable {w : World} {bp : Nat} {A : Nat -> Prop} {p : Pr}
theorem aHS (h:PW w bp A p)(i k:Int):Calls prog 35 #[.pointer (some ⟨bp,0,none⟩),.int .i64 i,.int .i64 k] w fun e w'=>e=.returned (.int .i64 (p.drop i k).1)/\PN w w' bp A (p.drop i k).2:=by
 obtain ⟨b0,b1,v0,v1,F0,F1,hx,hA⟩:=h
 refine (aDr hx.fx i k).mono ?_
 rintro e w' ⟨rfl,hn⟩
 exact ⟨rfl,hx.flown hA hn⟩
theorem aDA (h:PW w bp A p)(i k:Int):Calls prog 36 #[.pointer (some ⟨bp,0,none⟩),.int .i64 i,.int .i64 k] w fun e w'=>e=.returned (.int .i64 (p.double i k).1)/\PN w w' bp A (p.double i k).2:=by
 obtain ⟨b0,b1,v0,v1,F0,F1,hx,hA⟩:=h
 refine (yN hx.fx i k).mono ?_
 rintro e w' ⟨rfl,hn⟩
 exact ⟨rfl,hx.flown hA hn⟩
theorem aGl (h:PW w bp A p)(i k n:Int):Calls prog 37 #[.pointer (some ⟨bp,0,none⟩),.int .i64 i,.int .i64 k,.int .i64 n] w fun e w'=>e=.returned (.int .i64 (p.spoil i k n).1)/\PN w w' bp A (p.spoil i k n).2:=by
 obtain ⟨b0,b1,v0,v1,F0,F1,hx,hA⟩:=h
 refine (aAP hx.fx i k n).mono ?_
 rintro e w' ⟨rfl,hn⟩
 exact ⟨rfl,hx.flown hA hn⟩
theorem aDB (h:PW w bp A p)(i:Int)(t:List UInt8):Calls prog 60 #[.pointer (some ⟨bp,0,none⟩),.int .i64 i,.string (S t)] w fun e w'=>e=.returned (.int .i64 (p.inject i t).1)/\PN w w' bp A (p.inject i t).2:=by
 obtain ⟨b0,b1,v0,v1,F0,F1,hx,hA⟩:=h
 refine (yO hx.fx i t).mono ?_
 rintro e w' ⟨rfl,hn⟩
 exact ⟨rfl,hx.flown hA hn⟩
theorem yY {no:Nat}{cI cO:Int}{d:Ds}(h:HasD no cI cO d):∀e∈d.ob,aP (cX e)=true/\WfIt e.it:=by
 intro e he
 obtain ⟨h1,h2,h3⟩:=h.en e he
 refine ⟨?_,h2⟩
 have key:∀(es:List En) (l:Int),0<=l->fD l es=true->∀x∈es,1<=x.sq/\eE x.sq=true:=by
  intro es
  induction es with
  | nil=>intro l _ _ x hx;simp at hx
  | cons y t ih=>
   intro l hl hc x hx
   have h':(decide (l<y.sq)&&eE y.sq&&eF y.it&&fD y.sq t)=true:=hc
   simp only[Bool.and_eq_true] at h'
   have hy:=of_decide_eq_true h'.1.1.1
   rcases List.mem_cons.1 hx with rfl | hx
   ·exact ⟨by omega,h'.1.1.2⟩
   ·exact ih y.sq (by omega) h'.2 x hx
 obtain ⟨k1,k2⟩:=key d.ob 0 (by omega) h.oc e he
 show (decide (1<=e.sq)&&eE e.sq&&eF e.it&&eU (cX e))=true
 rw[decide_eq_true k1,k2,h1]
 rfl
theorem aHT (h:PW w bp A p)(gd:PGd p)(i:Int):Calls prog 29 #[.pointer (some ⟨bp,0,none⟩),.int .i64 i] w fun e w'=>e=.returned (.int .i64 (p.send i).1)/\PN w w' bp A (p.send i).2:=by
 have h0:=h
 obtain ⟨b0,b1,v0,v1,F0,F1,hx,hA⟩:=h
 unfold Pr.send tX
 have cr:p.upE i=0->(p.sh i).ob.length<=1000/\∀e∈(p.sh i).ob,aP (cX e)=true/\WfIt e.it:=fun hu=>by
  obtain ⟨hi,up⟩:=eL hu
  obtain ⟨⟨r,g⟩,_⟩:=gd.at hi
  obtain ⟨_,_,_,_,_,has,_⟩:=g.has up
  exact ⟨by have:=has.sh g.i1 g.o1;exact this.1.l,yY has⟩
 by_cases hu:p.upE i=0
 ·rw[if_pos hu]
  obtain ⟨c1,c2⟩:=cr hu
  refine (aBS bp b0 b1 v0 v1 p.s0.up p.s1.up p.f0 p.f1 i ((p.sh i).ob.map dV) w hx.fx (fG b0 p.s0 F0 w hx.p0) (fG b1 p.s1 F1 w hx.p1) (fun hu=>?_) (by simpa using c1) (fun t ht=>?_)).mono ?_
  ·obtain ⟨hi,up⟩:=eL hu
   exact aAQ (aC b0 b1 i) (p.sh i) (aC F0 F1 i) w (hx.at hi) up c1 c2
  ·obtain ⟨e,_,rfl⟩:=List.mem_map.1 ht
   rw[sN]
   decide
  ·rintro e w' ⟨rfl,_,hn⟩
   exact ⟨by rw[show YtammnaafdhhjaaaGreat.upE p.s0.up p.s1.up i=0 from hu],hx.flown hA (hn hu)⟩
 ·rw[if_neg hu]
  refine (aBS bp b0 b1 v0 v1 p.s0.up p.s1.up p.f0 p.f1 i [] w hx.fx (fG b0 p.s0 F0 w hx.p0) (fG b1 p.s1 F1 w hx.p1) (fun h=>absurd h hu) (by simp) (by simp)).mono ?_
  rintro e w' ⟨rfl,hn,_⟩
  obtain rfl:=hn hu
  exact ⟨rfl,h0.same⟩
theorem aHU (h:PW w bp A p)(gd:PGd p){i:Int}(hi:aV i)(l:List UInt8):∃b,w.cell? ⟨bp,i.toNat,none⟩=some (.pointer (some ⟨b,0,none⟩))/\Calls prog 74 #[.pointer (some ⟨b,0,none⟩)] w (fun e w'=>e=.returned (.bool (p.sh i).up)/\w'=w)/\((p.sh i).up=true->Calls prog 75 #[.pointer (some ⟨b,0,none⟩),.string (S l)] w fun e w'=>e=.returned (.tuple #[.string (S ((p.sh i).hear l).1.2),.int .i64 ((p.sh i).hear l).1.1])/\PN w w' bp A (p.setSh i ((p.sh i).hear l).2)):=by
 obtain ⟨b0,b1,v0,v1,F0,F1,hx,hA⟩:=h
 refine ⟨aC b0 b1 i,?_,fG (aC b0 b1 i) (p.sh i) (aC F0 F1 i) w (hx.at hi),fun up=>?_⟩
 ·rcases hi with rfl | rfl
  ·exact hx.fx.at_.c 0 _ rfl
  ·exact hx.fx.at_.c 1 _ rfl
 ·obtain ⟨⟨r,g⟩,_⟩:=gd.at hi
  obtain ⟨_,_,_,_,_,has,_⟩:=g.has up
  refine (aHF (aC b0 b1 i) (p.sh i) (aC F0 F1 i) l w (hx.at hi) ⟨up,g.ct,by have:=g.j1;omega,(has.sh g.i1 g.o1).1.l,has.mo.n0,has.mo.n1⟩).mono ?_
  rintro e w' ⟨rfl,p1,o1⟩
  exact ⟨rfl,hx.turn hA hi p1 o1⟩
theorem aJd (h:PW w bp A p){i:Int}(hi:aV i)(t:List UInt8)(ht:t.length<=100):Calls prog 71 #[.pointer (some ⟨bp,aC 2 3 i,none⟩),.string (S t)] w fun e w'=>e=.returned (.tuple #[])/\PN w w' bp A ⟨p.s0,p.s1,(bN p.f0 p.f1 (dX (aC p.f0 p.f1 i) t) i).1,(bN p.f0 p.f1 (dX (aC p.f0 p.f1 i) t) i).2⟩:=by
 obtain ⟨b0,b1,v0,v1,F0,F1,hx,hA⟩:=h
 refine (aFX hx.fx hi t ht).mono ?_
 rintro e w' ⟨rfl,hn⟩
 exact ⟨rfl,hx.flown hA hn⟩
theorem aHV (h:PW w bp A p){i:Int}(hi:aV i)(k:Int):Calls prog 73 #[.pointer (some ⟨bp,aC 2 3 i,none⟩),.int .i64 k] w fun e w'=>e=.returned (.tuple #[.string (S (lH (p.fl i) k)),.int .i64 (eK (p.fl i) k)])/\PN w w' bp A (p.drop i k).2:=by
 obtain ⟨b0,b1,v0,v1,F0,F1,hx,hA⟩:=h
 obtain ⟨h1,h2,h3,h4,h5⟩:=hx.fx.at hi
 refine (xD bp (aC 2 3 i) _ 0 (aC v0 v1 i) (aC p.f0 p.f1 i) k w hx.fx.at_ h1 h2 h3 h4).mono ?_
 rintro e w' ⟨rfl,v',a1,a2,a3,a4⟩
 refine ⟨rfl,?_⟩
 have:=hx.flown hA (hx.fx.put hi a1 a2 a3 (fun j hj=>.inl (a4 j hj)) (pL h4) (sE h5))
 unfold Pr.drop fH
 rw[if_pos hi]
 exact this
theorem aGm (s:Sh)(l:List UInt8):(s.hear l).1.2.length<=100:=by
 unfold Sh.hear Sh.hearCross
 repeat' split
 all_goals simp[oT]
theorem PGd.flown {p:Pr}(h:PGd p){q:Pr}(e0:q.s0=p.s0)(e1:q.s1=p.s1):PGd q:=⟨by rw[e0];exact h.g0,by rw[e1];exact h.g1,by rw[e0];exact h.n0,by rw[e1];exact h.n1⟩
theorem aBa (h:PW w bp A p)(gd:PGd p)(i k:Int):Calls prog 30 #[.pointer (some ⟨bp,0,none⟩),.int .i64 i,.int .i64 k] w fun e w'=>e=.returned (.int .i64 (p.deliver i k).1)/\PN w w' bp A (p.deliver i k).2:=by
 unfold Pr.deliver
 by_cases hi:aV i
 ·have eu:kP p.f0 p.f1 i k=eK (p.fl i) k:=if_pos hi
  rw[eu]
  have FT:Hid (Calls prog 72 #[.pointer (some ⟨bp,0,none⟩),.int .i64 i] w fun e w'=>e=.returned (.tuple #[.pointer (some ⟨bp,aC 2 3 i,none⟩),.int .i64 0])/\w'=w):=by
   obtain ⟨b0,b1,v0,v1,F0,F1,hx,hA⟩:=h
   exact fA bp b0 b1 v0 v1 i w hx.fx.at_ hi
  have TK:=Hid.mk' (aHV h hi k)
  by_cases hk:oF (p.fl i) k
  ·have ek:eK (p.fl i) k=0:=if_pos hk
   rw[ek] at TK ⊢
   rw[if_neg (by simp)]
   have gq:PGd (p.drop i k).2:=gd.flown rfl rfl
   have HR:Hid (∀W,PN w W bp A (p.drop i k).2->_):=Hid.mk' fun W (hW:PN w W bp A (p.drop i k).2)=>aHU hW.1 gq hi (lH (p.fl i) k)
   have es:(p.drop i k).2.sh i=p.sh i:=by rcases hi with rfl | rfl<;>rfl
   rw[es] at HR
   have HL:=Hid.mk' (aGm (p.sh i) (lH (p.fl i) k))
   generalize (p.drop i k).2=q at *
   generalize lH (p.fl i) k=l at *
   clear gq es ek hk eu h gd
   have i0:(0:Int)<=i:=by rcases hi with rfl | rfl<;>decide
   have i1:i<2:=by rcases hi with rfl | rfl<;>decide
   cases hu:(p.sh i).up
   ·rw[if_pos rfl]
    rw[hu] at HR
    generalize aC 2 3 i=kk at *
    go_enter func30,ntmps30
    go_wp2_with fail
    refine Calls.mono FT.out ?_
    rintro e w0 ⟨rfl,rfl⟩
    go_wp2_with fail
    refine Calls.mono TK.out ?_
    rintro e w1 ⟨rfl,q1⟩
    obtain ⟨b,cb,up,_⟩:=HR.out _ q1
    have UP:=Hid.mk' up
    clear up
    go_wp2_with fail
    refine Calls.mono UP.out ?_
    rintro e w2 ⟨rfl,rfl⟩
    go_wp2
    go_ret
    exact ⟨rfl,q1⟩
   ·rw[if_neg (by simp)]
    rw[hu] at HR
    have FF:=Hid.mk' fun W=>mA bp i W hi
    rw[sH hi] at FF
    have PT:=Hid.mk' fun (W:World) (A':Nat->Prop) (q':Pr) (hW:PW W bp A' q') (t:List UInt8) (ht:t.length<=100)=>aJd hW (gS hi) t ht
    generalize (p.sh i).hear l=hh at *
    obtain ⟨⟨z,t⟩,s'⟩:=hh
    simp only at *
    generalize aC 2 3 (1 -i)=k2 at *
    generalize aC 2 3 i=kk at *
    by_cases ht:t=[]
    ·subst ht
     have er:(q.setSh i s').reply i []=q.setSh i s':=if_pos rfl
     rw[er]
     have e5:S []=⟨#[]⟩:=rfl
     rw[e5] at HR
     clear PT FF HL e5 er
     go_enter func30,ntmps30
     go_wp2_with fail
     refine Calls.mono FT.out ?_
     rintro e w0 ⟨rfl,rfl⟩
     go_wp2_with fail
     refine Calls.mono TK.out ?_
     rintro e w1 ⟨rfl,q1⟩
     obtain ⟨b,cb,up,he⟩:=HR.out _ q1
     have UP:=Hid.mk' up
     have HE:=Hid.mk' (he trivial)
     clear up he
     go_wp2_with fail
     refine Calls.mono UP.out ?_
     rintro e w2 ⟨rfl,rfl⟩
     go_wp2_with fail
     refine Calls.mono HE.out ?_
     rintro e w3 ⟨rfl,q3⟩
     go_wp2
     go_ret
     exact ⟨rfl,PN.trans q1.2 q3⟩
    ·have er:(q.setSh i s').reply i t=⟨(q.setSh i s').s0,(q.setSh i s').s1,(bN (q.setSh i s').f0 (q.setSh i s').f1 (dX (aC (q.setSh i s').f0 (q.setSh i s').f1 (1 -i)) t) (1 -i)).1,(bN (q.setSh i s').f0 (q.setSh i s').f1 (dX (aC (q.setSh i s').f0 (q.setSh i s').f1 (1 -i)) t) (1 -i)).2⟩:=if_neg ht
     rw[er]
     have ne:(S t).toList.isEmpty=false:=by
      rw[bW]
      cases t with
      | nil=>exact absurd rfl ht
      | cons a b=>rfl
     have PQ:=Hid.mk' fun (W:World) (A':Nat->Prop) (q':Pr) (hW:PW W bp A' q')=>PT.out W A' q' hW t HL.out
     generalize q.setSh i s'=q' at *
     clear PT er ht
     go_enter func30,ntmps30
     go_wp2_with fail
     refine Calls.mono FT.out ?_
     rintro e w0 ⟨rfl,rfl⟩
     go_wp2_with fail
     refine Calls.mono TK.out ?_
     rintro e w1 ⟨rfl,q1⟩
     obtain ⟨b,cb,up,he⟩:=HR.out _ q1
     have UP:=Hid.mk' up
     have HE:=Hid.mk' (he trivial)
     clear up he
     go_wp2_with fail
     refine Calls.mono UP.out ?_
     rintro e w2 ⟨rfl,rfl⟩
     go_wp2_with fail
     refine Calls.mono HE.out ?_
     rintro e w3 ⟨rfl,q3⟩
     go_wp2_with fail
     refine Calls.mono (FF.out _) ?_
     rintro e w4 ⟨rfl,rfl⟩
     go_wp2_with fail
     refine Calls.mono (PQ.out _ _ _ q3.1) ?_
     rintro e w5 ⟨rfl,q5⟩
     go_wp2
     go_ret
     exact ⟨rfl,PN.trans q1.2 (PN.trans q3.2 q5)⟩
  ·have ek:eK (p.fl i) k=4:=if_neg hk
   rw[ek] at TK ⊢
   rw[if_pos (by simp)]
   have ed:(p.drop i k).2=p:=by
    unfold Pr.drop fH
    rw[if_pos hi]
    have:fB (aC p.f0 p.f1 i) k=aC p.f0 p.f1 i:=if_neg hk
    simp only[this,kV _ _ hi]
   rw[ed] at TK
   generalize lH (p.fl i) k=l at *
   generalize aC 2 3 i=kk at *
   clear ed ek hk eu h gd hi
   go_enter func30,ntmps30
   go_wp2_with fail
   refine Calls.mono FT.out ?_
   rintro e w0 ⟨rfl,rfl⟩
   go_wp2_with fail
   refine Calls.mono TK.out ?_
   rintro e w1 ⟨rfl,q1⟩
   go_wp2
   go_ret
   exact ⟨rfl,q1⟩
 ·have eu:kP p.f0 p.f1 i k=2:=if_neg hi
  rw[eu,if_pos (by simp)]
  have FT:=Hid.mk' (fT bp i w hi)
  have H0:=Hid.mk' h.same
  clear h gd hi eu
  go_enter func30,ntmps30
  go_wp2_with fail
  refine Calls.mono FT.out ?_
  rintro e w1 ⟨rfl,rfl⟩
  go_wp2
  go_ret
  exact ⟨rfl,H0.out⟩
end
end Go.Proofs.YtammnaafdhhjaaaGreat
namespace Go.Proofs.YtammnaafdhhjaaaGreat
open Go.RowKit Go.Proofs.Tryz
def ryC (cI cO cJ:Int)(b0 b1:Nat)(f0 f1:Value):List Value:=[.int .i64 cI,.int .i64 cO,.int .i64 cJ,.pointer (some ⟨b0,0,none⟩),.pointer (some ⟨b1,0,none⟩),f0,f1]
theorem uF (b:Nat)(r:Rs)(c:Nat)(l:List UInt8)(w:World)(h:At w b r.cells)(ok:r.d.Ok)(kb:wE r.d.kp)(hc:c<2)(hl:(r.d.file c).length+l.length<=10000):
  Calls prog 101 #[.pointer (some ⟨b,0,none⟩),.int .i64 1,.int .i64 c,.string (S l)] w fun e w'=>e=.returned (.bool (r.put (r.d.append c l)).2)/\At w' b (r.put (r.d.append c l)).1.cells/\Only w w' (fun j=>j=b):=by
 rcases (by omega:c=0∨c=1) with e | e<;>rw[e] at hl ⊢
 ·exact aCB b r l w h ok kb hl
 ·exact aCC b r l w h ok kb hl
theorem aCd (b:Nat)(r:Rs)(c:Nat)(w:World)(h:At w b r.cells)(ok:r.d.Ok)(kb:wE r.d.kp)(hc:c<2):
  Calls prog 101 #[.pointer (some ⟨b,0,none⟩),.int .i64 2,.int .i64 c,.string (⟨#[]⟩)] w fun e w'=>e=.returned (.bool (r.put (r.d.sync c)).2)/\At w' b (r.put (r.d.sync c)).1.cells/\Only w w' (fun j=>j=b):=by
 rcases (by omega:c=0∨c=1) with e | e<;>rw[e]
 ·exact aHl b r w h ok kb
 ·exact aHm b r w h ok kb
theorem aJe (b:Nat)(r:Rs)(c:Nat)(w:World)(h:At w b r.cells)(ok:r.d.Ok)(kb:wE r.d.kp)(hc:c<2):
  Calls prog 101 #[.pointer (some ⟨b,0,none⟩),.int .i64 3,.int .i64 c,.string (⟨#[]⟩)] w fun e w'=>e=.returned (.bool (r.put (r.d.cut c)).2)/\At w' b (r.put (r.d.cut c)).1.cells/\Only w w' (fun j=>j=b):=by
 rcases (by omega:c=0∨c=1) with e | e<;>rw[e]
 ·exact aIN b r w h ok kb
 ·exact aIO b r w h ok kb
theorem aJf (bp:Nat)(i:Int)(w:World)(hi:¬aV i):
  Calls prog 94 #[.pointer (some ⟨bp,0,none⟩),.int .i64 i] w fun e w'=>e=.returned (.int .i64 2)/\w'=w:=by
 unfold aV at hi
 have h0:(i !=0)=true:=by simp;omega
 have h1:(i !=1)=true:=by simp;omega
 clear hi
 go_enter func94,ntmps94
 go_wp2
 go_ret
 exact ⟨rfl,rfl⟩
theorem aCe (bp b0 b1:Nat)(cI cO cJ:Int)(f0 f1:Value)(i:Int)(r:Rs)(w:World)(h:At w bp (ryC cI cO cJ b0 b1 f0 f1))(hr:At w (aC b0 b1 i) r.cells)(hi:aV i):
  Calls prog 94 #[.pointer (some ⟨bp,0,none⟩),.int .i64 i] w fun e w'=>e=.returned (.int .i64 (if r.up=true then 0 else 3))/\w'=w:=by
 have c3:=h.c 3 _ rfl
 have c4:=h.c 4 _ rfl
 have r0:=hr.c 0 _ rfl
 clear h hr
 cases hu:r.up<;>rw[hu] at r0
 all_goals
  rcases hi with rfl | rfl
  all_goals
   simp only[aC] at r0
   simp at r0
   go_enter func94,ntmps94
   go_wp2
   go_ret
   exact ⟨rfl,rfl⟩
theorem gV (bp b0 b1:Nat)(cI cO cJ:Int)(f0 f1:Value)(i:Int)(r0 r1:Rs)(w:World)(h:At w bp (ryC cI cO cJ b0 b1 f0 f1))(h0:At w b0 r0.cells)(h1:At w b1 r1.cells):
  Calls prog 94 #[.pointer (some ⟨bp,0,none⟩),.int .i64 i] w fun e w'=>e=.returned (.int .i64 (upE r0.up r1.up i))/\w'=w:=by
 by_cases hi:aV i
 ·have e:upE r0.up r1.up i=if aC r0.up r1.up i=true then 0 else 3:=if_pos hi
  rw[e]
  rcases hi with rfl | rfl
  ·exact aCe bp b0 b1 cI cO cJ f0 f1 0 r0 w h h0 (.inl rfl)
  ·exact aCe bp b0 b1 cI cO cJ f0 f1 1 r1 w h h1 (.inr rfl)
 ·have e:upE r0.up r1.up i=2:=if_neg hi
  rw[e]
  exact aJf bp i w hi
theorem wG (r:Rs)(a:Dk×Bool):(r.put a).1.ct=r.ct:=by unfold Rs.put;split<;>rfl
theorem wH (r:Rs)(a:Dk×Bool)(h:a.1.kp=r.d.kp∨a.1.kp=0)(hk:wE r.d.kp):wE (r.put a).1.d.kp:=by
 unfold Rs.put
 split
 ·exact pN hk h
 ·exact hk
theorem aBb (r:Rs)(a:Dk×Bool)(h:a.1.Ok):(r.put a).1.d.Ok:=by
 unfold Rs.put
 split
 ·exact h
 ·exact ⟨h.a0,h.a1,h.b0,h.b1,h.u,h.u'⟩
theorem gB (bp b0 b1:Nat)(cI cO cJ:Int)(f0 f1:Value)(i:Int)(r:Rs)(p:Rc)(w:World)(h:At w bp (ryC cI cO cJ b0 b1 f0 f1))(hr:At w (aC b0 b1 i) r.cells)(hi:aV i)(ok:r.d.Ok)(kb:wE r.d.kp)(hct:r.ct<2)(hcj:cJ<=5000)(tp:Told p)(hp:p.items=[]/\p.outs=[])(hne:bp≠aC b0 b1 i):
  Calls prog 98 #[.pointer (some ⟨bp,0,none⟩),.int .i64 i,rv p.kind p.seq p.it p.mks (.slice none 0 0) (.slice none 0 0)] w fun e w'=>e=.returned (.int .i64 (r.jrn cJ p).1)/\At w' (aC b0 b1 i) (r.jrn cJ p).2.cells/\Only w w' (fun j=>j=aC b0 b1 i):=by
 obtain ⟨b,hb⟩:∃b,aC b0 b1 i=b:=⟨_,rfl⟩
 rw[hb] at hr hne ⊢
 have G0:Hid (w.grownBy (w.alloc (.cells #[.int .i64 p.kind,.int .i64 p.seq,.int .i64 p.it.sh,.int .i64 p.it.nu,.float .f32 p.it.pl,.float .f32 p.it.sp,.int .i64 p.mks.g,.int .i64 p.mks.m,.int .i64 p.mks.s,.int .i64 p.mks.a,.int .i64 p.mks.n,.slice none 0 0,.slice none 0 0] 139)) none):=World.grownBy_alloc w _ none
 have FR:=Hid.mk' (kE p (.slice none 0 0) (.slice none 0 0) (w.alloc (.cells #[.int .i64 p.kind,.int .i64 p.seq,.int .i64 p.it.sh,.int .i64 p.it.nu,.float .f32 p.it.pl,.float .f32 p.it.sp,.int .i64 p.mks.g,.int .i64 p.mks.m,.int .i64 p.mks.s,.int .i64 p.mks.a,.int .i64 p.mks.n,.slice none 0 0,.slice none 0 0] 139)) (by rw[hp.1];exact rF _) (by rw[hp.2];exact pF _) tp.wf tp.m (by rw[hp.1];simp) (by rw[hp.2];simp))
 have H:=Hid.mk' h
 have HR:=Hid.mk' hr
 have hsf:=aK
 have zf:=aQ (aY p)
 have zr:=aQ (r.d.file r.ct)
 obtain ⟨F,hF⟩:∃F,aY p=F:=⟨_,rfl⟩
 have HF:=Hid.mk' hF
 have fl:F.length<=1200:=by
  have:=(dM p tp.m).2
  rw[<- hF,gR];omega
 have rl:(r.d.file r.ct).length<=10000:=by
  unfold Dk.file
  split
  ·exact ok.b0
  ·exact ok.b1
 rw[hF] at FR zf
 have cfile:Hid (∀W,At W b r.cells->W.cell? ⟨b,1+r.ct,none⟩=some (.string (S (r.d.file r.ct)))):=Hid.mk' fun W hW=>by
  rcases (by omega:r.ct=0∨r.ct=1) with e | e<;>rw[e]
  ·exact hW.c 1 _ rfl
  ·exact hW.c 2 _ rfl
 have pc:Hid (∀W,At W bp (ryC cI cO cJ b0 b1 f0 f1)->W.cell? ⟨bp,3+i.toNat,none⟩=some (.pointer (some ⟨b,0,none⟩))):=Hid.mk' fun W hW=>by
  rw[<- hb]
  rcases hi with rfl | rfl
  ·exact hW.c 3 _ rfl
  ·exact hW.c 4 _ rfl
 have p0:=pc.out _ (h.grown G0.out)
 have AP:=Hid.mk' fun W hW=>uF b r r.ct F W hW ok kb hct
 have okA:Hid ((r.d.file r.ct).length+F.length<=10000->(r.put (r.d.append r.ct F)).1.d.Ok):=Hid.mk' fun hl=>aBb _ _ ((ok.append r.ct F hl).act)
 have kA:=Hid.mk' (wH r (r.d.append r.ct F) (mQ _ _ _) kb)
 have SY:=Hid.mk' fun W hW ok'=>aCd b (r.put (r.d.append r.ct F)).1 r.ct W hW ok' kA.out hct
 have JR:Hid (r.jrn cJ p=if cJ<((r.d.file r.ct).length:Int)+(F.length:Int) then (5,r)
   else if (r.put (r.d.append r.ct F)).2=false then (3,(r.put (r.d.append r.ct F)).1)
   else if ((r.put (r.d.append r.ct F)).1.put ((r.put (r.d.append r.ct F)).1.d.sync r.ct)).2=false then (3,((r.put (r.d.append r.ct F)).1.put ((r.put (r.d.append r.ct F)).1.d.sync r.ct)).1)
   else (0,((r.put (r.d.append r.ct F)).1.put ((r.put (r.d.append r.ct F)).1.d.sync r.ct)).1)):=by
  show _=_
  unfold Rs.jrn
  rw[hF]
 have CT:=Hid.mk' (wG r (r.d.append r.ct F))
 rw[JR.out]
 clear JR h hr hp tp hF ok kb
 have rc:=HR.out.c 5 _ rfl
 have rbl:=HR.out.lt
 have pbl:=H.out.lt
 have l0:Hid ((1:Nat)+r.ct=1+r.ct):=rfl
 generalize r.d.file r.ct=T at *
 obtain ⟨A,hA⟩:∃A,r.put (r.d.append r.ct F)=A:=⟨_,rfl⟩
 rw[hA] at AP okA kA SY CT ⊢
 obtain ⟨Bq,hBq⟩:∃Bq,A.1.put (A.1.d.sync r.ct)=Bq:=⟨_,rfl⟩
 rw[hBq] at SY ⊢
 clear hA hBq
 generalize hcc:r.ct=c at *
 obtain ⟨c,rfl⟩:∃c':Nat,c'=c:=⟨c,rfl⟩
 have hc2:c=0∨c=1:=by omega
 have cf0:=cfile.out _ (HR.out.grown G0.out)
 have i0:(0:Int)<=i:=by unfold aV at hi;omega
 have i1:i<2:=by unfold aV at hi;omega
 have cc0:(0:Int)<=(c:Int):=by omega
 have cc1:(c:Int)<2:=by omega
 unfold rv at FR ⊢
 clear hi
 have w64:IntKind.i64.wrap ((T.length:Int)+(F.length:Int))=(T.length:Int)+(F.length:Int):=by simp[IntKind.wrap,IntKind.bits,IntKind.signed];omega
 by_cases cc:cJ<(T.length:Int)+(F.length:Int)
 ·rw[if_pos cc]
  go_enter func98,ntmps98
  go_wp2_with fail
  refine Calls.mono FR.out ?_
  rintro e w1 ⟨rfl,g1⟩
  have G1:=Hid.mk' (G0.out.trans g1)
  have H1:=Hid.mk' (H.out.grown G1.out)
  have HR1:=Hid.mk' (HR.out.grown G1.out)
  have q5:=HR1.out.c 5 _ rfl
  have q2:=H1.out.c 2 _ rfl
  have qf:=cfile.out _ HR1.out
  rw[hcc] at q5
  clear cf0 p0 rc
  go_wp2_with fail
  go_quiet (fail)
  go_wp2
  go_ret
  exact ⟨rfl,HR1.out.drewN _,((Only.grown (aL G1.out nq)).mono (by simp))⟩
 have hl:T.length+F.length<=10000:=by omega
 have OKA:=Hid.mk' (okA.out hl)
 rw[if_neg cc]
 have cc':¬(T.length:Int)+(F.length:Int) > cJ:=by omega
 cases hA2:A.2
 ·rw[if_pos rfl]
  rw[hA2] at AP
  go_enter func98,ntmps98
  go_wp2_with fail
  refine Calls.mono FR.out ?_
  rintro e w1 ⟨rfl,g1⟩
  have G1:=Hid.mk' (G0.out.trans g1)
  have H1:=Hid.mk' (H.out.grown G1.out)
  have HR1:=Hid.mk' (HR.out.grown G1.out)
  have q5:=HR1.out.c 5 _ rfl
  have q2:=H1.out.c 2 _ rfl
  have qf:=cfile.out _ HR1.out
  rw[hcc] at q5
  clear cf0 p0 rc
  go_wp2_with fail
  go_quiet (fail)
  have q5':=(HR1.out.drewN nq).c 5 _ rfl
  rw[hcc] at q5'
  go_wp2_with fail
  refine Calls.mono (AP.out _ (HR1.out.drewN nq) hl) ?_
  rintro e w2 ⟨rfl,a2,o2⟩
  go_wp2
  go_ret
  exact ⟨rfl,a2,((Only.grown (aL G1.out nq)).mono (by simp)).trans (o2.mono (fun _ _ e=>.inl e))⟩
 rw[if_neg (by simp)]
 rw[hA2] at AP
 cases hB2:Bq.2
 ·rw[if_pos rfl]
  rw[hB2] at SY
  go_enter func98,ntmps98
  go_wp2_with fail
  refine Calls.mono FR.out ?_
  rintro e w1 ⟨rfl,g1⟩
  have G1:=Hid.mk' (G0.out.trans g1)
  have H1:=Hid.mk' (H.out.grown G1.out)
  have HR1:=Hid.mk' (HR.out.grown G1.out)
  have q5:=HR1.out.c 5 _ rfl
  have q2:=H1.out.c 2 _ rfl
  have qf:=cfile.out _ HR1.out
  rw[hcc] at q5
  clear cf0 p0 rc
  go_wp2_with fail
  go_quiet (fail)
  have q5':=(HR1.out.drewN nq).c 5 _ rfl
  rw[hcc] at q5'
  go_wp2_with fail
  refine Calls.mono (AP.out _ (HR1.out.drewN nq) hl) ?_
  rintro e w2 ⟨rfl,a2,o2⟩
  have A2:=Hid.mk' a2
  have r5:=a2.c 5 _ rfl
  rw[CT.out] at r5
  clear a2
  go_wp2_with fail
  refine Calls.mono (SY.out _ A2.out OKA.out) ?_
  rintro e w3 ⟨rfl,a3,o3⟩
  go_wp2
  go_ret
  exact ⟨rfl,a3,(((Only.grown (aL G1.out nq)).mono (by simp)).trans (o2.mono (fun _ _ e=>.inl e))).trans (o3.mono (fun _ _ e=>.inl e))⟩
 ·rw[if_neg (by simp)]
  rw[hB2] at SY
  go_enter func98,ntmps98
  go_wp2_with fail
  refine Calls.mono FR.out ?_
  rintro e w1 ⟨rfl,g1⟩
  have G1:=Hid.mk' (G0.out.trans g1)
  have H1:=Hid.mk' (H.out.grown G1.out)
  have HR1:=Hid.mk' (HR.out.grown G1.out)
  have q5:=HR1.out.c 5 _ rfl
  have q2:=H1.out.c 2 _ rfl
  have qf:=cfile.out _ HR1.out
  rw[hcc] at q5
  clear cf0 p0 rc
  go_wp2_with fail
  go_quiet (fail)
  have q5':=(HR1.out.drewN nq).c 5 _ rfl
  rw[hcc] at q5'
  go_wp2_with fail
  refine Calls.mono (AP.out _ (HR1.out.drewN nq) hl) ?_
  rintro e w2 ⟨rfl,a2,o2⟩
  have A2:=Hid.mk' a2
  have r5:=a2.c 5 _ rfl
  rw[CT.out] at r5
  clear a2
  go_wp2_with fail
  refine Calls.mono (SY.out _ A2.out OKA.out) ?_
  rintro e w3 ⟨rfl,a3,o3⟩
  go_wp2
  go_ret
  exact ⟨rfl,a3,(((Only.grown (aL G1.out nq)).mono (by simp)).trans (o2.mono (fun _ _ e=>.inl e))).trans (o3.mono (fun _ _ e=>.inl e))⟩
end Go.Proofs.YtammnaafdhhjaaaGreat
namespace Go.Proofs.YtammnaafdhhjaaaGreat
open Go.RowKit Go.Proofs.Tryz
structure RY (w:World)(bp b0 b1:Nat)(cI cO cJ:Int)(r0 r1:Rs)(f5:Value:=.slice none 0 0)(f6:Value:=.slice none 0 0):Prop where
 at_:At w bp (ryC cI cO cJ b0 b1 f5 f6)
 a0:At w b0 r0.cells
 a1:At w b1 r1.cells
 d01:b0≠b1
 dp0:bp≠b0
 dp1:bp≠b1
theorem RY.at {w:World}{bp b0 b1:Nat}{cI cO cJ:Int}{r0 r1:Rs}{f5 f6:Value}(h:RY w bp b0 b1 cI cO cJ r0 r1 f5 f6){i:Int}(hi:aV i):At w (aC b0 b1 i) (aC r0 r1 i).cells/\bp≠aC b0 b1 i:=by
 rcases hi with rfl | rfl
 ·exact ⟨h.a0,h.dp0⟩
 ·exact ⟨h.a1,h.dp1⟩
theorem RY.only {w w':World}{bp b0 b1:Nat}{cI cO cJ:Int}{r0 r1:Rs}{A:Nat->Prop}{f5 f6:Value}(h:RY w bp b0 b1 cI cO cJ r0 r1 f5 f6)(o:Only w w' A)(n:¬A bp)(n0:¬A b0)(n1:¬A b1):RY w' bp b0 b1 cI cO cJ r0 r1 f5 f6:=
 ⟨h.at_.only o n,h.a0.only o n0,h.a1.only o n1,h.d01,h.dp0,h.dp1⟩
theorem RY.grown {w w':World}{bp b0 b1:Nat}{cI cO cJ:Int}{r0 r1:Rs}{f5 f6:Value}(h:RY w bp b0 b1 cI cO cJ r0 r1 f5 f6)(g:w.grownBy w' none):RY w' bp b0 b1 cI cO cJ r0 r1 f5 f6:=h.only (Only.grown g) (by simp) (by simp) (by simp)
def nC {α:Type}(x y z:α)(i:Int):α×α:=if i=0 then (z,y) else (x,z)
theorem RY.put {w w':World}{bp b0 b1:Nat}{cI cO cJ:Int}{r0 r1 r:Rs}{f5 f6:Value}(h:RY w bp b0 b1 cI cO cJ r0 r1 f5 f6){i:Int}(hi:aV i)(o:Only w w' (fun j=>j=aC b0 b1 i))(a:At w' (aC b0 b1 i) r.cells):RY w' bp b0 b1 cI cO cJ (nC r0 r1 r i).1 (nC r0 r1 r i).2 f5 f6:=by
 rcases hi with rfl | rfl
 ·exact ⟨h.at_.only o h.dp0,a,h.a1.only o h.d01.symm,h.d01,h.dp0,h.dp1⟩
 ·exact ⟨h.at_.only o h.dp1,h.a0.only o h.d01,a,h.d01,h.dp0,h.dp1⟩
theorem aCf (bp b0 b1:Nat)(cI cO cJ:Int)(r0 r1:Rs)(i:Int)(w:World){f5 f6:Value}(h:RY w bp b0 b1 cI cO cJ r0 r1 f5 f6)(Q:Ending->World->Prop)
  (hno:upE r0.up r1.up i≠0->Q (.returned (.int .i64 (upE r0.up r1.up i))) w) (hok:upE r0.up r1.up i=0->Calls prog 98 #[.pointer (some ⟨bp,0,none⟩),.int .i64 i,rv 3 0 bT aZ (.slice none 0 0) (.slice none 0 0)] w fun e w'=>∃v,e=.returned v/\Q (.returned v) w'):
  Calls prog 50 #[.pointer (some ⟨bp,0,none⟩),.int .i64 i] w Q:=by
 have U:=Hid.mk' (gV bp b0 b1 cI cO cJ _ _ i r0 r1 w h.at_ h.a0 h.a1)
 clear h
 by_cases c:upE r0.up r1.up i=0
 ·have OK:=Hid.mk' (hok c)
  rw[c] at U
  unfold rv bT aZ at OK
  clear hno hok c
  go_enter func50,ntmps50
  go_wp2_with fail
  refine Calls.mono U.out ?_
  rintro e w1 ⟨rfl,rfl⟩
  go_wp2_with fail
  refine Calls.mono OK.out ?_
  rintro e w2 ⟨v,rfl,q⟩
  go_wp2
  first | exact q | (go_ret;exact q)
 ·have NO:=Hid.mk' (hno c)
  have cb:(upE r0.up r1.up i !=0)=true:=by simpa using c
  generalize upE r0.up r1.up i=z at *
  clear hno hok
  go_enter func50,ntmps50
  go_wp2_with fail
  refine Calls.mono U.out ?_
  rintro e w1 ⟨rfl,rfl⟩
  go_wp2
  first | exact NO.out | (go_ret;exact NO.out)
theorem RY.ptr {w:World}{bp b0 b1:Nat}{cI cO cJ:Int}{f0 f1:Value}(h:At w bp (ryC cI cO cJ b0 b1 f0 f1)){i:Int}(hi:aV i):w.cell? ⟨bp,3+i.toNat,none⟩=some (.pointer (some ⟨aC b0 b1 i,0,none⟩)):=by
 rcases hi with rfl | rfl
 ·exact h.c 3 _ rfl
 ·exact h.c 4 _ rfl
theorem oU {i:Int}(hi:aV i):0<=i/\i<2:=by unfold aV at hi;omega
theorem aBc (bp b0 b1:Nat)(cI cO cJ:Int)(r0 r1:Rs)(i k n:Int)(w:World){f5 f6:Value}(h:RY w bp b0 b1 cI cO cJ r0 r1 f5 f6):
  Calls prog 52 #[.pointer (some ⟨bp,0,none⟩),.int .i64 i,.int .i64 k,.int .i64 n] w fun e w'=>(¬aV i∨k<0->e=.returned (.int .i64 2)/\w'=w)/\(aV i/\0<=k->e=.returned (.int .i64 0)/\At w' (aC b0 b1 i) (⟨(aC r0 r1 i).up,{(aC r0 r1 i).d with un:=k,kp:=n},(aC r0 r1 i).ct⟩:Rs).cells/\Only w w' (fun j=>j=aC b0 b1 i)):=by
 by_cases hi:aV i
 ·obtain ⟨ha,hne⟩:=h.at hi
  have p0:=RY.ptr h.at_ hi
  obtain ⟨i0,i1⟩:=oU hi
  generalize aC r0 r1 i=r at *
  generalize aC b0 b1 i=b at *
  have HA:=Hid.mk' ha
  have cf:=ha.f
  have c6:=ha.c 6 _ rfl
  have c7:=ha.c 7 _ rfl
  have bl:=ha.lt
  have HI:=Hid.mk' hi
  have n01:(i !=0&&i !=1)=false:=by rcases hi with rfl | rfl<;>rfl
  clear h ha
  have p1:(w.setCell ⟨b,6,none⟩ (.int .i64 k)).cell? ⟨bp,3+i.toNat,none⟩=some (.pointer (some ⟨b,0,none⟩)):=(Only.set w b 6 (.int .i64 k)).cell p0 (fun e=>hne e)
  by_cases hk:k<0
  ·rcases hi with rfl | rfl
   all_goals
    go_enter func52,ntmps52
    go_wp2
    go_ret
    exact ⟨fun _=>⟨rfl,rfl⟩,fun h=>by omega⟩
  ·have hk':0<=k:=by omega
   rcases hi with rfl | rfl
   all_goals
    simp at p0 p1
    go_enter func52,ntmps52
    go_wp2
    go_ret
    exact ⟨fun h=>by first | omega | (rcases h with h | h;exact absurd HI.out h;omega),fun _=>⟨rfl,(HA.out.put 6 _ (by simp[Rs.cells])).put 7 _ (by simp[Rs.cells]),Only.set2 w b 6 7 _ _⟩⟩
 ·have h0:(i !=0)=true:=by unfold aV at hi;simp;omega
  have h1:(i !=1)=true:=by unfold aV at hi;simp;omega
  have HI:=Hid.mk' hi
  clear h hi
  go_enter func52,ntmps52
  go_wp2
  go_ret
  exact ⟨fun _=>⟨rfl,rfl⟩,fun h=>absurd h.1 HI.out⟩
theorem aBd (bp b0 b1:Nat)(cI cO cJ:Int)(r0 r1:Rs)(i n:Int)(w:World){f5 f6:Value}(h:RY w bp b0 b1 cI cO cJ r0 r1 f5 f6)(ok0:r0.d.Ok)(ok1:r1.d.Ok)(hn:wE n):
  Calls prog 53 #[.pointer (some ⟨bp,0,none⟩),.int .i64 i,.int .i64 n] w fun e w'=>e=.returned (.int .i64 (upE r0.up r1.up i))/\(upE r0.up r1.up i≠0->w'=w)/\(upE r0.up r1.up i=0->At w' (aC b0 b1 i) ((aC r0 r1 i).lost n).cells/\Only w w' (fun j=>j=aC b0 b1 i)):=by
 have U:=Hid.mk' (gV bp b0 b1 cI cO cJ _ _ i r0 r1 w h.at_ h.a0 h.a1)
 by_cases c:upE r0.up r1.up i=0
 ·have hi:aV i:=by
   refine Decidable.byContradiction fun hi=>?_
   unfold upE at c
   rw[if_neg hi] at c
   omega
  obtain ⟨ha,hne⟩:=h.at hi
  have p0:=RY.ptr h.at_ hi
  have ok:(aC r0 r1 i).d.Ok:=by rcases hi with rfl | rfl;exact ok0;exact ok1
  obtain ⟨i0,i1⟩:=oU hi
  rw[c] at U
  have C:=Hid.mk' c
  generalize aC r0 r1 i=r at *
  generalize aC b0 b1 i=b at *
  have LO:=Hid.mk' (fN b r n w ha ok hn)
  clear h ha ok ok0 ok1
  go_enter func53,ntmps53
  go_wp2_with fail
  refine Calls.mono U.out ?_
  rintro e w1 ⟨rfl,rfl⟩
  go_wp2_with fail
  refine Calls.mono LO.out ?_
  rintro e w2 ⟨rfl,a2,o2⟩
  go_wp2
  go_ret
  exact ⟨by rw[C.out];rfl,fun h=>absurd C.out h,fun _=>⟨a2,o2⟩⟩
 ·have cb:(upE r0.up r1.up i==0)=false:=by simpa using c
  generalize upE r0.up r1.up i=z at *
  clear h ok0 ok1
  go_enter func53,ntmps53
  go_wp2_with fail
  refine Calls.mono U.out ?_
  rintro e w1 ⟨rfl,rfl⟩
  go_wp2
  go_ret
  exact ⟨rfl,fun _=>rfl,fun h=>absurd h c⟩
theorem aDC (bp b0 b1:Nat)(cI cO cJ:Int)(r0 r1:Rs)(i k:Int)(w:World){f5 f6:Value}(h:RY w bp b0 b1 cI cO cJ r0 r1 f5 f6):
  Calls prog 119 #[.pointer (some ⟨bp,0,none⟩),.int .i64 i,.int .i64 k] w fun e w'=>e=.returned (.tuple #[.string (if aV i/\aV k then S ((aC r0 r1 i).d.file k.toNat) else S []),.int .i64 (if aV i then (if aV k then 0 else 4) else 2)])/\w'=w:=by
 by_cases hi:aV i
 ·obtain ⟨ha,hne⟩:=h.at hi
  have p0:=RY.ptr h.at_ hi
  obtain ⟨i0,i1⟩:=oU hi
  generalize aC r0 r1 i=r at *
  generalize aC b0 b1 i=b at *
  have c1:=ha.c 1 _ rfl
  have c2:=ha.c 2 _ rfl
  clear h ha
  rw[if_pos hi]
  by_cases hk:aV k
  ·rw[if_pos ⟨hi,hk⟩,if_pos hk]
   rcases hi with rfl | rfl
   all_goals
    simp at p0
    rcases hk with rfl | rfl
    all_goals
     go_enter func119,ntmps119
     go_wp2
     go_ret2
     exact ⟨rfl,rfl⟩
  ·rw[if_neg (fun h=>hk h.2),if_neg hk]
   have h0:(k !=0)=true:=by unfold aV at hk;simp;omega
   have h1:(k !=1)=true:=by unfold aV at hk;simp;omega
   clear hk
   rcases hi with rfl | rfl
   all_goals
    go_enter func119,ntmps119
    go_wp2
    go_ret2
    exact ⟨rfl,rfl⟩
 ·rw[if_neg hi,if_neg (fun h=>hi h.1)]
  have h0:(i !=0)=true:=by unfold aV at hi;simp;omega
  have h1:(i !=1)=true:=by unfold aV at hi;simp;omega
  clear h hi
  go_enter func119,ntmps119
  go_wp2
  go_ret2
  exact ⟨rfl,rfl⟩
end Go.Proofs.YtammnaafdhhjaaaGreat
namespace Go.Proofs.YtammnaafdhhjaaaGreat
open Go.RowKit Go.Proofs.Tryz
@[reducible] def mT (cI cO cJ:Int):Prop:=(1<=cI/\cI<=16)/\(1<=cO/\cO<=8)/\(1<=cJ/\cJ<=2000)
def rs1:Rs:=⟨true,dk1,0⟩
theorem aHX (cI cO cJ:Int)(w:World)(hv:¬mT cI cO cJ):
  Calls prog 45 #[.agg #[.int .i64 cI,.int .i64 cO,.int .i64 cJ]] w fun e w'=>e=.returned (.tuple #[.pointer none,.int .i64 1])/\w.grownBy w' none:=by
 unfold mT at hv
 have G0:=Hid.mk' (World.grownBy_alloc w (.cells #[.int .i64 cI,.int .i64 cO,.int .i64 cJ] 23) none)
 by_cases a1:cI<1
 ·clear hv
  go_enter func45,ntmps45
  go_wp2
  go_ret2
  exact ⟨rfl,G0.out⟩
 have a1':1<=cI:=by omega
 by_cases a2:16<cI
 ·clear hv
  go_enter func45,ntmps45
  go_wp2
  go_ret2
  exact ⟨rfl,G0.out⟩
 have a2':cI<=16:=by omega
 by_cases a3:cO<1
 ·clear hv
  go_enter func45,ntmps45
  go_wp2
  go_ret2
  exact ⟨rfl,G0.out⟩
 have a3':1<=cO:=by omega
 by_cases a4:8<cO
 ·clear hv
  go_enter func45,ntmps45
  go_wp2
  go_ret2
  exact ⟨rfl,G0.out⟩
 have a4':cO<=8:=by omega
 by_cases a5:cJ<1
 ·clear hv
  go_enter func45,ntmps45
  go_wp2
  go_ret2
  exact ⟨rfl,G0.out⟩
 have a5':1<=cJ:=by omega
 have a6:2000<cJ:=by omega
 clear hv
 go_enter func45,ntmps45
 go_wp2
 go_ret2
 exact ⟨rfl,G0.out⟩
def aJQ (w wr:World)(bp k:Nat)(cI cO cJ:Int):Prop:=
 w.heap.size<=bp/\w.grownBy wr none/\((k=0/\At wr bp [.int .i64 cI,.int .i64 cO,.int .i64 cJ,.pointer none,.pointer none,.slice none 0 0,.slice none 0 0])∨
  (k=1/\∃b0,At wr bp [.int .i64 cI,.int .i64 cO,.int .i64 cJ,.pointer (some ⟨b0,0,none⟩),.pointer none,.slice none 0 0,.slice none 0 0]/\At wr b0 rs1.cells/\w.heap.size<=b0/\bp≠b0)∨
  (k=2/\∃b0 b1,RY wr bp b0 b1 cI cO cJ rs1 rs1/\w.heap.size<=b0/\w.heap.size<=b1))
theorem aGn (cI cO cJ:Int)(w:World)(hv:mT cI cO cJ):
  Calls prog 45 #[.agg #[.int .i64 cI,.int .i64 cO,.int .i64 cJ]] w fun e w'=>∃bp b0 b1,e=.returned (.tuple #[.pointer (some ⟨bp,0,none⟩),.int .i64 0])/\RY w' bp b0 b1 cI cO cJ rs1 rs1/\w.heap.size<=bp/\w.heap.size<=b0/\w.heap.size<=b1/\w.grownBy w' none:=by
 obtain ⟨⟨a1,a2⟩,⟨a3,a4⟩,⟨a5,a6⟩⟩:=hv
 have a1':¬cI<1:=by omega
 have a2':¬16<cI:=by omega
 have a3':¬cO<1:=by omega
 have a4':¬8<cO:=by omega
 have a5':¬cJ<1:=by omega
 have a6':¬2000<cJ:=by omega
 have fl:=yV
 have zf:=aQ (aY cY)
 obtain ⟨F,hF⟩:∃F,aY cY=F:=⟨_,rfl⟩
 have HF:=Hid.mk' hF
 have FR:Hid (∀W:World,Calls prog 92 #[rv 6 0 bT ⟨1,0,0,0,0⟩ (.slice none 0 0) (.slice none 0 0)] W fun e w'=>e=.returned (.string (S F))/\W.grownBy w' none):=Hid.mk' fun W=>by
  have:=kE cY (.slice none 0 0) (.slice none 0 0) W (rF W) (pF W) told1.wf told1.m (by simp[cY]) (by simp[cY])
  rw[hF] at this
  exact this
 unfold rv bT at FR
 rw[hF] at fl zf
 have RC:Hid (rs1.cells=[.bool true,.string (S F),.string (S []),.int .i64 (F.length:Nat),.int .i64 0,.int .i64 0,.int .i64 0,.int .i64 0]):=by
  show _=_
  rw[<- hF];rfl
 clear hF
 go_enter func45,ntmps45
 go_wp2_with fail
 refine Calls.mono (FR.out _) ?_
 rintro e w1 ⟨rfl,g1⟩
 have M0:Hid (aJQ w w1 (w.heap.size+1) 0 cI cO cJ):=by
  refine ⟨by omega,(cU w _ _).trans g1,.inl ⟨rfl,?_⟩⟩
  have:=(At.new (w.alloc (.cells #[.int .i64 cI,.int .i64 cO,.int .i64 cJ] 23)) [.int .i64 cI,.int .i64 cO,.int .i64 cJ,.pointer none,.pointer none,.slice none 0 0,.slice none 0 0] 145).grown g1
  simpa using this
 clear g1
 go_wp2_with fail
 go_loopw [6] (fun f wr=>∃k:Nat,k<=2/\f=.int .i64 k/\aJQ w wr (w.heap.size+1) k cI cO cJ) (fun f _=>2 -(intOf f).toNat)
 case atStart=>exact ⟨0,by omega,rfl,M0.out⟩
 case round=>
  clear M0
  obtain ⟨k,hk,rfl,h1,g1,hm⟩:=hrel
  have G1:=Hid.mk' g1
  have z1:=g1.size
  rcases hm with ⟨rfl,at0⟩ | ⟨rfl,b0,at0,ab,hb0,hne⟩ | ⟨rfl,b0,b1,ry,hb0,hb1⟩
  ·have A0:=Hid.mk' at0
   have c3:=at0.c 3 _ rfl
   have cf:=at0.f
   have cl:=at0.lt
   have nb:¬w.heap.size+1=wr.heap.size:=by omega
   clear at0 g1
   go_wp2
   have NB:At ((wr.setCell ⟨w.heap.size+1,3,none⟩ (.pointer (some ⟨wr.heap.size,0,none⟩))).alloc (.cells #[.bool true,.string (S F),.string (S []),.int .i64 (F.length:Nat),.int .i64 0,.int .i64 0,.int .i64 0,.int .i64 0] 150)) wr.heap.size rs1.cells:=by
    rw[RC.out]
    have:=At.new (wr.setCell ⟨w.heap.size+1,3,none⟩ (.pointer (some ⟨wr.heap.size,0,none⟩))) [.bool true,.string (S F),.string (S []),.int .i64 (F.length:Nat),.int .i64 0,.int .i64 0,.int .i64 0,.int .i64 0] 150
    simpa using this
   have NG:=aG (aB G1.out (k:=w.heap.size+1) (by omega) 3 (.pointer (some ⟨wr.heap.size,0,none⟩))) (.cells #[.bool true,.string (S F),.string (S []),.int .i64 (F.length:Nat),.int .i64 0,.int .i64 0,.int .i64 0,.int .i64 0] 150)
   exact ⟨⟨1,by omega,rfl,h1,NG,.inr (.inl ⟨rfl,wr.heap.size,(A0.out.put 3 _ (by simp)).alloc _,NB,by omega,by omega⟩)⟩,by simp[intOf]⟩
  ·have A0:=Hid.mk' at0
   have B0:=Hid.mk' ab
   have c4:=at0.c 4 _ rfl
   have cf:=at0.f
   have cl:=at0.lt
   have bl0:=ab.lt
   have nb:¬w.heap.size+1=wr.heap.size:=by omega
   clear at0 ab g1
   go_wp2
   have NB:At ((wr.setCell ⟨w.heap.size+1,4,none⟩ (.pointer (some ⟨wr.heap.size,0,none⟩))).alloc (.cells #[.bool true,.string (S F),.string (S []),.int .i64 (F.length:Nat),.int .i64 0,.int .i64 0,.int .i64 0,.int .i64 0] 150)) wr.heap.size rs1.cells:=by
    rw[RC.out]
    have:=At.new (wr.setCell ⟨w.heap.size+1,4,none⟩ (.pointer (some ⟨wr.heap.size,0,none⟩))) [.bool true,.string (S F),.string (S []),.int .i64 (F.length:Nat),.int .i64 0,.int .i64 0,.int .i64 0,.int .i64 0] 150
    simpa using this
   have NG:=aG (aB G1.out (k:=w.heap.size+1) (by omega) 4 (.pointer (some ⟨wr.heap.size,0,none⟩))) (.cells #[.bool true,.string (S F),.string (S []),.int .i64 (F.length:Nat),.int .i64 0,.int .i64 0,.int .i64 0,.int .i64 0] 150)
   exact ⟨⟨2,by omega,rfl,h1,NG,.inr (.inr ⟨rfl,b0,wr.heap.size,⟨(A0.out.put 4 _ (by simp)).alloc _,(B0.out.only (Only.set wr (w.heap.size+1) 4 _) (fun e=>hne e.symm)).alloc _,NB,by omega,hne,by omega⟩,hb0,by omega⟩)⟩,by simp[intOf]⟩
  ·have R:=Hid.mk' ry
   clear ry g1
   go_wp2
   go_ret2
   exact ⟨_,b0,b1,rfl,R.out,h1,hb0,hb1,G1.out⟩
end Go.Proofs.YtammnaafdhhjaaaGreat
namespace Go.Proofs.YtammnaafdhhjaaaGreat
open Go.RowKit Go.Proofs.Tryz
theorem nS (n m:Int)(w:World):Calls prog 132 #[.int .i64 n,.int .i64 m] w fun e w'=>e=.returned (.bool (decide (1<=n/\n<=m)))/\w'=w:=by
 by_cases h1:1<=n
 ·by_cases h2:n<=m
  ·rw[decide_eq_true ⟨h1,h2⟩]
   go_enter func132,ntmps132
   go_wp2
   go_ret
   exact ⟨rfl,rfl⟩
  ·rw[decide_eq_false (fun h=>h2 h.2)]
   go_enter func132,ntmps132
   go_wp2
   go_ret
   exact ⟨rfl,rfl⟩
 ·rw[decide_eq_false (fun h=>h1 h.1)]
  go_enter func132,ntmps132
  go_wp2
  go_ret
  exact ⟨rfl,rfl⟩
theorem aCg (cI cO cJ:Int)(w:World):Calls prog 76 #[.agg #[.int .i64 cI,.int .i64 cO,.int .i64 cJ]] w fun e w'=>e=.returned (.bool (decide (mT cI cO cJ)))/\w.grownBy w' none:=by
 have G0:=Hid.mk' (World.grownBy_alloc w (.cells #[.int .i64 cI,.int .i64 cO,.int .i64 cJ] 23) none)
 have W1:=Hid.mk' fun W=>nS cI 16 W
 have W2:=Hid.mk' fun W=>nS cO 8 W
 have W3:=Hid.mk' fun W=>nS cJ 2000 W
 by_cases h1:1<=cI/\cI<=16
 ·rw[decide_eq_true h1] at W1
  by_cases h2:1<=cO/\cO<=8
  ·rw[decide_eq_true h2] at W2
   have e:decide (mT cI cO cJ)=decide (1<=cJ/\cJ<=2000):=by unfold mT;simp[h1,h2]
   rw[e]
   generalize decide (1<=cJ/\cJ<=2000)=z at *
   clear h1 h2 e
   go_enter func76,ntmps76
   go_wp2_with fail
   refine Calls.mono (W1.out _) ?_
   rintro e w1 ⟨rfl,rfl⟩
   go_wp2_with fail
   refine Calls.mono (W2.out _) ?_
   rintro e w1 ⟨rfl,rfl⟩
   go_wp2_with fail
   refine Calls.mono (W3.out _) ?_
   rintro e w1 ⟨rfl,rfl⟩
   go_wp2
   go_ret
   exact ⟨rfl,G0.out⟩
  ·rw[decide_eq_false h2] at W2
   rw[decide_eq_false (fun h=>h2 h.2.1)]
   clear h1 h2
   go_enter func76,ntmps76
   go_wp2_with fail
   refine Calls.mono (W1.out _) ?_
   rintro e w1 ⟨rfl,rfl⟩
   go_wp2_with fail
   refine Calls.mono (W2.out _) ?_
   rintro e w1 ⟨rfl,rfl⟩
   go_wp2
   go_ret
   exact ⟨rfl,G0.out⟩
 ·rw[decide_eq_false h1] at W1
  rw[decide_eq_false (fun h=>h1 h.1)]
  clear h1
  go_enter func76,ntmps76
  go_wp2_with fail
  refine Calls.mono (W1.out _) ?_
  rintro e w1 ⟨rfl,rfl⟩
  go_wp2
  go_ret
  exact ⟨rfl,G0.out⟩
theorem aHY (cI cO cJ:Int)(w:World)(hv:¬mT cI cO cJ):
  Calls prog 31 #[.agg #[.int .i64 cI,.int .i64 cO,.int .i64 cJ]] w fun e w'=>e=.returned (.tuple #[.pointer none,.int .i64 1])/\w.grownBy w' none:=by
 have G0:=Hid.mk' (World.grownBy_alloc w (.cells #[.int .i64 cI,.int .i64 cO,.int .i64 cJ] 23) none)
 have C:=Hid.mk' fun W=>aCg cI cO cJ W
 rw[decide_eq_false hv] at C
 clear hv
 go_enter func31,ntmps31
 go_wp2_with fail
 refine Calls.mono (C.out _) ?_
 rintro e w1 ⟨rfl,g1⟩
 go_wp2
 go_ret2
 exact ⟨rfl,G0.out.trans g1⟩
structure PP (w:World)(bp b0 b1:Nat)(s0 s1:Sh)(F0 F1:Nat->Prop):Prop where
 at_:At w bp (wN b0 b1 (.slice none 0 0) (.slice none 0 0))
 p0:PS w b0 s0 F0
 p1:PS w b1 s1 F1
 n0:¬F0 bp
 n1:¬F1 bp
 dj:∀j,F0 j->¬F1 j
 l0:∀j,F0 j->j<w.heap.size
 l1:∀j,F1 j->j<w.heap.size
def sh1 (no:Nat)(cI cO cJ:Int):Sh:=(Sh.init no cI cO cJ).restart
def aIG (w wr:World)(bp k:Nat)(cI cO cJ:Int):Prop:=
 w.heap.size<bp/\w.grownBy wr none/\At wr w.heap.size [.int .i64 cI,.int .i64 cO,.int .i64 cJ]/\((k=0/\At wr bp [.pointer none,.pointer none,.slice none 0 0,.slice none 0 0])∨
  (k=1/\∃b0 F0,At wr bp [.pointer (some ⟨b0,0,none⟩),.pointer none,.slice none 0 0,.slice none 0 0]/\PS wr b0 (sh1 0 cI cO cJ) F0/\(∀j,F0 j->bp<j/\j<wr.heap.size))∨
  (k=2/\∃b0 b1 F0 F1,PP wr bp b0 b1 (sh1 0 cI cO cJ) (sh1 1 cI cO cJ) F0 F1/\(∀j,F0 j->w.heap.size<=j)/\(∀j,F1 j->w.heap.size<=j)))
theorem aGo (cI cO cJ:Int)(w:World)(hv:mT cI cO cJ):
  Calls prog 31 #[.agg #[.int .i64 cI,.int .i64 cO,.int .i64 cJ]] w fun e w'=>∃bp b0 b1 F0 F1,e=.returned (.tuple #[.pointer (some ⟨bp,0,none⟩),.int .i64 0])/\PP w' bp b0 b1 (sh1 0 cI cO cJ) (sh1 1 cI cO cJ) F0 F1/\w.heap.size<=bp/\(∀j,F0 j->w.heap.size<=j)/\(∀j,F1 j->w.heap.size<=j)/\w.grownBy w' none:=by
 have G0:=Hid.mk' (World.grownBy_alloc w (.cells #[.int .i64 cI,.int .i64 cO,.int .i64 cJ] 23) none)
 have C:=Hid.mk' fun W=>aCg cI cO cJ W
 rw[decide_eq_true hv] at C
 have SN0:=Hid.mk' fun W=>tZ 0 cI cO cJ W
 have SN1:=Hid.mk' fun W=>tZ 1 cI cO cJ W
 clear hv
 go_enter func31,ntmps31
 go_wp2_with fail
 refine Calls.mono (C.out _) ?_
 rintro e w1 ⟨rfl,g1⟩
 have z1:=g1.size
 have M0:Hid (aIG w (w1.alloc (.cells #[.pointer none,.pointer none,.slice none 0 0,.slice none 0 0] 121)) w1.heap.size 0 cI cO cJ):=by
  refine ⟨by simp at z1;omega,aG (G0.out.trans g1) _,((At.new w [.int .i64 cI,.int .i64 cO,.int .i64 cJ] 23).grown g1).alloc _,.inl ⟨rfl,At.new w1 _ _⟩⟩
 clear g1
 generalize hbp:w1.heap.size=bp at *
 go_wp2_with fail
 go_loopw [10] (fun f wr=>∃k:Nat,k<=2/\f=.int .i64 k/\aIG w wr bp k cI cO cJ) (fun f _=>2 -(intOf f).toNat)
 case atStart=>rw[<- hbp];rw[<- hbp] at M0;exact ⟨0,by omega,rfl,M0.out⟩
 case round=>
  clear M0
  obtain ⟨k,hk,rfl,h1,g1,ac,hm⟩:=hrel
  have G1:=Hid.mk' g1
  have AC:=Hid.mk' ac
  have zr:=g1.size
  clear g1 ac
  rcases hm with ⟨rfl,at0⟩ | ⟨rfl,b0,F0,at0,ps,hF⟩ | ⟨rfl,b0,b1,F0,F1,pp,hF0,hF1⟩
  ·have A0:=Hid.mk' at0
   have x0:=at0.c 0 _ rfl
   have q0:=AC.out.c 0 _ rfl
   have bpl:=at0.lt
   clear at0
   go_wp2_with fail
   refine wp_region_held_drew (S:=fun w'=>At w' w.heap.size [.int .i64 cI,.int .i64 cO,.int .i64 cJ]) (by kernel_rfl) (AC.out.drew) (fun hHeld=>?_)
   refine aN 0 ?_
   simp only[aF]
   refine aN 1 ?_
   simp only[aF]
   refine aN 2 ?_
   simp only[aF]
   refine dG 3 rfl (by intro w hSw;have S0:=hSw.c 0 _ rfl;have S1:=hSw.c 1 _ rfl;have S2:=hSw.c 2 _ rfl;go_simp;try with_reducible rfl) ?_
   simp only[aF]
   refine aN 5 ?_
   simp only[aF]
   refine aN 6 ?_
   simp only[aF]
   refine aX 4 (f:=77) (args:=#[.int .i64 0,.agg #[.int .i64 cI,.int .i64 cO,.int .i64 cJ]]) (by kernel_rfl) (by rfl) (by rfl) (by go_simp) ?_
   refine Calls.mono (SN0.out _) ?_
   rintro e w2 ⟨bn,rfl,ps,g2⟩
   have PSN:=Hid.mk' ps
   have G2:Hid (wr.grownBy w2 none):=(aA (aD _ _)).trans g2
   have h2:At w2 w.heap.size [.int .i64 cI,.int .i64 cO,.int .i64 cJ]:=hHeld.grown g2
   clear hHeld g2 ps
   have hHeld:=h2
   refine ⟨_,rfl,hHeld,?_⟩
   simp only[aF]
   refine aN 7 ?_
   simp only[aF]
   refine fV 8 (by kernel_rfl) (by rfl) (by rfl) ?_
   intro K hK
   have A2:=Hid.mk' (A0.out.grown G2.out)
   have t3:=A2.out.c 0 _ rfl
   have tf:=A2.out.f
   have HH:=Hid.mk' hHeld
   clear hHeld h2
   go_simp
   refine hK _ _ (HH.out.only (Only.set w2 bp 0 _) (fun e=>by omega)) ?_
   clear hK K
   refine wpAnyH_done (by kernel_rfl) ?_ _
   have z2:=G2.out.size
   go_wp2
   refine ⟨⟨1,by omega,rfl,h1,?_,HH.out.only (Only.set w2 bp 0 _) (fun e=>by omega),.inr (.inl ⟨rfl,bn,_,A2.out.put 0 _ (by simp),PSN.out.only (Only.set w2 bp 0 _) (fun j hj e=>by have:=hj.1;simp at this;omega),fun j hj=>⟨by have:=hj.1;simp at this;omega,by have:=hj.2;simpa using this⟩⟩)⟩,by simp[intOf]⟩
   exact aB (G1.out.trans G2.out) (k:=bp) (by omega) 0 _
  ·have A0:=Hid.mk' at0
   have P0:=Hid.mk' ps
   have HF:=Hid.mk' hF
   have bpl:=at0.lt
   clear at0 ps hF
   go_wp2_with fail
   refine wp_region_held_drew (S:=fun w'=>At w' w.heap.size [.int .i64 cI,.int .i64 cO,.int .i64 cJ]) (by kernel_rfl) (AC.out.drew) (fun hHeld=>?_)
   refine aN 0 ?_
   simp only[aF]
   refine aN 1 ?_
   simp only[aF]
   refine aN 2 ?_
   simp only[aF]
   refine dG 3 rfl (by intro w hSw;have S0:=hSw.c 0 _ rfl;have S1:=hSw.c 1 _ rfl;have S2:=hSw.c 2 _ rfl;go_simp;try with_reducible rfl) ?_
   simp only[aF]
   refine aN 5 ?_
   simp only[aF]
   refine aN 6 ?_
   simp only[aF]
   refine aX 4 (f:=77) (args:=#[.int .i64 1,.agg #[.int .i64 cI,.int .i64 cO,.int .i64 cJ]]) (by kernel_rfl) (by rfl) (by rfl) (by go_simp) ?_
   refine Calls.mono (SN1.out _) ?_
   rintro e w2 ⟨bn,rfl,ps,g2⟩
   have PSN:=Hid.mk' ps
   have G2:Hid (wr.grownBy w2 none):=(aA (aD _ _)).trans g2
   have h2:At w2 w.heap.size [.int .i64 cI,.int .i64 cO,.int .i64 cJ]:=hHeld.grown g2
   clear hHeld g2 ps
   have hHeld:=h2
   refine ⟨_,rfl,hHeld,?_⟩
   simp only[aF]
   refine aN 7 ?_
   simp only[aF]
   refine fV 8 (by kernel_rfl) (by rfl) (by rfl) ?_
   intro K hK
   have A2:=Hid.mk' (A0.out.grown G2.out)
   have t3:=A2.out.c 1 _ rfl
   have tf:=A2.out.f
   have HH:=Hid.mk' hHeld
   clear hHeld h2
   go_simp
   refine hK _ _ (HH.out.only (Only.set w2 bp 1 _) (fun e=>by omega)) ?_
   clear hK K
   refine wpAnyH_done (by kernel_rfl) ?_ _
   have z2:=G2.out.size
   go_wp2
   have P0':=P0.out.only ((Only.grown G2.out).mono (A':=fun _=>False) (by simp)) (fun _ _ h=>h)
   refine ⟨⟨2,by omega,rfl,h1,?_,HH.out.only (Only.set w2 bp 1 _) (fun e=>by omega),.inr (.inr ⟨rfl,b0,bn,F0,_,⟨A2.out.put 1 _ (by simp),P0'.only (Only.set w2 bp 1 _) (fun j hj e=>by have:=(HF.out j hj).1;omega),PSN.out.only (Only.set w2 bp 1 _) (fun j hj e=>by have:=hj.1;simp at this;omega),fun h=>by have:=(HF.out _ h).1;omega,fun h=>by have:=h.1;simp at this;omega,fun j hj h=>by have h2:=(HF.out j hj).2;have h3:=h.1;simp at h3;omega,fun j hj=>by have:=(HF.out j hj).2;simp;omega,fun j hj=>by have:=hj.2;simpa using this⟩,fun j hj=>by have:=(HF.out j hj).1;omega,fun j hj=>by have:=hj.1;simp at this;omega⟩)⟩,by simp[intOf]⟩
   exact aB (G1.out.trans G2.out) (k:=bp) (by omega) 1 _
  ·have R:=Hid.mk' pp
   have HF0:=Hid.mk' hF0
   have HF1:=Hid.mk' hF1
   clear pp hF0 hF1
   go_wp2
   go_ret2
   exact ⟨_,b0,b1,F0,F1,rfl,R.out,by omega,HF0.out,HF1.out,G1.out⟩
end Go.Proofs.YtammnaafdhhjaaaGreat
namespace Go.Proofs.YtammnaafdhhjaaaGreat
open Go.RowKit Go.Proofs.Tryz
def Pr.marks (p:Pr)(i:Int):Mk:=if p.upE i=0 then (p.sh i).ms else aZ
def Pr.world (p:Pr)(i:Int):List It:=if p.upE i=0 then cH (p.sh i).th else []
def Pr.outbox (p:Pr)(i:Int):List En:=if p.upE i=0 then (p.sh i).ob else []
def mkV (m:Mk):Value:=.agg #[.int .i64 m.g,.int .i64 m.m,.int .i64 m.s,.int .i64 m.a,.int .i64 m.n]
section
variable {w : World} {bp : Nat} {A : Nat -> Prop} {p : Pr}
theorem aGp (h:PW w bp A p)(i:Int):Calls prog 16 #[.pointer (some ⟨bp,0,none⟩),.int .i64 i] w fun e w'=>e=.returned (.tuple #[mkV (p.marks i),.int .i64 (p.upE i)])/\w.grownBy w' none:=by
 have g0:=World.grownBy_alloc w (.cells #[.int .i64 0,.int .i64 0,.int .i64 0,.int .i64 0,.int .i64 0] 44) none
 obtain ⟨b0,b1,v0,v1,F0,F1,hx,hA⟩:=h.grown g0
 unfold Pr.marks mkV
 refine aGi bp b0 b1 v0 v1 p.s0.up p.s1.up i w hx.fx.at_ (fG b0 p.s0 F0 _ hx.p0) (fG b1 p.s1 F1 _ hx.p1) _ (fun hu w1 o1=>?_) (fun hu=>?_)
 ·rw[if_neg (show ¬p.upE i=0 from hu)]
  exact ⟨rfl,(((Only.grown g0).mono (A':=fun j=>w.heap.size<=j) (by simp)).trans (o1.mono (fun j _ e=>.inl (by omega)))).fresh (fun k hk e=>by omega)⟩
 ·rw[if_pos (show p.upE i=0 from hu)]
  obtain ⟨hi,up⟩:=eL hu
  refine (aFS (aC b0 b1 i) (p.sh i) (aC F0 F1 i) _ (hx.at hi)).mono ?_
  rintro e w1 ⟨rfl,g1⟩
  refine ⟨_,_,_,_,_,rfl,(At.new w [.int .i64 0,.int .i64 0,.int .i64 0,.int .i64 0,.int .i64 0] 44).grown g1,fun w2 o2=>⟨by rw[show p.upE i=0 from hu],?_⟩⟩
  exact ((((Only.grown (g0.trans g1)).mono (A':=fun j=>w.heap.size<=j) (by simp)).trans (o2.mono (fun j _ e=>.inl (by omega))))).fresh (fun k hk e=>by omega)
theorem aGq (h:PW w bp A p)(gd:PGd p)(i:Int):Calls prog 14 #[.pointer (some ⟨bp,0,none⟩),.int .i64 i] w fun e w'=>∃v,e=.returned (.tuple #[v,.int .i64 (p.upE i)])/\OwnI w.heap.size w' v (p.world i)/\(p.upE i≠0->v=.slice none 0 0)/\w.grownBy w' none:=by
 obtain ⟨b0,b1,v0,v1,F0,F1,hx,hA⟩:=h
 unfold Pr.world
 refine aFU bp b0 b1 v0 v1 p.s0.up p.s1.up i w hx.fx.at_ (fG b0 p.s0 F0 w hx.p0) (fG b1 p.s1 F1 w hx.p1) _ (fun hu=>?_) (fun hu=>?_)
 ·rw[if_neg (show ¬p.upE i=0 from hu)]
  exact ⟨_,rfl,OwnI.nil _ _,fun _=>rfl,aD _ _⟩
 ·rw[if_pos (show p.upE i=0 from hu)]
  obtain ⟨hi,up⟩:=eL hu
  obtain ⟨⟨r,g⟩,_⟩:=gd.at hi
  obtain ⟨_,_,_,_,_,has,_⟩:=g.has up
  obtain ⟨d1,d2,d3,_⟩:=has.sh g.i1 g.o1
  refine (aFR (aC b0 b1 i) (p.sh i) (aC F0 F1 i) w (hx.at hi) up d2).mono ?_
  rintro e w1 ⟨v,rfl,o1,g1⟩
  exact ⟨_,rfl,v,by rw[show p.upE i=0 from hu],o1,fun hn=>absurd hu hn,g1⟩
theorem aDD (h:PW w bp A p)(gd:PGd p)(i:Int):Calls prog 15 #[.pointer (some ⟨bp,0,none⟩),.int .i64 i] w fun e w'=>∃v,e=.returned (.tuple #[v,.int .i64 (p.upE i)])/\OwnE w.heap.size w' v (p.outbox i)/\(p.upE i≠0->v=.slice none 0 0)/\w.grownBy w' none:=by
 obtain ⟨b0,b1,v0,v1,F0,F1,hx,hA⟩:=h
 unfold Pr.outbox
 refine aDq bp b0 b1 v0 v1 p.s0.up p.s1.up i w hx.fx.at_ (fG b0 p.s0 F0 w hx.p0) (fG b1 p.s1 F1 w hx.p1) _ (fun hu=>?_) (fun hu=>?_)
 ·rw[if_neg (show ¬p.upE i=0 from hu)]
  exact ⟨_,rfl,OwnE.nil _ _,fun _=>rfl,aD _ _⟩
 ·rw[if_pos (show p.upE i=0 from hu)]
  obtain ⟨hi,up⟩:=eL hu
  obtain ⟨⟨r,g⟩,_⟩:=gd.at hi
  obtain ⟨_,_,_,_,_,has,_⟩:=g.has up
  obtain ⟨d1,d2,d3,_⟩:=has.sh g.i1 g.o1
  refine (aDp (aC b0 b1 i) (p.sh i) (aC F0 F1 i) w (hx.at hi) up d1.l).mono ?_
  rintro e w1 ⟨v,rfl,o1,g1⟩
  exact ⟨_,rfl,v,by rw[show p.upE i=0 from hu],o1,fun hn=>absurd hu hn,g1⟩
end
def Pr.new (cI cO cJ:Int):Pr:=⟨sh1 0 cI cO cJ,sh1 1 cI cO cJ,[],[]⟩
theorem aJg (cI cO cJ:Int)(w:World)(hv:mT cI cO cJ):
  Calls prog 31 #[.agg #[.int .i64 cI,.int .i64 cO,.int .i64 cJ]] w fun e w'=>∃bp,e=.returned (.tuple #[.pointer (some ⟨bp,0,none⟩),.int .i64 0])/\PW w' bp (fun j=>w.heap.size<=j) (Pr.new cI cO cJ)/\w.heap.size<=bp/\w.grownBy w' none:=by
 refine (aGo cI cO cJ w hv).mono ?_
 rintro e w' ⟨bp,b0,b1,F0,F1,rfl,pp,hb,h0,h1,g⟩
 have nf:∀j,fxF bp (.slice none 0 0) (.slice none 0 0) j->j=bp:=fun j hj=>by
  rcases hj with e | e | e
  ·exact e
  ·cases e
  ·cases e
 refine ⟨bp,rfl,⟨b0,b1,.slice none 0 0,.slice none 0 0,F0,F1,⟨⟨pp.at_,World.ownsRow_nil _ _ _ _,World.ownsRow_nil _ _ _ _,fun e=>(by cases e),fun e=>(by cases e),fun j hj=>(by cases hj),(by simp[Pr.new]),(by simp[Pr.new]),(by simp[Pr.new]),(by simp[Pr.new])⟩,pp.p0,pp.p1,fun j hj e=>?_,fun j hj e=>?_,pp.dj,pp.l0,pp.l1⟩,fun j hj=>?_⟩,hb,g⟩
 ·rw[nf j hj] at e;exact pp.n0 e
 ·rw[nf j hj] at e;exact pp.n1 e
 ·rcases hj with hj | hj | hj
  ·rw[nf j hj];exact hb
  ·exact h0 j hj
  ·exact h1 j hj
end Go.Proofs.YtammnaafdhhjaaaGreat
namespace Go.Proofs.YtammnaafdhhjaaaGreat
def Sh.cfg (s t:Sh):Prop:=s.no=t.no/\s.cI=t.cI/\s.cO=t.cO/\s.cJ=t.cJ
theorem eT (s:Sh):s.cfg s:=⟨rfl,rfl,rfl,rfl⟩
theorem kY (s:Sh)(p:Rc):(s.jrn p).2.cfg s:=by
 unfold Sh.jrn
 split
 ·exact eT s
 split
 ·exact ⟨rfl,rfl,rfl,rfl⟩
 split
 ·exact ⟨rfl,rfl,rfl,rfl⟩
 ·have:=sC (s.on ((s.dk.append s.ct (aY p)).1.sync s.ct).1) p
  exact ⟨this.2.2.2.1,this.2.2.2.2.1,this.2.2.2.2.2.1,this.2.2.2.2.2.2⟩
theorem aGr (s:Sh)(pl sp:Nat):(s.mint pl sp).2.cfg s:=by
 unfold Sh.mint
 split
 ·exact eT s
 split
 ·exact eT s
 split
 ·exact kY s _
 ·exact kY s _
theorem aGs (s:Sh):s.snap.2.cfg s:=by
 unfold Sh.snap
 split
 ·exact eT s
 split
 ·exact eT s
 split
 ·exact ⟨rfl,rfl,rfl,rfl⟩
 split
 ·exact ⟨rfl,rfl,rfl,rfl⟩
 split<;>exact ⟨rfl,rfl,rfl,rfl⟩
theorem mD (s:Sh):s.restart.cfg s:=by
 have:=vZ (aR (s.dk.file s.dk.choice)) s.begun
 exact ⟨this.2.2.2.1,this.2.2.2.2.1,this.2.2.2.2.2.1,this.2.2.2.2.2.2⟩
theorem uG {s t u:Sh}(h:s.cfg t)(h':t.cfg u):s.cfg u:=⟨h.1.trans h'.1,h.2.1.trans h'.2.1,h.2.2.1.trans h'.2.2.1,h.2.2.2.trans h'.2.2.2⟩
end Go.Proofs.YtammnaafdhhjaaaGreat
namespace Go.Proofs.YtammnaafdhhjaaaGreat
theorem aDE {s:Sh}{i:It}(h:s.mayArr i=true):s.ds.mayArr s.no s.cI i:=by
 unfold Sh.mayArr at h
 simp only[Bool.and_eq_true,decide_eq_true_eq,Bool.not_eq_true',Bool.and_eq_false_imp,decide_eq_false_iff_not] at h
 obtain ⟨⟨⟨h1,h2⟩,h3⟩,h4⟩:=h
 have len:s.ds.it.length=s.th.length:=(bG s.th).length_eq
 refine ⟨h1,fun e=>h2 e.1 e.2,fun x hx e=>?_,by rw[len];omega⟩
 have:cM s.th i.sh i.nu=true:=(wF i.sh i.nu).2 ⟨x,hx,e⟩
 rw[h3] at this
 cases this
structure PKeep (p q:Pr):Prop where
 gd:PGd q
 c0:q.s0.cfg p.s0
 c1:q.s1.cfg p.s1
theorem PKeep.refl {p:Pr}(h:PGd p):PKeep p p:=⟨h,eT _,eT _⟩
theorem PKeep.set {p:Pr}(h:PGd p){i:Int}(hi:aV i){s:Sh}(g:∃r,Good s r)(hc:s.cfg (p.sh i)):PKeep p (p.setSh i s):=by
 refine ⟨h.set hi g hc.1,?_,?_⟩
 ·rcases hi with rfl | rfl
  ·exact hc
  ·exact eT _
 ·rcases hi with rfl | rfl
  ·exact eT _
  ·exact hc
theorem PKeep.flown {p q:Pr}(h:PGd p)(e0:q.s0=p.s0)(e1:q.s1=p.s1):PKeep p q:=⟨h.flown e0 e1,by rw[e0];exact eT _,by rw[e1];exact eT _⟩
theorem PKeep.onUp {p:Pr}(h:PGd p)(i:Int)(f:Sh->Int×Sh)(hf:∀s r,Good s r->s.up=true->(∃r',Good (f s).2 r')/\(f s).2.cfg s):PKeep p (p.onUp i f).2:=by
 unfold Pr.onUp
 by_cases hu:p.upE i=0
 ·rw[if_pos hu]
  obtain ⟨hi,up⟩:=eL hu
  obtain ⟨⟨r,g⟩,_⟩:=h.at hi
  obtain ⟨a,b⟩:=hf _ r g up
  exact PKeep.set h hi a b
 ·rw[if_neg hu]
  exact PKeep.refl h
theorem PKeep.trans {p q r:Pr}(h:PKeep p q)(h':PKeep q r):PKeep p r:=⟨h'.gd,uG h'.c0 h.c0,uG h'.c1 h.c1⟩
end Go.Proofs.YtammnaafdhhjaaaGreat
namespace Go.Proofs.YtammnaafdhhjaaaGreat
open Go.RowKit Go.Proofs.Tryz
def Ds.after (no:Nat)(cO:Int)(d:Ds)(k:Nat):Ds:=(d.it.take k).foldl (Ds.tickOne no cO) ⟨[],d.ob,d.ms⟩
theorem Ds.after_succ (no:Nat)(cO:Int)(d:Ds)(k:Nat)(hk:k<d.it.length):d.after no cO (k+1)=(d.after no cO k).tickOne no cO d.it[k]:=by
 unfold Ds.after
 rw[List.take_succ_eq_append_getElem hk,List.foldl_append]
 rfl
theorem yZ (no:Nat)(cO:Int)(a:Ds)(i:It):(a.tickOne no cO i).it.length<=a.it.length+1/\(a.tickOne no cO i).ob.length<=a.ob.length+1/\(0<=a.ms.s->a.ms.s<=65535->0<=(a.tickOne no cO i).ms.s/\(a.tickOne no cO i).ms.s<=65535):=by
 unfold Ds.tickOne
 split
 ·exact ⟨by simp,by simp,fun h1 h2=>⟨h1,h2⟩⟩
 split
 ·exact ⟨by simp,by simp,fun h1 h2=>⟨h1,h2⟩⟩
 split
 ·exact ⟨by simp,by simp,fun h1 h2=>⟨by show 0<=a.ms.s+1;omega,by show a.ms.s+1<=65535;omega⟩⟩
 ·exact ⟨by simp,by simp,fun h1 h2=>⟨h1,h2⟩⟩
theorem uH (no:Nat)(cO:Int)(d:Ds)(h0:0<=d.ms.s)(h1:d.ms.s<=65535):∀k,k<=d.it.length->(d.after no cO k).it.length<=k/\(d.after no cO k).ob.length<=d.ob.length+k/\0<=(d.after no cO k).ms.s/\(d.after no cO k).ms.s<=65535
 | 0,_=>⟨Nat.le_refl _,Nat.le_refl _,h0,h1⟩
 | k+1,h=>by
  rw[Ds.after_succ no cO d k (by omega)]
  have h1':=yZ no cO (d.after no cO k) d.it[k]
  have h2:=uH no cO d h0 h1 k (by omega)
  have h3:=h1'.2.2 h2.2.2.1 h2.2.2.2
  omega
structure Tk (w wr:World)(b B no:Nat)(vi vo v vk:Value)(is:List It)(a:Ds):Prop where
 at_:At wr b (kN no vi vk a.ms)
 li:OwnI B wr vi is
 ol:OwnI w.heap.size wr v a.it
 oe:OwnE B wr vk a.ob
 on:Only w wr (fun j=>j=b∨vo.ownBlock=some j)
 nv:∀j,vk.ownBlock=some j->vo.ownBlock=some j∨w.heap.size<=j
 ne:∀j,v.ownBlock=some j->vk.ownBlock≠some j
 nb:vk.ownBlock≠some b
 ni:∀j,vi.ownBlock=some j->vk.ownBlock≠some j
 nl:∀j,vi.ownBlock=some j->j<w.heap.size
 bl:b<w.heap.size
 vib:vi.ownBlock≠some b
theorem Tk.put {w wr w1 w2:World}{b B no:Nat}{vi vo v vk v':Value}{is:List It}{a:Ds}{x:It}(h:Tk w wr b B no vi vo v vk is a)(g:wr.grownBy w1 none)(g2:w1.grownBy w2 v.ownBlock)(o:OwnI w.heap.size w2 v' (a.it++[x]))(hv:v'.ownBlock=v.ownBlock∨v'.ownBlock=some w1.heap.size):Tk w w2 b B no vi vo v' vk is {a with it:=a.it++[x]}:=by
 have z:=h.on.size
 have z1:=g.size
 have vl:∀j,v.ownBlock=some j->w.heap.size<=j:=fun j hj=>(h.ol.lt j hj).1
 have o2:Only wr w2 (fun j=>v.ownBlock=some j):=((Only.grown g).mono (by simp)).trans ((Only.grown g2).mono (fun _ _ e=>.inl e))
 have kl:∀j,vk.ownBlock=some j->j<wr.heap.size:=fun j hj=>(h.oe.lt j hj).2
 refine ⟨h.at_.only o2 (fun e=>?_),o2.own h.li (fun j hj e=>?_),o,o2.own h.oe (fun j hj e=>?_),h.on.trans (o2.mono (fun k _ e=>.inr (vl k e))),h.nv,fun j hj=>?_,h.nb,h.ni,h.nl,h.bl,h.vib⟩
 ·have:=vl b e;have:=h.bl;omega
 ·have:=vl j e;have:=h.nl j hj;omega
 ·exact h.ne j e hj
 ·rcases hv with e | e
  ·exact h.ne j (e ▸ hj)
  ·intro e'
   have:=kl j e'
   rw[e] at hj
   injection hj with hj
   omega
theorem Tk.leave {w wr W2 W3 w4:World}{b B no:Nat}{vi vo v vk v':Value}{is:List It}{a:Ds}{e:En}{m:Mk}(h:Tk w wr b B no vi vo v vk is a)(A2:At W2 b (kN no vi vk m))(o:Only wr W2 (fun j=>j=b))(g3:W2.grownBy W3 none)(g4:W3.grownBy w4 vk.ownBlock)(o4:OwnE B w4 v' (a.ob++[e]))(h4:v'.ownBlock=vk.ownBlock∨v'.ownBlock=some W3.heap.size):Tk w (w4.setCell ⟨b,2,none⟩ v') b B no vi vo v v' is ⟨a.it,a.ob++[e],m⟩:=by
 have z:=h.on.size
 have z2:=o.size
 have z3:=g3.size
 have bl:=h.at_.lt
 have nb':v'.ownBlock≠some b:=fun e'=>by
  rcases h4 with e | e
  ·exact h.nb (e ▸ e')
  ·rw[e] at e';injection e' with e';omega
 have o5:Only wr (w4.setCell ⟨b,2,none⟩ v') (fun j=>j=b∨vk.ownBlock=some j):=((o.mono (fun _ _ e=>.inl e)).trans ((Only.grown g3).mono (by simp))).trans (((Only.grown g4).mono (A':=fun j=>(j=b∨vk.ownBlock=some j)∨wr.heap.size<=j) (fun _ _ e=>.inl (.inr e))).trans ((Only.set w4 b 2 v').mono (fun _ _ e=>.inl (.inl (.inl e)))))
 refine ⟨((A2.grown g3).only (Only.grown g4) h.nb).put 2 v' (by simp[kN]),o5.own h.li (fun j hj e=>?_),o5.own h.ol (fun j hj e=>?_),aH o4 b 2 v' nb',h.on.trans (o5.mono (fun k _ e=>?_)),fun j hj=>?_,fun j hj e'=>?_,nb',fun j hj e'=>?_,h.nl,h.bl,h.vib⟩
 ·rcases e with e | e
  ·exact h.vib (e ▸ hj)
  ·exact h.ni j hj e
 ·rcases e with e | e
  ·have:=(h.ol.lt j hj).1;have:=h.bl;omega
  ·exact h.ne j hj e
 ·rcases e with e | e
  ·exact .inl (.inl e)
  ·rcases h.nv k e with e | e
   ·exact .inl (.inr e)
   ·exact .inr e
 ·rcases h4 with e | e
  ·exact h.nv j (e ▸ hj)
  ·rw[e] at hj;injection hj with hj;exact .inr (by omega)
 ·rcases h4 with e | e
  ·exact h.ne j hj (e ▸ e')
  ·have:=(h.ol.lt j hj).2
   rw[e] at e';injection e' with e';omega
 ·rcases h4 with e | e
  ·exact h.ni j hj (e ▸ e')
  ·have:=h.nl j hj
   rw[e] at e';injection e' with e';omega
theorem zB (no b B:Nat)(cO:Int)(d:Ds)(vi vo:Value)(w:World)(h:At w b (kN no vi vo d.ms))(hi:OwnI B w vi d.it)(ho:OwnE B w vo d.ob)(n1:vi.ownBlock≠some b)(n2:vo.ownBlock≠some b)(n3:∀j,vi.ownBlock=some j->vo.ownBlock≠some j)(hB:B<=w.heap.size)(hl:d.it.length<=1000)(hlo:d.ob.length<=1000)(hn:∀x∈d.it,aS x.pl=true/\aS x.sp=true)(hs0:0<=d.ms.s)(hs1:d.ms.s<=65535):
  Calls prog 150 #[.pointer (some ⟨b,0,none⟩),.int .i64 cO] w fun e w'=>e=.returned (.tuple #[])/\∃vi' vo',At w' b (kN no vi' vo' (d.tick no cO).ms)/\OwnI w.heap.size w' vi' (d.tick no cO).it/\OwnE B w' vo' (d.tick no cO).ob/\Only w w' (fun j=>j=b∨vo.ownBlock=some j)/\(∀j,vo'.ownBlock=some j->vo.ownBlock=some j∨w.heap.size<=j)/\(∀j,vi'.ownBlock=some j->vo'.ownBlock≠some j)/\vi'.ownBlock≠some b/\vo'.ownBlock≠some b:=by
 obtain ⟨a,c,rfl⟩:=aJ hi
 have hbl:=h.lt
 obtain ⟨n,hL⟩:∃n,d.it.length=n:=⟨_,rfl⟩
 have HL:Hid (d.it.length=n):=hL
 have HNR:=Hid.mk' hn
 have T0:Hid (Tk w w b B no (.slice a n c) vo (.slice none 0 0) vo d.it (d.after no cO 0)):=by
  rw[hL] at h hi n1 n3
  exact ⟨h,hi,OwnI.nil _ _,ho,Only.refl _ _,fun j hj=>.inl hj,by simp[Value.ownBlock],n2,n3,fun j hj=>(hi.lt j hj).2,hbl,n1⟩
 have AL:=Hid.mk' (uH no cO d hs0 hs1)
 rw[hL] at hl
 have hsf:=aK
 have hadd:=fQ
 have hneg:=fR
 clear h hi ho n1 n2 n3 hL hn
 go_enter func150,ntmps150
 go_wp2
 go_loopw [4,5] (fun v i wr=>∃(k:Nat) (vk:Value),k<=n/\i=.int .i64 k/\Tk w wr b B no (.slice a n c) vo v vk d.it (d.after no cO k)) (fun _ i _=>n -(intOf i).toNat)
 case atStart=>exact ⟨0,vo,by omega,rfl,T0.out⟩
 case round=>
  clear T0
  obtain ⟨k,vk,hk,rfl,tk⟩:=hrel
  have TK:=Hid.mk' tk
  obtain ⟨ak,ck,rfl⟩:=aJ tk.oe
  have al:=AL.out k (by rw[HL.out];exact hk)
  have c1:=tk.at_.c 1 _ rfl
  clear tk
  by_cases hlt:k<n
  ·have hkl:k<d.it.length:=by rw[HL.out];exact hlt
   obtain ⟨y,hi⟩:∃y,d.it[k]=y:=⟨_,rfl⟩
   have AS:Hid (d.after no cO (k+1)=(d.after no cO k).tickOne no cO y):=by
    show _=_
    rw[Ds.after_succ no cO d k hkl,hi]
   have ny:=HNR.out y (by rw[<- hi];exact List.getElem_mem hkl)
   have li:=Lies.of_own TK.out.li
   obtain ⟨a',c',hv,hx⟩:=li
   rw[HL.out] at hv hx
   obtain ⟨g,off,rfl,hc⟩:=hx (by omega)
   injection hv with hv _ _
   subst hv
   have dd:∀j (hj:j<4) u,y.cells[j]?=some u->wr.cell? ⟨g,off+k * 4+j,none⟩=some u:=fun j hj u hu=>by
    have:=hc (4 * k+j) u (by rw[cQ d.it k j hkl hj,hi];exact hu)
    rw[show off+(4 * k+j)=off+k * 4+j by omega] at this
    exact this
   have d0:=dd 0 (by omega) _ rfl
   have d1:=dd 1 (by omega) _ rfl
   have d2:=dd 2 (by omega) _ rfl
   have d3:=dd 3 (by omega) _ rfl
   rw[Nat.add_zero] at d0
   clear dd hc hx hi
   have y0:(0:Int)<=(k:Int):=by omega
   have y1:(k:Int)<(n:Int):=by omega
   have had:=hadd y.pl y.sp ny.1 ny.2
   clear hadd
   have bw:b<wr.heap.size:=TK.out.at_.lt
   have zw:=TK.out.on.size
   have OL:=Hid.mk' TK.out.ol
   have HV:Hid (∀j,Value.ownBlock _=some j->w.heap.size<=j):=fun j hj=>(OL.out.lt j hj).1
   have NR:=Hid.mk' fun W=>jV (bM y.pl y.sp) W
   by_cases cn:aS (bM y.pl y.sp)=false
   ·have E1:Hid ((d.after no cO k).tickOne no cO y={d.after no cO k with it:=(d.after no cO k).it++[⟨y.sh,y.nu,y.pl,iB y.sp⟩]}):=if_pos cn
    rw[cn] at NR
    clear cn
    go_wp2_with fail
    refine Calls.mono (NR.out _) ?_
    rintro e w1 ⟨rfl,rfl⟩
    go_wp2_with (at_builtin;refine fK rfl _ _ rfl w.heap.size _ (d.after no cO k).it rfl (World.ownsRow.alloc (World.ownsRow.alloc OL.out _) _) ⟨wr.heap.size+1,0,none⟩ ⟨y.sh,y.nu,y.pl,iB y.sp⟩ rfl (aW _ (⟨y.sh,y.nu,y.pl,iB y.sp⟩:It).cells _ _ (by simp)) (by omega) (by simp;omega) ?_;intro v3 w3 o3 g3 h3)
    go_wp2
    go_roundw
    case rel=>
     refine ⟨k+1,.slice ak (d.after no cO k).ob.length ck,by omega,by go_num,?_⟩
     rw[AS.out,E1.out]
     exact TK.out.put (aG (World.grownBy_alloc wr (.cells #[.int .i64 y.sh,.int .i64 y.nu,.float .f32 (y.pl),.float .f32 (iB y.sp)] 75) none) _) g3 o3 h3
    case measure=>simp[intOf];omega
   have cn':aS (bM y.pl y.sp)=true:=by simpa using cn
   rw[cn'] at NR
   have SD:=Hid.mk' fun W=>lS (bM y.pl y.sp) W
   have c0:=TK.out.at_.c 0 _ rfl
   by_cases cs:cK (bM y.pl y.sp)=(no:Int)
   ·have E1:Hid ((d.after no cO k).tickOne no cO y={d.after no cO k with it:=(d.after no cO k).it++[⟨y.sh,y.nu,bM y.pl y.sp,y.sp⟩]}):=by
     show _=_
     unfold Ds.tickOne
     rw[if_neg cn,if_pos cs]
    rw[cs] at SD
    clear cn cs cn'
    go_wp2_with fail
    refine Calls.mono (NR.out _) ?_
    rintro e w1 ⟨rfl,rfl⟩
    go_wp2_with fail
    go_quiet (exact (SD.out _).mono (fun _ _ h=>⟨h.1,_,h.2⟩))
    go_wp2_with (at_builtin;refine fK rfl _ _ rfl w.heap.size _ (d.after no cO k).it rfl (World.ownsRow.alloc (aO OL.out (aB (aL (World.grownBy_alloc wr (.cells #[.int .i64 y.sh,.int .i64 y.nu,.float .f32 y.pl,.float .f32 y.sp] 75) none) nq) (k:=wr.heap.size) (Nat.le_refl _) 2 (.float .f32 (bM y.pl y.sp)))) _) ⟨wr.heap.size+1,0,none⟩ ⟨y.sh,y.nu,bM y.pl y.sp,y.sp⟩ rfl (aW _ (⟨y.sh,y.nu,bM y.pl y.sp,y.sp⟩:It).cells _ _ (by simp)) (by omega) (by simp;omega) ?_;intro v3 w3 o3 g3 h3)
    go_wp2
    go_roundw
    case rel=>
     refine ⟨k+1,.slice ak (d.after no cO k).ob.length ck,by omega,by go_num,?_⟩
     rw[AS.out,E1.out]
     exact TK.out.put (aG (aB (aL (World.grownBy_alloc wr (.cells #[.int .i64 y.sh,.int .i64 y.nu,.float .f32 y.pl,.float .f32 y.sp] 75) none) nq) (k:=wr.heap.size) (Nat.le_refl _) 2 (.float .f32 (bM y.pl y.sp))) _) g3 o3 h3
    case measure=>simp[intOf];omega
   have c2:=TK.out.at_.c 2 _ rfl
   have c5:=TK.out.at_.c 5 _ rfl
   have cf:=TK.out.at_.f
   have csb:(cK (bM y.pl y.sp)==(no:Int))=false:=by simpa using cs
   obtain ⟨nk,hnk⟩:∃nk,(d.after no cO k).ob.length=nk:=⟨_,rfl⟩
   obtain ⟨sk,hsk⟩:∃sk,(d.after no cO k).ms.s=sk:=⟨_,rfl⟩
   have HNK:=Hid.mk' hnk
   have HSK:=Hid.mk' hsk
   rw[hnk] at c2 al
   rw[hsk] at c5 al
   obtain ⟨al1,al2,al3,al4⟩:=al
   have EA:Hid ((nk:Int)<cO/\sk<65535->(d.after no cO k).tickOne no cO y=⟨(d.after no cO k).it,(d.after no cO k).ob++[⟨sk+1,⟨y.sh,y.nu,bM y.pl y.sp,y.sp⟩⟩],{(d.after no cO k).ms with s:=sk+1}⟩):=Hid.mk' fun c3=>by
    unfold Ds.tickOne
    rw[if_neg cn,if_neg cs,hnk,hsk,if_pos c3]
   have EB:Hid (¬((nk:Int)<cO/\sk<65535)->(d.after no cO k).tickOne no cO y={d.after no cO k with it:=(d.after no cO k).it++[⟨y.sh,y.nu,y.pl,y.sp⟩]}):=Hid.mk' fun c3=>by
    unfold Ds.tickOne
    rw[if_neg cn,if_neg cs,hnk,hsk,if_neg c3]
   clear cn cs cn' hnk hsk
   generalize cK (bM y.pl y.sp)=z at *
   by_cases c3:(nk:Int)<cO/\sk<65535
   ·have E1:=Hid.mk' (EA.out c3)
    clear EA EB
    obtain ⟨c3a,c3b⟩:=c3
    go_wp2_with fail
    refine Calls.mono (NR.out _) ?_
    rintro e w1 ⟨rfl,rfl⟩
    go_wp2_with fail
    go_quiet (exact (SD.out _).mono (fun _ _ h=>⟨h.1,_,h.2⟩))
    have A1:=Hid.mk' (TK.out.at_.grown (aL (World.grownBy_alloc wr (.cells #[.int .i64 y.sh,.int .i64 y.nu,.float .f32 y.pl,.float .f32 y.sp] 75) none) nq))
    have X1:=Hid.mk' ((At.new wr [.int .i64 y.sh,.int .i64 y.nu,.float .f32 y.pl,.float .f32 y.sp] 75).drewN nq)
    have hbx:¬b=wr.heap.size:=by omega
    have hbx':¬wr.heap.size=b:=by omega
    have A2:=Hid.mk' ((A1.out.only (Only.set _ wr.heap.size 2 (.float .f32 (bM y.pl y.sp))) hbx).put 5 (.int .i64 (sk+1)) (by simp[kN]))
    have X2:=Hid.mk' ((X1.out.put 2 (.float .f32 (bM y.pl y.sp)) (by simp)).only (Only.set _ b 5 (.int .i64 (sk+1))) hbx')
    have P2:Hid (Only wr (((((wr.alloc (.cells #[.int .i64 y.sh,.int .i64 y.nu,.float .f32 y.pl,.float .f32 y.sp] 75)).drewN nq).setCell ⟨wr.heap.size,2,none⟩ (.float .f32 (bM y.pl y.sp))).setCell ⟨b,5,none⟩ (.int .i64 (sk+1)))) (fun j=>j=b)):=(((Only.grown (aL (World.grownBy_alloc wr (.cells #[.int .i64 y.sh,.int .i64 y.nu,.float .f32 y.pl,.float .f32 y.sp] 75) none) nq)).mono (by simp)).trans ((Only.set _ wr.heap.size 2 _).mono (fun _ _ e=>.inr (by omega)))).trans ((Only.set _ b 5 _).mono (fun _ _ e=>.inl e))
    have O2:=Hid.mk' (P2.out.own TK.out.oe (fun j hj e=>TK.out.nb (e ▸ hj)))
    have B2:=P2.out.size
    have hBz:B<=(((((wr.alloc (.cells #[.int .i64 y.sh,.int .i64 y.nu,.float .f32 y.pl,.float .f32 y.sp] 75)).drewN nq).setCell ⟨wr.heap.size,2,none⟩ (.float .f32 (bM y.pl y.sp))).setCell ⟨b,5,none⟩ (.int .i64 (sk+1)))).heap.size:=by simp;omega
    have xs:wr.heap.size<(((((wr.alloc (.cells #[.int .i64 y.sh,.int .i64 y.nu,.float .f32 y.pl,.float .f32 y.sp] 75)).drewN nq).setCell ⟨wr.heap.size,2,none⟩ (.float .f32 (bM y.pl y.sp))).setCell ⟨b,5,none⟩ (.int .i64 (sk+1)))).heap.size:=X2.out.lt
    have KE:Hid ((⟨sk+1,⟨y.sh,y.nu,bM y.pl y.sp,y.sp⟩⟩:En).cells=[.int .i64 (sk+1),.int .i64 y.sh,.int .i64 y.nu,.float .f32 (bM y.pl y.sp),.float .f32 y.sp]):=rfl
    go_wp2_with fail
    generalize (((((wr.alloc (.cells #[.int .i64 y.sh,.int .i64 y.nu,.float .f32 y.pl,.float .f32 y.sp] 75)).drewN nq).setCell ⟨wr.heap.size,2,none⟩ (.float .f32 (bM y.pl y.sp))).setCell ⟨b,5,none⟩ (.int .i64 (sk+1))))=W2 at *
    clear c0 c1 c2 c5 cf d0 d1 d2 d3 A1 X1 had
    have c2:=A2.out.c 2 _ rfl
    have c5:=A2.out.c 5 _ rfl
    have cf:=A2.out.f
    have x0:=X2.out.c 0 _ rfl
    have x1:=X2.out.c 1 _ rfl
    have x2:=X2.out.c 2 _ rfl
    have x3:=X2.out.c 3 _ rfl
    have hw5:b≠W2.heap.size:=by omega
    have hw6:wr.heap.size≠W2.heap.size:=by omega
    have hw7:b<W2.heap.size:=by omega
    have N1:=Hid.mk' TK.out.nb
    have lo:(d.after no cO k).ob.length+1<=1000000:=by rw[HNK.out];omega
    go_region_law (first | (refine pK rfl (.tmp 90) (.tmp 98) rfl B (.slice ak (d.after no cO k).ob.length ck) (d.after no cO k).ob (by simp[Act.eval]) (World.ownsRow.alloc (World.ownsRow.drew O2.out) _) ⟨W2.heap.size,0,none⟩ ⟨sk+1,⟨y.sh,y.nu,bM y.pl y.sp,y.sp⟩⟩ (by simp[Act.eval]) (aW _ (⟨sk+1,⟨y.sh,y.nu,bM y.pl y.sp,y.sp⟩⟩:En).cells _ _ rfl) lo (by simp;omega) ?_;intro v' w4 o4 g4 h4;obtain ⟨a',n',c',rfl⟩:=dD o4;have A4:=Hid.mk' ((A2.out.grown (aG (aA (aD W2 none)) _)).only (Only.grown g4) N1.out);have s2:=A4.out.c 2 _ rfl;have f4:=A4.out.f))
    all_goals
     go_wp2
     go_roundw
     case rel=>
      refine ⟨k+1,.slice a' n' c',by omega,by go_num,?_⟩
      rw[AS.out,E1.out]
      exact TK.out.leave A2.out P2.out (aA (World.grownBy_alloc W2 _ none)) g4 o4 h4
     case measure=>simp[intOf];omega
   ·have E1:=Hid.mk' (EB.out c3)
    clear EA EB
    by_cases c4:cO<=(nk:Int)
    ·clear c3
     go_wp2_with fail
     refine Calls.mono (NR.out _) ?_
     rintro e w1 ⟨rfl,rfl⟩
     go_wp2_with fail
     go_quiet (exact (SD.out _).mono (fun _ _ h=>⟨h.1,_,h.2⟩))
     go_wp2_with (at_builtin;refine fK rfl _ _ rfl w.heap.size _ (d.after no cO k).it rfl (World.ownsRow.alloc (aO OL.out (aL (World.grownBy_alloc wr (.cells #[.int .i64 y.sh,.int .i64 y.nu,.float .f32 y.pl,.float .f32 y.sp] 75) none) nq)) _) ⟨wr.heap.size+1,0,none⟩ ⟨y.sh,y.nu,y.pl,y.sp⟩ rfl (aW _ (⟨y.sh,y.nu,y.pl,y.sp⟩:It).cells _ _ (by simp)) (by omega) (by simp;omega) ?_;intro v3 w3 o3 g3 h3)
     go_wp2
     go_roundw
     case rel=>
      refine ⟨k+1,.slice ak (d.after no cO k).ob.length ck,by omega,by go_num,?_⟩
      rw[AS.out,E1.out]
      exact TK.out.put (aG (aL (World.grownBy_alloc wr (.cells #[.int .i64 y.sh,.int .i64 y.nu,.float .f32 y.pl,.float .f32 y.sp] 75) none) nq) _) g3 o3 h3
     case measure=>simp[intOf];omega
    ·have c5':65535<=sk:=by omega
     have c4':(nk:Int)<cO:=by omega
     clear c3 c4
     go_wp2_with fail
     refine Calls.mono (NR.out _) ?_
     rintro e w1 ⟨rfl,rfl⟩
     go_wp2_with fail
     go_quiet (exact (SD.out _).mono (fun _ _ h=>⟨h.1,_,h.2⟩))
     go_wp2_with (at_builtin;refine fK rfl _ _ rfl w.heap.size _ (d.after no cO k).it rfl (World.ownsRow.alloc (aO OL.out (aL (World.grownBy_alloc wr (.cells #[.int .i64 y.sh,.int .i64 y.nu,.float .f32 y.pl,.float .f32 y.sp] 75) none) nq)) _) ⟨wr.heap.size+1,0,none⟩ ⟨y.sh,y.nu,y.pl,y.sp⟩ rfl (aW _ (⟨y.sh,y.nu,y.pl,y.sp⟩:It).cells _ _ (by simp)) (by omega) (by simp;omega) ?_;intro v3 w3 o3 g3 h3)
     go_wp2
     go_roundw
     case rel=>
      refine ⟨k+1,.slice ak (d.after no cO k).ob.length ck,by omega,by go_num,?_⟩
      rw[AS.out,E1.out]
      exact TK.out.put (aG (aL (World.grownBy_alloc wr (.cells #[.int .i64 y.sh,.int .i64 y.nu,.float .f32 y.pl,.float .f32 y.sp] 75) none) nq) _) g3 o3 h3
     case measure=>simp[intOf];omega
  ·have hkn:k=n:=by omega
   subst hkn
   have bw:b<wr.heap.size:=TK.out.at_.lt
   have cf:=TK.out.at_.f
   have EQ:Hid (d.tick no cO=d.after no cO k):=by
    show d.it.foldl _ _=(d.it.take k).foldl _ _
    rw[List.take_of_length_le (by rw[HL.out];omega)]
   obtain ⟨av,cv,rfl⟩:=aJ TK.out.ol
   go_wp2
   refine bodyPost_end (v:=.tuple #[]) (by simp[results,results150]) rfl ?_
   have T:=TK.out
   have vl:∀j,(Value.slice av (d.after no cO k).it.length cv).ownBlock=some j->w.heap.size<=j:=fun j hj=>(T.ol.lt j hj).1
   have nb':(Value.slice av (d.after no cO k).it.length cv).ownBlock≠some b:=fun e=>by have:=vl b e;omega
   rw[EQ.out]
   exact ⟨rfl,_,_,T.at_.put 1 _ (by simp[kN]),aH T.ol b 1 _ nb',aH T.oe b 1 _ T.nb,T.on.trans ((Only.set wr b 1 _).mono (fun _ _ e=>.inl (.inl e))),T.nv,T.ne,nb',T.nb⟩
end Go.Proofs.YtammnaafdhhjaaaGreat
