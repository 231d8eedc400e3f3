import Derived.Test.YtammnaafdhhjaaaGreatRows
import Derived.Test.YtammnaafdhhjaaaGreatJN10
set_option maxHeartbeats 16000000
set_option maxRecDepth 100000
namespace Go.Proofs.YtammnaafdhhjaaaGreat
open Go.RowKit Go.Proofs.Tryz
theorem aIA (t:ByteArray):∃l,t=S l:=⟨t.data.toList,by cases t;rfl⟩
structure Ac where
 K:Int
 sh:Int
 k:Int
 m:Int
 x:Int
 y:Int
 pl:Nat
 sp:Nat
 t:ByteArray
def Ac.cells (a:Ac):List Value:=[.int .i64 a.K,.int .i64 a.sh,.int .i64 a.k,.int .i64 a.m,.int .i64 a.x,.int .i64 a.y,.float .f32 a.pl,.float .f32 a.sp,.string a.t]
structure Ac.Ok (a:Ac):Prop where
 k:bF a.k
 m:bF a.m
 x:bF a.x
 y:bF a.y
 pl:a.pl<4294967296
 sp:a.sp<4294967296
theorem zP (bw n:Nat)(G:Nat->Prop)(a:Ac)(w:World)(h:LI w bw G n)(hn:n<=9000000):
  Calls prog 62 #[.pointer (some ⟨bw,0,none⟩),.agg #[.int .i64 a.K,.int .i64 a.sh,.int .i64 a.k,.int .i64 a.m,.int .i64 a.x,.int .i64 a.y,.float .f32 a.pl,.float .f32 a.sp,.string a.t]] w fun e w'=>e=.returned (.bool true)/\LIn w w' bw G (n+4):=by
 obtain ⟨K,sh,k,m,x,y,pl,sp,t⟩:=a
 by_cases h14:K=14
 ·subst h14;exact aEd bw n G sh k m x y pl sp t w h hn
 by_cases h15:K=15
 ·subst h15;exact aBq bw n G sh k m x y pl sp t w h hn
 by_cases h16:K=16
 ·subst h16;exact aEe bw n G sh k m x y pl sp t w h
 by_cases h17:K=17
 ·subst h17;exact aBr bw n G sh k m x y pl sp t w h hn
 by_cases h18:K=18
 ·subst h18;exact aGO bw n G sh k m x y pl sp t w h hn
 exact aGP bw n G K sh k m x y pl sp t w h (fun c h1 h2=>by show K≠c;omega)
theorem aEg (bw n:Nat)(G:Nat->Prop)(a:Ac)(w:World)(h:LI w bw G n)(hn:n<=9000000)(hK:∀c:Int,1<=c->c<=13->a.K≠c):
  Calls prog 22 #[.pointer (some ⟨bw,0,none⟩),.agg #[.int .i64 a.K,.int .i64 a.sh,.int .i64 a.k,.int .i64 a.m,.int .i64 a.x,.int .i64 a.y,.float .f32 a.pl,.float .f32 a.sp,.string a.t]] w fun e w'=>e=.returned (.bool true)/\LIn w w' bw G (n+4):=by
 have g0:=World.grownBy_alloc w (.cells #[.int .i64 a.K,.int .i64 a.sh,.int .i64 a.k,.int .i64 a.m,.int .i64 a.x,.int .i64 a.y,.float .f32 a.pl,.float .f32 a.sp,.string a.t] 35) none
 have AS:=Hid.mk' (zP bw n G a _ (h.grown g0) hn)
 have G0:=Hid.mk' g0
 have e1:(a.K==1)=false:=by have:=hK 1 (by omega) (by omega);simpa using this
 have e2:(a.K==2)=false:=by have:=hK 2 (by omega) (by omega);simpa using this
 have e3:(a.K==3)=false:=by have:=hK 3 (by omega) (by omega);simpa using this
 have e4:(a.K==4)=false:=by have:=hK 4 (by omega) (by omega);simpa using this
 have e5:(a.K==5)=false:=by have:=hK 5 (by omega) (by omega);simpa using this
 have e6:(a.K==6)=false:=by have:=hK 6 (by omega) (by omega);simpa using this
 have e7:(a.K==7)=false:=by have:=hK 7 (by omega) (by omega);simpa using this
 have e8:(a.K==8)=false:=by have:=hK 8 (by omega) (by omega);simpa using this
 have e9:(a.K==9)=false:=by have:=hK 9 (by omega) (by omega);simpa using this
 have e10:(a.K==10)=false:=by have:=hK 10 (by omega) (by omega);simpa using this
 have e11:(a.K==11)=false:=by have:=hK 11 (by omega) (by omega);simpa using this
 have e12:(a.K==12)=false:=by have:=hK 12 (by omega) (by omega);simpa using this
 have e13:(a.K==13)=false:=by have:=hK 13 (by omega) (by omega);simpa using this
 clear h hK g0
 go_enter func22,ntmps22
 go_wp2_with fail
 refine Calls.mono AS.out ?_
 rintro e w1 ⟨rfl,l1⟩
 go_wp2
 go_ret
 exact ⟨rfl,LIn.grown G0.out l1⟩
theorem wO (bw n:Nat)(G:Nat->Prop)(a:Ac)(w:World)(h:LI w bw G n)(hn:n<=9000000)(ok:a.Ok):
  Calls prog 22 #[.pointer (some ⟨bw,0,none⟩),.agg #[.int .i64 a.K,.int .i64 a.sh,.int .i64 a.k,.int .i64 a.m,.int .i64 a.x,.int .i64 a.y,.float .f32 a.pl,.float .f32 a.sp,.string a.t]] w fun e w'=>e=.returned (.bool true)/\LIn w w' bw G (n+4):=by
 have mo:∀(e:Ending) (w':World),(e=.returned (.bool true)/\LIn w w' bw G n)->e=.returned (.bool true)/\LIn w w' bw G (n+4):=fun e w' h=>⟨h.1,h.2.mono (by omega)⟩
 obtain ⟨k1,k2,k3,k4,k5,k6⟩:=ok
 by_cases ho:∀c:Int,1<=c->c<=13->a.K≠c
 ·exact aEg bw n G a w h hn ho
 ·obtain ⟨K,sh,k,m,x,y,pl,sp,t⟩:=a
  simp only at k1 k2 k3 k4 k5 k6 ho ⊢
  have hK':1<=K/\K<=13:=by
   refine Decidable.byContradiction fun hh=>ho (fun c c1 c2 e=>?_)
   omega
  rcases (by omega:K=1∨K=2∨K=3∨K=4∨K=5∨K=6∨K=7∨K=8∨K=9∨K=10∨K=11∨K=12∨K=13) with rfl | rfl | rfl | rfl | rfl | rfl | rfl | rfl | rfl | rfl | rfl | rfl | rfl
  ·exact (aGK bw n G sh k m x y pl sp t w h k5 k6).mono mo
  ·exact (zK bw n G sh k m x y pl sp t w h k3 k4).mono mo
  ·exact (aGG bw n G sh k m x y pl sp t w h).mono mo
  ·exact (aGH bw n G sh k m x y pl sp t w h).mono mo
  ·exact (aDV bw n G sh k m x y pl sp t w h k1 k2).mono mo
  ·exact (aDW bw n G sh k m x y pl sp t w h k2).mono mo
  ·exact (zL bw n G sh k m x y pl sp t w h).mono mo
  ·exact (aGI bw n G sh k m x y pl sp t w h).mono mo
  ·exact (zO bw n G sh k m x y pl sp t w h).mono mo
  ·exact (aGJ bw n G sh k m x y pl sp t w h).mono mo
  ·exact (aBo bw n G sh k m x y pl sp t w h).mono mo
  ·exact (aDX bw n G sh k m x y pl sp t w h).mono mo
  ·obtain ⟨l,rfl⟩:=aIA t
   exact (aBp bw n G sh k m x y pl sp l w h).mono mo
def aGR (K sh k:Int):Ac:=⟨K,sh,k,0,0,0,0,0,⟨#[]⟩⟩
theorem aCr (bw n:Nat)(G:Nat->Prop)(w:World)(h:LI w bw G n)(hn:n<=8000000):
  Calls prog 64 #[.pointer (some ⟨bw,0,none⟩)] w fun e w'=>e=.returned (.bool true)/\LIn w w' bw G (n+320):=by
 have L0:=Hid.mk' h
 clear h
 go_enter func64,ntmps64
 go_wp2_with fail
 go_loopw [3,4] (fun b s wr=>∃i:Nat,i<=4/\b=.bool true/\s=.int .i64 ((i:Int) -1)/\LIn w wr bw G (n+80 * i)) (fun _ s _=>4 -(intOf s+1).toNat)
 case atStart=>exact ⟨0,by omega,rfl,rfl,L0.out.grew (aD _ _)⟩
 case round=>
  clear L0
  obtain ⟨i,hi,rfl,rfl,li⟩:=hrel
  have L1:=Hid.mk' li
  clear li
  by_cases hlt:i<4
  ·have x1:(i:Int) -1<=2:=by omega
   go_wp2_with fail
   go_loopw [3,5] (fun b s wr=>∃q:Nat,q<=5/\b=.bool true/\s=.int .i64 (14+(q:Int))/\LIn w wr bw G (n+80 * i+16 * q)) (fun _ s _=>5 -(intOf s -14).toNat)
   case atStart=>exact ⟨0,by omega,rfl,rfl,L1.out⟩
   case round=>
    clear L1
    obtain ⟨q,hq,rfl,rfl,li⟩:=hrel
    have L1:=Hid.mk' li
    clear li
    by_cases hql:q<5
    ·have x2:14+(q:Int)<=18:=by omega
     go_wp2_with fail
     go_loopw [3,6] (fun b s wr=>∃r:Nat,r<=4/\b=.bool true/\s=.int .i64 ((r:Int) -1)/\LIn w wr bw G (n+80 * i+16 * q+4 * r)) (fun _ s _=>4 -(intOf s+1).toNat)
     case atStart=>exact ⟨0,by omega,rfl,rfl,L1.out⟩
     case round=>
      clear L1
      obtain ⟨r,hr,rfl,rfl,li⟩:=hrel
      have L1:=Hid.mk' li
      clear li
      by_cases hrl:r<4
      ·have x3:(r:Int) -1<=2:=by omega
       go_wp2_with fail
       refine Calls.mono (zP bw _ _ (aGR (14+(q:Int)) ((i:Int) -1) ((r:Int) -1)) _ L1.out.1 (by omega)) ?_
       rintro e w1 ⟨rfl,l1⟩
       go_wp2
       exact ⟨⟨r+1,by omega,rfl,by go_num,by rw[show n+80 * i+16 * q+4 * (r+1)=n+80 * i+16 * q+4 * r+4 by omega];exact L1.out.trans l1⟩,by simp[intOf];omega⟩
      ·have x3:¬(r:Int) -1<=2:=by omega
       obtain rfl:r=4:=by omega
       go_wp2
       exact ⟨⟨q+1,by omega,rfl,by go_num,by rw[show n+80 * i+16 * (q+1)=n+80 * i+16 * q+4 * 4 by omega];exact L1.out⟩,by simp[intOf];omega⟩
    ·have x2:¬14+(q:Int)<=18:=by omega
     obtain rfl:q=5:=by omega
     go_wp2
     exact ⟨⟨i+1,by omega,rfl,by go_num,by rw[show n+80 * (i+1)=n+80 * i+16 * 5 by omega];exact L1.out⟩,by simp[intOf];omega⟩
  ·have x1:¬(i:Int) -1<=2:=by omega
   obtain rfl:i=4:=by omega
   go_wp2
   go_ret
   exact ⟨rfl,L1.out⟩
theorem LI.looks {w:World}{bw n:Nat}{G:Nat->Prop}(h:LI w bw G n)(hn:n<=10000000):∃bk,w.cell? ⟨bw,2,none⟩=some (.pointer (some ⟨bk,0,none⟩))/\Calls prog 23 #[.pointer (some ⟨bk,0,none⟩)] w fun e w'=>e=.returned (.bool true)/\w.grownBy w' none:=by
 obtain ⟨bp,bq,bk,A,D,R,p,lm,hG⟩:=h
 obtain ⟨nI,nE,nT,h1,h2,h3,hb⟩:=lm.bo
 exact ⟨bk,lm.lw.c 2 _ rfl,hb.looks (by omega) (by omega) (by omega)⟩
theorem aCs (K sh k:Int)(hk:bF k):(aGR K sh k).Ok:=⟨hk,by show bF 0;unfold bF;decide,by show bF 0;unfold bF;decide,by show bF 0;unfold bF;decide,by show (0:Nat)<_;decide,by show (0:Nat)<_;decide⟩
theorem aGS (bw n:Nat)(G:Nat->Prop)(w:World)(h:LI w bw G n)(hn:n<=7000000):
  Calls prog 24 #[.pointer (some ⟨bw,0,none⟩)] w fun e w'=>e=.returned (.bool true)/\Only w w' G:=by
 have A0:=Hid.mk' (aCr bw n G w h (by omega))
 clear h
 go_enter func24,ntmps24
 go_wp2_with fail
 refine Calls.mono A0.out ?_
 rintro e w1 ⟨rfl,l1⟩
 have L1:=Hid.mk' l1
 clear l1 A0
 go_wp2_with fail
 go_loopw [3,4] (fun b s wr=>∃i:Nat,i<=2/\b=.bool true/\s=.int .i64 i/\LIn w wr bw G (n+320+8 * i)) (fun _ s _=>2 -(intOf s).toNat)
 case atStart=>exact ⟨0,by omega,rfl,rfl,L1.out⟩
 case round=>
  clear L1
  obtain ⟨i,hi,rfl,rfl,li⟩:=hrel
  have L1:=Hid.mk' li
  clear li
  by_cases hlt:i<2
  ·go_wp2_with fail
   refine Calls.mono (wO bw _ _ (aGR 6 (i:Int) 0) _ L1.out.1 (by omega) (aCs _ _ _ (by unfold bF;decide))) ?_
   rintro e w2 ⟨rfl,l2⟩
   have L2:=Hid.mk' (L1.out.trans l2)
   clear l2
   go_wp2_with fail
   refine Calls.mono (wO bw _ _ (aGR 7 (i:Int) 0) _ L2.out.1 (by omega) (aCs _ _ _ (by unfold bF;decide))) ?_
   rintro e w3 ⟨rfl,l3⟩
   go_wp2
   exact ⟨⟨i+1,by omega,rfl,by go_num,by rw[show n+320+8 * (i+1)=n+320+8 * i+4+4 by omega];exact L2.out.trans l3⟩,by simp[intOf];omega⟩
  ·obtain rfl:i=2:=by omega
   go_wp2_with fail
   refine Calls.mono (aCr bw _ _ _ L1.out.1 (by omega)) ?_
   rintro e w2 ⟨rfl,l2⟩
   obtain ⟨bk,c2,lk⟩:=l2.1.looks (by omega)
   have LK:=Hid.mk' lk
   have O2:=Hid.mk' (L1.out.trans l2).2
   clear l2 lk
   go_wp2_with fail
   refine Calls.mono LK.out ?_
   rintro e w3 ⟨rfl,g3⟩
   go_wp2
   go_ret
   exact ⟨rfl,O2.out.trans ((Only.grown g3).mono (by simp))⟩
theorem Lst.none_ {w:World}{bk off:Nat}{e:TypeId}{MK:World->Value->Nat->Int->(Nat->Prop)->Prop}(c:w.cell? ⟨bk,off,none⟩=some (.slice none 0 0)):Lst w bk off e MK (.slice none 0 0) [] (fun _=>False):=
 ⟨c,World.ownsRow_nil _ _ _ _,by simp[Value.ownBlock],by simp,by simp,by simp⟩
theorem BK.new {w:World}{bk:Nat}(a:At w bk [.slice none 0 0,.slice none 0 0,.slice none 0 0]):BK w bk (fun j=>j=bk) 0 0 0:=
 ⟨_,_,_,[],[],[],fun _=>False,fun _=>False,fun _=>False,⟨a.lt,a.f,Lst.none_ (a.c 0 _ rfl),Lst.none_ (a.c 1 _ rfl),Lst.none_ (a.c 2 _ rfl),by simp[qJ,Value.ownBlock],by simp[qJ,Value.ownBlock],by simp[qJ,Value.ownBlock],rfl,by simp[qJ,Value.ownBlock],by simp[qJ,Value.ownBlock],by simp[qJ,Value.ownBlock]⟩,rfl,rfl,rfl⟩
theorem aJz {cI cO cJ:Int}(hv:mU cI cO cJ):PG cI cO cJ (sh1 0 cI cO cJ) (sh1 1 cI cO cJ) rs1 rs1:=by
 obtain ⟨⟨a1,a2⟩,⟨a3,a4⟩,⟨a5,a6⟩⟩:=hv
 have c0:=mE (Sh.init 0 cI cO cJ)
 have c1:=mE (Sh.init 1 cI cO cJ)
 exact ⟨uH 0 cI cO cJ (by decide) a1 a2 a3 a4 a6,uH 1 cI cO cJ (by decide) a1 a2 a3 a4 a6,c0.1,c1.1,c0.2,c1.2⟩
theorem aJA {W0 W1 W2 w':World}{bp bq q0 q1 bk bw:Nat}{cI cO cJ:Int}(hv:mU cI cO cJ)(pw:PW W1 bp (fun j=>W0.heap.size<=j) (Pr.new cI cO cJ))(z1:W0.heap.size<=W1.heap.size)
  (ry:RY W2 bq q0 q1 cI cO cJ rs1 rs1) (y1:W1.heap.size<=bq) (y2:W1.heap.size<=q0) (y3:W1.heap.size<=q1) (g2:W1.grownBy W2 none) (g3:W2.grownBy w' none) (hk:W2.heap.size<=bk) (hw:W2.heap.size<=bw) (hn:bk≠bw)
  (ak:At w' bk [.slice none 0 0,.slice none 0 0,.slice none 0 0]) (aw:At w' bw (LC bp bq bk)):LI w' bw (fun j=>W0.heap.size<=j) 0:=by
 have z2:=g2.size
 have z3:=g3.size
 have dx:DX w' bq q0 q1 cI cO cJ rs1 rs1 (.slice none 0 0) (.slice none 0 0) [] []:=⟨ry.grown g3,World.ownsRow_nil _ _ _ _,World.ownsRow_nil _ _ _ _,by simp[Value.ownBlock],by simp[Value.ownBlock],by simp[Value.ownBlock],by simp,by simp,by simp,by simp⟩
 refine ⟨bp,bq,bk,fun j=>W0.heap.size<=j/\j<W1.heap.size,fun j=>W1.heap.size<=j/\j<W2.heap.size,fun j=>j=bk,Pr.new cI cO cJ,⟨aw,(pw.mono (fun j h1 h2=>⟨h2,h1⟩)).grown (g2.trans g3),⟨cI,cO,cJ,rs1,rs1,q0,q1,_,_,dx,aJz hv,fun j hj=>?_⟩,⟨0,0,0,Nat.le_refl _,Nat.le_refl _,Nat.le_refl _,BK.new ak⟩,fun j hj=>?_,fun j hj=>?_,?_⟩,fun j hj=>?_⟩
 ·rcases hj with (rfl | rfl | rfl) | hj | hj
  ·exact ⟨y1,ry.at_.lt⟩
  ·exact ⟨y2,ry.a0.lt⟩
  ·exact ⟨y3,ry.a1.lt⟩
  ·cases hj
  ·cases hj
 ·exact ⟨by omega,by omega,fun e=>by omega,by omega⟩
 ·exact ⟨by omega,by omega,by omega⟩
 ·rintro j rfl;exact ⟨ak.lt,hn⟩
 ·rcases hj with rfl | hj | hj | rfl<;>omega
theorem aIB (cI cO cJ:Int)(w:World)(hv:¬mU cI cO cJ):
  Calls prog 21 #[.agg #[.int .i64 cI,.int .i64 cO,.int .i64 cJ]] w fun e w'=>e=.returned (.tuple #[.pointer none,.bool true])/\w.grownBy w' none:=by
 have G0:=Hid.mk' (World.grownBy_alloc w (.cells #[.int .i64 cI,.int .i64 cO,.int .i64 cJ] 23) none)
 have A0:=Hid.mk' (At.new w [.int .i64 cI,.int .i64 cO,.int .i64 cJ] 23)
 have P1:=Hid.mk' fun W=>aIk cI cO cJ W hv
 have R1:=Hid.mk' fun W=>aIj cI cO cJ W hv
 clear hv
 go_enter func21,ntmps21
 go_wp2_with fail
 refine Calls.mono (P1.out _) ?_
 rintro e w1 ⟨rfl,g1⟩
 have a1:=A0.out.grown g1
 have c0:=a1.c 0 _ rfl
 have c1:=a1.c 1 _ rfl
 have c2:=a1.c 2 _ rfl
 have G1:=Hid.mk' (G0.out.trans g1)
 clear g1 a1
 go_wp2_with fail
 refine Calls.mono (R1.out _) ?_
 rintro e w2 ⟨rfl,g2⟩
 have G2:=Hid.mk' (G1.out.trans g2)
 clear g2
 go_wp2
 go_ret2
 exact ⟨rfl,G2.out⟩
theorem aGT (cI cO cJ:Int)(w:World)(hv:mU cI cO cJ):
  Calls prog 21 #[.agg #[.int .i64 cI,.int .i64 cO,.int .i64 cJ]] w fun e w'=>∃bw,e=.returned (.tuple #[.pointer (some ⟨bw,0,none⟩),.bool true])/\LI w' bw (fun j=>w.heap.size<=j) 0/\w.grownBy w' none:=by
 have G0:=Hid.mk' (World.grownBy_alloc w (.cells #[.int .i64 cI,.int .i64 cO,.int .i64 cJ] 23) none)
 have A0:=Hid.mk' (At.new w [.int .i64 cI,.int .i64 cO,.int .i64 cJ] 23)
 have P1:=Hid.mk' fun W=>aJv cI cO cJ W hv
 have R1:=Hid.mk' fun W=>aGu cI cO cJ W hv
 have HV:=Hid.mk' hv
 clear hv
 go_enter func21,ntmps21
 go_wp2_with fail
 refine Calls.mono (P1.out _) ?_
 rintro e w1 ⟨bp,rfl,pp,x1,g1⟩
 have a1:=A0.out.grown g1
 have c0:=a1.c 0 _ rfl
 have c1:=a1.c 1 _ rfl
 have c2:=a1.c 2 _ rfl
 have z1:=g1.size
 have G1:=Hid.mk' (G0.out.trans g1)
 have PP1:=Hid.mk' pp
 have Z1:=Hid.mk' z1
 clear g1 a1 pp x1 z1
 go_wp2_with fail
 refine Calls.mono (R1.out _) ?_
 rintro e w2 ⟨bq,q0,q1,rfl,ry,y1,y2,y3,g2⟩
 have G2:=Hid.mk' g2
 have RY2:=Hid.mk' ry
 have Y1:=Hid.mk' y1
 have Y2:=Hid.mk' y2
 have Y3:=Hid.mk' y3
 clear g2 ry y1 y2 y3
 go_wp2
 go_ret2
 refine ⟨_,rfl,(aJA (W0:=w.alloc (.cells #[.int .i64 cI,.int .i64 cO,.int .i64 cJ] 23)) HV.out PP1.out Z1.out RY2.out Y1.out Y2.out Y3.out G2.out (cX w2 _ _) (Nat.le_refl _) (by simp) (by simp) ((At.new w2 [.slice none 0 0,.slice none 0 0,.slice none 0 0] 94).alloc _) ?_).within (fun j _ e=>by simp at e;omega),(G1.out.trans G2.out).trans (cX w2 _ _)⟩
 simpa using At.new (w2.alloc (.cells #[.slice none 0 0,.slice none 0 0,.slice none 0 0] 94)) [.pointer (some ⟨bp,0,none⟩),.pointer (some ⟨bq,0,none⟩),.pointer (some ⟨w2.heap.size,0,none⟩)] 64
theorem LI.big {W:World}{bw N n:Nat}(h:LI W bw (fun j=>N<j) n):N<W.heap.size:=by
 obtain ⟨bp,bq,bk,A,D,R,p,lm,hG⟩:=h
 exact Nat.lt_trans (hG bw (.inl rfl)) lm.lw.lt
theorem sS (as':List Ac)(k j:Nat)(hk:k<as'.length)(hj:j<9):(as'.flatMap Ac.cells)[9 * k+j]?=as'[k].cells[j]?:=by
 induction as' generalizing k with
 | nil=>simp at hk
 | cons a t ih=>
  rw[List.flatMap_cons]
  cases k with
  | zero=>rw[List.getElem?_append_left (by simp[Ac.cells];omega)];simp
  | succ k=>
   rw[List.getElem?_append_right (by simp[Ac.cells];omega)]
   rw[show 9 * (k+1)+j -a.cells.length=9 * k+j by simp[Ac.cells];omega]
   simpa using ih k (by simpa using hk)
def LiesA (w:World)(v:Value)(l:List Ac):Prop:=Lies w v l.length (l.flatMap Ac.cells)
theorem aGU (cI cO cJ:Int)(v:Value)(w:World)(hv:¬mU cI cO cJ):
  Calls prog 9 #[.agg #[.int .i64 cI,.int .i64 cO,.int .i64 cJ],v,.int .i64 13] w fun e w'=>e=.returned (.bool true)/\Only w w' (fun j=>w.heap.size<=j):=by
 have G0:=Hid.mk' (World.grownBy_alloc w (.cells #[.int .i64 cI,.int .i64 cO,.int .i64 cJ] 23) none)
 have M1:=Hid.mk' fun W=>aIB cI cO cJ W hv
 clear hv
 go_enter func9,ntmps9
 go_wp2_with fail
 refine Calls.mono (M1.out _) ?_
 rintro e w1 ⟨rfl,g1⟩
 have G1:=Hid.mk' (G0.out.trans g1)
 clear g1
 go_wp2
 go_ret
 exact ⟨rfl,(Only.grown G1.out).mono (by simp)⟩
theorem aEh (cI cO cJ:Int)(v:Value)(l:List Ac)(w:World)(hv:mU cI cO cJ)(hl:LiesA w v l)(hn:l.length<=1048576)(ok:∀a∈l,a.Ok):
  Calls prog 9 #[.agg #[.int .i64 cI,.int .i64 cO,.int .i64 cJ],v,.int .i64 13] w fun e w'=>e=.returned (.bool true)/\Only w w' (fun j=>w.heap.size<=j):=by
 have hsf:=aK
 obtain ⟨a,c,rfl,hx⟩:=hl
 obtain ⟨n,hln⟩:∃n,l.length=n:=⟨_,rfl⟩
 rw[hln] at hx hn ⊢
 have HX:=Hid.mk' hx
 have HL:=Hid.mk' hln
 have OK:=Hid.mk' ok
 have G0:=Hid.mk' (World.grownBy_alloc w (.cells #[.int .i64 cI,.int .i64 cO,.int .i64 cJ] 23) none)
 have M1:=Hid.mk' fun W=>aGT cI cO cJ W hv
 clear hv hx hln ok
 go_enter func9,ntmps9
 go_wp2_with fail
 refine Calls.mono (M1.out _) ?_
 rintro e w1 ⟨bw,rfl,li,g1⟩
 have L1:Hid (LI w1 bw (fun j=>w.heap.size<j) 0):=li.within (fun j _ e=>by simp at e;omega)
 have O1:Hid (Only w w1 (fun j=>w.heap.size<=j)):=(Only.grown (G0.out.trans g1)).mono (by simp)
 clear g1 li M1
 go_wp2_with fail
 go_loopw [9] (fun f wr=>∃k:Nat,k<=n/\f=.int .i64 k/\LI wr bw (fun j=>w.heap.size<j) (4 * k)/\Only w wr (fun j=>w.heap.size<=j)) (fun f _=>n -(intOf f).toNat)
 case atStart=>exact ⟨0,by omega,rfl,L1.out,O1.out⟩
 case round=>
  clear L1 O1
  obtain ⟨k,hk,rfl,li,on⟩:=hrel
  have L1:=Hid.mk' li
  have O1:=Hid.mk' on
  clear li on
  by_cases hlt:k<n
  ·have hkl:k<l.length:=by rw[HL.out];exact hlt
   obtain ⟨g,off,rfl,hc⟩:=HX.out (by omega)
   obtain ⟨y,hi⟩:∃y,l[k]=y:=⟨_,rfl⟩
   have hgl:g<w.heap.size:=World.block_lt_of_cell? w _ (hc (9 * k) _ (by rw[show 9 * k=9 * k+0 by omega,sS l k 0 hkl (by omega)];rfl))
   have d:∀j (hj:j<9) u,y.cells[j]?=some u->wr.cell? ⟨g,off+k * 9+j,none⟩=some u:=fun j hj u hu=>by
    have:=hc (9 * k+j) u (by rw[sS l k j hkl hj,hi];exact hu)
    rw[show off+(9 * k+j)=off+k * 9+j by omega] at this
    exact O1.out.cell this (by simp;omega)
   have d0:=d 0 (by omega) _ rfl
   have d1:=d 1 (by omega) _ rfl
   have d2:=d 2 (by omega) _ rfl
   have d3:=d 3 (by omega) _ rfl
   have d4:=d 4 (by omega) _ rfl
   have d5:=d 5 (by omega) _ rfl
   have d6:=d 6 (by omega) _ rfl
   have d7:=d 7 (by omega) _ rfl
   have d8:=d 8 (by omega) _ rfl
   rw[Nat.add_zero] at d0
   have AO:=Hid.mk' (OK.out y (by rw[<- hi];exact List.getElem_mem hkl))
   have AC:Hid (∀W,LI W bw (fun j=>w.heap.size<j) (4 * k)->Calls prog 22 #[.pointer (some ⟨bw,0,none⟩),.agg #[.int .i64 y.K,.int .i64 y.sh,.int .i64 y.k,.int .i64 y.m,.int .i64 y.x,.int .i64 y.y,.float .f32 y.pl,.float .f32 y.sp,.string y.t]] W fun e w'=>e=.returned (.bool true)/\LI w' bw (fun j=>w.heap.size<j) (4 * k+4)/\Only W w' (fun j=>w.heap.size<j)):=Hid.mk' fun W hW=>(wO _ _ _ y W hW (by omega) AO.out).mono (fun e w' h=>⟨h.1,h.2.1.within (fun j _ e=>by have:=hW.big;rcases e with e | e;exact e;omega),h.2.2⟩)
   clear d hc hi AO
   obtain ⟨K,sh,yk,m,x,yy,pl,sp,t⟩:=y
   simp only at d0 d1 d2 d3 d4 d5 d6 d7 d8 AC
   have y0:(0:Int)<=(k:Int):=by omega
   have y1:(k:Int)<(n:Int):=by omega
   by_cases h13:13<K
   ·have h14:¬K<14:=by omega
    go_wp2_with fail
    refine Calls.mono (AC.out _ (L1.out.grown (World.grownBy_alloc wr _ none))) ?_
    rintro e w2 ⟨rfl,l2,o2⟩
    obtain ⟨bk,c2,lk⟩:=l2.looks (by omega)
    have LK:=Hid.mk' lk
    have L2:=Hid.mk' l2
    have O2:Hid (Only w w2 (fun j=>w.heap.size<=j)):=(O1.out.trans ((Only.grown (World.grownBy_alloc wr _ none)).mono (by simp))).trans (o2.mono (fun j _ e=>.inl (by omega)))
    clear l2 o2 lk d0 d1 d2 d3 d4 d5 d6 d7 d8
    go_wp2_with fail
    refine Calls.mono LK.out ?_
    rintro e w3 ⟨rfl,g3⟩
    go_wp2
    exact ⟨⟨k+1,by omega,rfl,by rw[show 4 * (k+1)=4 * k+4 by omega];exact L2.out.grown g3,O2.out.trans ((Only.grown g3).mono (by simp))⟩,by simp[intOf];omega⟩
   ·go_wp2_with fail
    refine Calls.mono (AC.out _ (L1.out.grown (World.grownBy_alloc wr _ none))) ?_
    rintro e w2 ⟨rfl,l2,o2⟩
    obtain ⟨bk,c2,lk⟩:=l2.looks (by omega)
    have LK:=Hid.mk' lk
    have L2:=Hid.mk' l2
    have O2:Hid (Only w w2 (fun j=>w.heap.size<=j)):=(O1.out.trans ((Only.grown (World.grownBy_alloc wr _ none)).mono (by simp))).trans (o2.mono (fun j _ e=>.inl (by omega)))
    clear l2 o2 lk d0 d1 d2 d3 d4 d5 d6 d7 d8
    go_wp2_with fail
    refine Calls.mono LK.out ?_
    rintro e w3 ⟨rfl,g3⟩
    go_wp2
    exact ⟨⟨k+1,by omega,rfl,by rw[show 4 * (k+1)=4 * k+4 by omega];exact L2.out.grown g3,O2.out.trans ((Only.grown g3).mono (by simp))⟩,by simp[intOf];omega⟩
  ·obtain rfl:k=n:=by omega
   have y1:¬(k:Int)<(k:Int):=by omega
   go_wp2_with fail
   refine Calls.mono (aGS bw _ _ _ L1.out (by omega)) ?_
   rintro e w2 ⟨rfl,o2⟩
   go_wp2
   go_ret
   exact ⟨rfl,O1.out.trans (o2.mono (fun j _ e=>.inl (by omega)))⟩
theorem aEi (cI cO cJ:Int)(v:Value)(l:List Ac)(w:World)(hl:LiesA w v l)(hn:l.length<=1048576)(ok:∀a∈l,a.Ok):
  Calls prog 9 #[.agg #[.int .i64 cI,.int .i64 cO,.int .i64 cJ],v,.int .i64 13] w fun e w'=>e=.returned (.bool true)/\Only w w' (fun j=>w.heap.size<=j):=by
 by_cases hv:mU cI cO cJ
 ·exact aEh cI cO cJ v l w hv hl hn ok
 ·exact aGU cI cO cJ v w hv
theorem LiesA.grown {w w':World}{v:Value}{l:List Ac}(h:LiesA w v l)(g:w.grownBy w' none):LiesA w' v l:=by
 obtain ⟨a,c,e,hx⟩:=h
 refine ⟨a,c,e,fun h0=>?_⟩
 obtain ⟨b,off,e1,hc⟩:=hx h0
 exact ⟨b,off,e1,fun j u hu=>g.cell (hc j u hu) (by simp)⟩
theorem aEj (cI cO cJ:Int)(v:Value)(l:List Ac)(w:World)(hl:LiesA w v l)(hn:l.length<=1048576)(ok:∀a∈l,a.Ok):
  Calls prog 5 #[.agg #[.int .i64 cI,.int .i64 cO,.int .i64 cJ],v] w fun e w'=>e=.returned (.bool true)/\Only w w' (fun j=>w.heap.size<=j):=by
 have g0:=World.grownBy_alloc w (.cells #[.int .i64 cI,.int .i64 cO,.int .i64 cJ] 23) none
 have PL:=Hid.mk' (aEi cI cO cJ v l _ (hl.grown g0) hn ok)
 have G0:=Hid.mk' g0
 clear hl g0 ok
 go_enter func5,ntmps5
 go_wp2_with fail
 refine Calls.mono PL.out ?_
 rintro e w1 ⟨rfl,o1⟩
 go_wp2
 go_ret
 exact ⟨rfl,((Only.grown G0.out).mono (by simp)).trans (o1.mono (fun j _ e=>.inl (by simp at e;omega)))⟩
end Go.Proofs.YtammnaafdhhjaaaGreat
