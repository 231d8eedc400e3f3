import Derived.Test.YtammnaafdhhjaaaGreatJR3
set_option maxHeartbeats 16000000
set_option maxRecDepth 100000
namespace Go.Proofs.YtammnaafdhhjaaaGreat
open Go.RowKit Go.Proofs.Tryz
def zc:List Value:=[.int .i64 0,.int .i64 0,.int .i64 0,.int .i64 0,.float .f32 0,.float .f32 0,.int .i64 0,.int .i64 0,.int .i64 0,.int .i64 0,.int .i64 0,.slice none 0 0,.slice none 0 0]
def bc (m:Mk)(vi vo:Value):List Value:=[.int .i64 6,.int .i64 0,.int .i64 0,.int .i64 0,.float .f32 0,.float .f32 0,.int .i64 m.g,.int .i64 m.m,.int .i64 m.s,.int .i64 m.a,.int .i64 m.n,vi,vo]
theorem aFs (l:List UInt8)(a:Nat):zS (l.drop a)=l.drop (a+11):=by
 simp only[zS,t4,t2,eQ,List.drop_drop]
theorem tU (k:Nat)(l:List UInt8)(a:Nat):iJ k (l.drop a)=l.drop (a+11 * k):=by
 induction k with
 | zero=>rfl
 | succ k ih=>rw[iJ,ih,aFs];rfl
theorem aHs (k:Nat)(l:List UInt8)(a:Nat):fC (k+1) (l.drop a)=fC k (l.drop a)++[fU (l.drop (a+11 * k))]:=by
 rw[fC,tU]
theorem aFt (l:List UInt8)(a:Nat):tEn (l.drop a)=l.drop (a+13):=by
 simp only[tEn,zS,t4,t2,eQ,List.drop_drop]
theorem aCX (k:Nat)(l:List UInt8)(a:Nat):lI k (l.drop a)=l.drop (a+13 * k):=by
 induction k with
 | zero=>rfl
 | succ k ih=>rw[lI,ih,aFt];rfl
theorem aIV (l:List UInt8)(a:Nat):pEn (l.drop a)=⟨eH l a 2,fU (l.drop (a+2))⟩:=by
 simp only[pEn,t2,eQ,List.drop_drop,rG]
theorem aHt (k:Nat)(l:List UInt8)(a:Nat):eC (k+1) (l.drop a)=eC k (l.drop a)++[⟨eH l (a+13 * k) 2,fU (l.drop (a+13 * k+2))⟩]:=by
 rw[eC,aCX,aIV]
def zR (e:En):En:=⟨e.sq,jG e.it⟩
def okE (e:En):Bool:=sX e.it
theorem pK {ops:Array Oper}{o:Oper}{a:Act}{w:World}{K:Act->World->Prop}{Q:Exit->Act->World->Prop}{E:Prop}(hg:o.guard=none)(s x:Operand)
  (hop:o.op=Op.call {callee:=Callee.builtin Builtin.append,args:=#[s,x],argTypes:=#[49,49]})
  (B:Nat) (v:Value) (l:List En) (hs:a.eval s=v) (hown:OwnE B w v l) (ad:Addr) (i:En) (hx:a.eval x=.slice (some ad) 1 1)
  (hnews:∀j u,i.cells[j]?=some u->w.cell? (ad.add j)=some u) (hl:l.length+1<=1000000) (hB:B<=w.heap.size)
  (hK:∀v' w',OwnE B w' v' (l++[i])->w.grownBy w' v.ownBlock->(v'.ownBlock=v.ownBlock∨v'.ownBlock=some w.heap.size)->K (a.put o.dst v') w'):
  if Region.wanted o (yielded ops a.tmps)=true then Oper.wp prog o a w K Q else E:=by
 have hw:Region.wanted o (yielded ops a.tmps)=true:=by simp[Region.wanted,hg]
 rw[if_pos hw]
 obtain ⟨i0,hi,hz0,hz1,hz2⟩:=mG
 obtain ⟨v',w',hrun,r1,r2,_,r4⟩:=run_append_own_at (P:=prog) w B 49 o.type 87 i0 _ 5 32 underlying49 hi hz0 hz1 hz2 rfl (by decide) v l.length (l.flatMap En.cells) hown ad 1 1 i.cells rfl hnews (by intro u hu;simp[En.cells] at hu;rcases hu with rfl | rfl | rfl | rfl | rfl<;>rfl) (by unfold maxLen;omega) (by omega) hB
 unfold Oper.wp
 simp[execOp,hop,resolve,invoke,builtin,hs,hx,hrun,Result.andThen]
 refine hK v' w' ?_ r2 r4
 unfold OwnE
 rw[List.length_append,List.flatMap_append,List.flatMap_singleton]
 exact r1
theorem tV {α:Type}{f:α->α}{l:List α}(h:∀x∈l,f x=x):l.map f=l:=by
 induction l with
 | nil=>rfl
 | cons a t ih=>rw[List.map_cons,h a (by simp),ih (fun x hx=>h x (by simp[hx]))]
theorem aAt (m:Mk)(PI:List It)(PE:List En)(h:(∃x,x∈PI/\¬sX x=true)∨(∃x,x∈PE/\¬okE x=true)):aP ⟨6,0,bT,m,PI,PE⟩=false:=by
 rw[Bool.eq_false_iff]
 intro hm
 simp[aP,gY,gK,lA] at hm
 obtain ⟨_,⟨_,_,hci⟩,_,hce⟩:=hm
 rcases h with ⟨x,hx,hn⟩ | ⟨x,hx,hn⟩
 ·have:=rS (by simpa using hn)
  rw[uU hci x hx] at this
  exact absurd this (by decide)
 ·have:=rS (i:=x.it) (by simpa [okE] using hn)
  rw[(jQ hce x hx).2] at this
  exact absurd this (by decide)
structure Bx (w wr:World)(m:Mk)(vi vo:Value):Prop where
 g:w.grownBy wr none
 z:w.heap.size+2<=wr.heap.size
 a:∀j u,zc[j]?=some u->wr.cell? ⟨w.heap.size,j,none⟩=some u
 fa:∀o,wr.frozen? ⟨w.heap.size,o,none⟩=false
 c:∀j u,(bc m vi vo)[j]?=some u->wr.cell? ⟨w.heap.size+1,j,none⟩=some u
 fc:∀o,wr.frozen? ⟨w.heap.size+1,o,none⟩=false
theorem Bx.grow {w wr wr':World}{m:Mk}{vi vo:Value}{row:Option Nat}(h:Bx w wr m vi vo)(g:wr.grownBy wr' row)(hr:∀k,row=some k->w.heap.size+2<=k):Bx w wr' m vi vo:=by
 have hz:=h.z
 have b0:=g.block w.heap.size (by omega) (fun e=>by have:=hr _ e.symm;omega)
 have b1:=g.block (w.heap.size+1) (by omega) (fun e=>by have:=hr _ e.symm;omega)
 refine ⟨⟨g.os.trans h.g.os,g.tape.trans h.g.tape,g.output.trans h.g.output,Nat.le_trans h.g.size g.size,fun k hk _=>?_⟩,Nat.le_trans h.z g.size,fun j u hu=>?_,fun o=>?_,fun j u hu=>?_,fun o=>?_⟩
 ·rw[g.block k (by omega) (fun e=>by have:=hr _ e.symm;omega),h.g.block k hk (by simp)]
 ·exact (World.cell?_of_block (a:=⟨w.heap.size,j,none⟩) b0).trans (h.a j u hu)
 ·exact (World.frozen?_of_block (a:=⟨w.heap.size,o,none⟩) b0).trans (h.fa o)
 ·exact (World.cell?_of_block (a:=⟨w.heap.size+1,j,none⟩) b1).trans (h.c j u hu)
 ·exact (World.frozen?_of_block (a:=⟨w.heap.size+1,o,none⟩) b1).trans (h.fc o)
theorem Bx.setI {w wr:World}{m:Mk}{vi vo:Value}(h:Bx w wr m vi vo)(v':Value):Bx w (wr.setCell ⟨w.heap.size+1,11,none⟩ v') m v' vo:=by
 have hs:∀k,k≠w.heap.size+1->(wr.setCell ⟨w.heap.size+1,11,none⟩ v').heap[k]?=wr.heap[k]?:=fun k hk=>Below.heap_setCell _ _ _ _ hk
 refine ⟨aB h.g (by omega) _ _,by simpa [World.setCell] using h.z,fun j u hu=>(World.cell?_of_block (a:=⟨w.heap.size,j,none⟩) (hs w.heap.size (by omega))).trans (h.a j u hu),fun o=>(World.frozen?_of_block (a:=⟨w.heap.size,o,none⟩) (hs w.heap.size (by omega))).trans (h.fa o),fun j u hu=>?_,fun o=>?_⟩
 ·by_cases hj:j=11
  ·subst hj
   have hx:v'=u:=by simpa [bc] using hu
   subst hx
   exact World.cell?_setCell_same' _ _ _ (by rw[h.c 11 vi rfl];rfl)
  ·have hu':(bc m vi vo)[j]?=some u:=by
    have:j=0∨j=1∨j=2∨j=3∨j=4∨j=5∨j=6∨j=7∨j=8∨j=9∨j=10∨j=12:=by
     have:=(List.getElem?_eq_some_iff.1 hu).1;simp[bc] at this;omega
    rcases this with rfl | rfl | rfl | rfl | rfl | rfl | rfl | rfl | rfl | rfl | rfl | rfl<;>exact hu
   have hc:=h.c j u hu'
   have hne:¬11=j:=fun e=>hj e.symm
   go_simp
 ·have:=h.fc o
  go_simp
theorem Bx.setO {w wr:World}{m:Mk}{vi vo:Value}(h:Bx w wr m vi vo)(v':Value):Bx w (wr.setCell ⟨w.heap.size+1,12,none⟩ v') m vi v':=by
 have hs:∀k,k≠w.heap.size+1->(wr.setCell ⟨w.heap.size+1,12,none⟩ v').heap[k]?=wr.heap[k]?:=fun k hk=>Below.heap_setCell _ _ _ _ hk
 refine ⟨aB h.g (by omega) _ _,by simpa [World.setCell] using h.z,fun j u hu=>(World.cell?_of_block (a:=⟨w.heap.size,j,none⟩) (hs w.heap.size (by omega))).trans (h.a j u hu),fun o=>(World.frozen?_of_block (a:=⟨w.heap.size,o,none⟩) (hs w.heap.size (by omega))).trans (h.fa o),fun j u hu=>?_,fun o=>?_⟩
 ·by_cases hj:j=12
  ·subst hj
   have hx:v'=u:=by simpa [bc] using hu
   subst hx
   exact World.cell?_setCell_same' _ _ _ (by rw[h.c 12 vo rfl];rfl)
  ·have hu':(bc m vi vo)[j]?=some u:=by
    have:j=0∨j=1∨j=2∨j=3∨j=4∨j=5∨j=6∨j=7∨j=8∨j=9∨j=10∨j=11:=by
     have:=(List.getElem?_eq_some_iff.1 hu).1;simp[bc] at this;omega
    rcases this with rfl | rfl | rfl | rfl | rfl | rfl | rfl | rfl | rfl | rfl | rfl | rfl<;>exact hu
   have hc:=h.c j u hu'
   have hne:¬12=j:=fun e=>hj e.symm
   go_simp
 ·have:=h.fc o
  go_simp
theorem aFu (l:List UInt8)(w:World)(hl:l.length<=2000000)(hK:eH l 0 1=6):
  Calls prog 107 #[.string (S l)] w fun e w'=>dF w l e w':=by
 have hsf:=aK
 have cR:=rd1 l 0
 rw[hK] at cR
 have CR:=Hid.mk' cR
 have c1:=Hid.mk' (rd2 l 1)
 have c3:=Hid.mk' (rd2 l 3)
 have c5:=Hid.mk' (rd2 l 5)
 have c7:=Hid.mk' (rd2 l 7)
 have c9:=Hid.mk' (rd2 l 9)
 have c11:=Hid.mk' (rd1 l 11)
 have HM:Hid ((⟨eH l 1 2,eH l 3 2,eH l 5 2,eH l 7 2,eH l 9 2⟩:Mk)=mF (l.drop 1)):=by
  show _=_
  simp only[mF,t2,eQ,List.drop_drop,rG]
 have hb:=pH l 11 1 (by omega)
 have hb2:eH l 11 1<=255:=by rw[oE];exact (mU _).2
 obtain ⟨n,hn⟩:∃n:Nat,eH l 11 1=(n:Int):=⟨(eH l 11 1).toNat,by omega⟩
 rw[hn] at c11 hb2
 have HN:=Hid.mk' hn
 generalize eH l 1 2=m1 at *
 generalize eH l 3 2=m2 at *
 generalize eH l 5 2=m3 at *
 generalize eH l 7 2=m4 at *
 generalize eH l 9 2=m5 at *
 clear cR hn hb
 go_enter func107,ntmps107
 go_wp2_with fail
 refine (CR.out _ (by omega) (by omega)).mono ?_
 rintro e w' ⟨rfl,rfl⟩
 go_wp2_with fail
 refine (c1.out _ (by omega) (by omega)).mono ?_
 rintro e w' ⟨rfl,rfl⟩
 go_wp2_with fail
 refine (c3.out _ (by omega) (by omega)).mono ?_
 rintro e w' ⟨rfl,rfl⟩
 go_wp2_with fail
 refine (c5.out _ (by omega) (by omega)).mono ?_
 rintro e w' ⟨rfl,rfl⟩
 go_wp2_with fail
 refine (c7.out _ (by omega) (by omega)).mono ?_
 rintro e w' ⟨rfl,rfl⟩
 go_wp2_with fail
 refine (c9.out _ (by omega) (by omega)).mono ?_
 rintro e w' ⟨rfl,rfl⟩
 go_wp2_with fail
 refine (c11.out _ (by omega) (by omega)).mono ?_
 rintro e w' ⟨rfl,rfl⟩
 go_wp2_with fail
 have B0:Bx w ((w.alloc (.cells #[.int .i64 0,.int .i64 0,.int .i64 0,.int .i64 0,.float .f32 0,.float .f32 0,.int .i64 0,.int .i64 0,.int .i64 0,.int .i64 0,.int .i64 0,.slice none 0 0,.slice none 0 0] 139)).alloc (.cells #[.int .i64 6,.int .i64 0,.int .i64 0,.int .i64 0,.float .f32 0,.float .f32 0,.int .i64 m1,.int .i64 m2,.int .i64 m3,.int .i64 m4,.int .i64 m5,.slice none 0 0,.slice none 0 0] 139)) ⟨m1,m2,m3,m4,m5⟩ (.slice none 0 0) (.slice none 0 0):=by
  refine ⟨cU _ _ _,by simp,fun j u hu=>?_,fun o=>by go_simp,fun j u hu=>?_,fun o=>by go_simp⟩
  ·have hj:j<13:=by have:=(List.getElem?_eq_some_iff.1 hu).1;simpa [zc] using this
   have hu':=hu
   simp only[zc] at hu'
   rcases (by omega:j=0∨j=1∨j=2∨j=3∨j=4∨j=5∨j=6∨j=7∨j=8∨j=9∨j=10∨j=11∨j=12) with rfl | rfl | rfl | rfl | rfl | rfl | rfl | rfl | rfl | rfl | rfl | rfl | rfl<;>(simp at hu';subst hu';go_simp)
  ·have hj:j<13:=by have:=(List.getElem?_eq_some_iff.1 hu).1;simpa [bc] using this
   have hu':=hu
   simp only[bc] at hu'
   rcases (by omega:j=0∨j=1∨j=2∨j=3∨j=4∨j=5∨j=6∨j=7∨j=8∨j=9∨j=10∨j=11∨j=12) with rfl | rfl | rfl | rfl | rfl | rfl | rfl | rfl | rfl | rfl | rfl | rfl | rfl<;>(simp at hu';subst hu';go_simp)
 generalize hW0:((w.alloc (.cells #[.int .i64 0,.int .i64 0,.int .i64 0,.int .i64 0,.float .f32 0,.float .f32 0,.int .i64 0,.int .i64 0,.int .i64 0,.int .i64 0,.int .i64 0,.slice none 0 0,.slice none 0 0] 139)).alloc (.cells #[.int .i64 6,.int .i64 0,.int .i64 0,.int .i64 0,.float .f32 0,.float .f32 0,.int .i64 m1,.int .i64 m2,.int .i64 m3,.int .i64 m4,.int .i64 m5,.slice none 0 0,.slice none 0 0] 139))=w0 at *
 clear hW0
 have BB:=Hid.mk' B0
 clear B0
 go_loopw [5,7,8] (fun o t r wr=>∃(k:Nat) (v:Value),k<=n/\t=.int .i64 ((12+11 * k:Nat):Int)/\r=.int .i64 ((n -k:Nat):Int)/\o=.bool ((fC k (l.drop 12)).all sX)/\Bx w wr ⟨m1,m2,m3,m4,m5⟩ v (.slice none 0 0)/\OwnI (w.heap.size+2) wr v ((fC k (l.drop 12)).map jG)) (fun _ _ r _=>(intOf r).toNat)
 case atStart=>exact ⟨0,.slice none 0 0,by omega,rfl,rfl,rfl,BB.out,OwnI.nil _ _⟩
 case round=>
  obtain ⟨k,v,hk,rfl,rfl,rfl,bk,ok⟩:=hrel
  have BK:=Hid.mk' bk
  have OK:=Hid.mk' ok
  have zk:=bk.z
  have k11:wr.cell? ⟨w.heap.size+1,11,none⟩=some v:=bk.c 11 v rfl
  have f11:=bk.fc
  clear bk ok
  by_cases hlt:k<n
  ·obtain ⟨R,hR⟩:∃R,n -k=R+1:=⟨n -k -1,by omega⟩
   obtain ⟨A,hA⟩:∃A,12+11 * k=A:=⟨_,rfl⟩
   have HA:Hid (fC (k+1) (l.drop 12)=fC k (l.drop 12)++[fU (l.drop A)]):=by show _=_;rw[<- hA];exact aHs k l 12
   have hA9:A<=3000:=by omega
   rw[hR,hA]
   rw[Int.natCast_succ]
   have cI:=fF l A
   have hI:=lK (l.drop A)
   generalize fU (l.drop A)=i at *
   have CI:=Hid.mk' cI
   clear cI
   have hvn:∀j,v.ownBlock=some j->w.heap.size+2<=j/\j<wr.heap.size:=fun j hj=>OK.out.lt j hj
   have HV:=Hid.mk' hvn
   clear hvn
   obtain ⟨okk,hok⟩:∃b,(fC k (l.drop 12)).all sX=b:=⟨_,rfl⟩
   rw[hok]
   replace hok:=Hid.mk' hok
   go_wp2_with fail
   refine (CI.out _ (by omega) (by omega)).mono ?_
   rintro e w2 ⟨rfl,g2⟩
   have z2:=g2.size
   simp at z2
   have G2:=Hid.mk' ((World.grownBy_alloc wr _ none).trans g2)
   have r11:w2.cell? ⟨w.heap.size+1,11,none⟩=some v:=G2.out.cell k11 (by simp)
   have e0:=gC g2 wr.heap.size 0 (.int .i64 0)
   have e1:=gC g2 wr.heap.size 1 (.int .i64 0)
   have e2:=gC g2 wr.heap.size 2 (.float .f32 0)
   have e3:=gC g2 wr.heap.size 3 (.float .f32 0)
   have fe:∀o,w2.frozen? ⟨wr.heap.size,o,none⟩=false:=fun o=>by
    rw[World.frozen?_of_block (a:=⟨wr.heap.size,o,none⟩) (g2.block wr.heap.size (by simp) (by simp))];go_simp
   have x1:w.heap.size+1≠wr.heap.size:=by omega
   have x2:wr.heap.size≠w.heap.size+1:=by omega
   clear g2 k11 f11
   have G3:=Hid.mk' (aB (aB (aB (aB G2.out (Nat.le_refl _) 0 (.int .i64 i.sh)) (Nat.le_refl _) 1 (.int .i64 i.nu)) (Nat.le_refl _) 2 (.float .f32 (fx i.pl))) (Nat.le_refl _) 3 (.float .f32 (fx i.sp)))
   have B3:=Hid.mk' (BK.out.grow G3.out (by simp))
   have O3:Hid (OwnI (w.heap.size+2) _ v ((fC k (l.drop 12)).map jG)):=aO OK.out G3.out
   have hln:((fC k (l.drop 12)).map jG).length=k:=by rw[List.length_map,qT]
   have HO:Hid (((fC (k+1) (l.drop 12)).map jG)=(fC k (l.drop 12)).map jG++[jG i]):=by show _=_;rw[HA.out,List.map_append];rfl
   have HQ:Hid ((fC (k+1) (l.drop 12)).all sX=(okk&&sX i)):=by show _=_;rw[HA.out,List.all_append,hok.out];simp
   generalize (fC k (l.drop 12)).map jG=P at *
   clear OK BK
   cases okk
   all_goals
    go_wp2_with (at_builtin;refine fK rfl _ _ rfl (w.heap.size+2) v P rfl (World.ownsRow.alloc O3.out _) ⟨w2.heap.size,0,none⟩ (jG i) rfl ?c1 ?c2 ?c3 ?c4)
    case c1=>exact aW _ (jG i).cells _ _ (by simp)
    case c2=>omega
    case c3=>simp;omega
    case c4=>
     intro v' w4 o4 g4 h4
     have B4:=Hid.mk' ((B3.out.grow (World.grownBy_alloc _ _ none) (by simp)).grow g4 (fun j hj=>(HV.out j hj).1))
     have s11:w4.cell? ⟨w.heap.size+1,11,none⟩=some v:=B4.out.c 11 v rfl
     have f4:=B4.out.fc
     obtain ⟨a',n',c',rfl⟩:=dD o4
     go_wp2_with fail
     refine ⟨⟨k+1,.slice a' n' c',by omega,?_,?_,?_,B4.out.setI _,?_⟩,by simp[intOf]⟩
     ·rw[show ((12+11 * (k+1):Nat):Int)=(A:Int)+11 by omega]
     ·rw[show n -(k+1)=R by omega]
     ·rw[HQ.out];rfl
     ·rw[HO.out];exact aH o4 _ _ _ (fun e=>by have:=(o4.lt _ e).1;omega)
  ·have hkn:k=n:=by omega
   subst hkn
   have hr0:k -k=0:=by omega
   rw[hr0]
   have HR:Hid (iJ k (l.drop 12)=l.drop (12+11 * k)):=tU k l 12
   obtain ⟨A,hA⟩:∃A,12+11 * k=A:=⟨_,rfl⟩
   rw[hA] at HR ⊢
   have hA9:A<=3000:=by omega
   have hb3:eH l A 1<=255:=by rw[oE];exact (mU _).2
   have hb4:=(pH l A 1 (by omega)).1
   obtain ⟨no,hno⟩:∃no:Nat,eH l A 1=(no:Int):=⟨(eH l A 1).toNat,by omega⟩
   have cA:=rd1 l A
   rw[hno] at cA hb3
   have CA:=Hid.mk' cA
   have HNO:=Hid.mk' hno
   clear cA hno hb4 hA k11 f11 c1 c3 c5 c7 c9 c11 CR
   generalize hPI:(fC k (l.drop 12))=PI at *
   have HPI:=Hid.mk' hPI
   clear hPI
   go_wp2_with fail
   refine (CA.out _ (by omega) (by omega)).mono ?_
   rintro e w' ⟨rfl,rfl⟩
   go_wp2_with fail
   go_loopw [5,7,10] (fun o t r wq=>∃(k:Nat) (vo:Value),k<=no/\t=.int .i64 ((A+13 * k:Nat):Int)/\r=.int .i64 ((no -k:Nat):Int)/\o=.bool (PI.all sX&&(eC k (l.drop (A+1))).all okE)/\Bx w wq ⟨m1,m2,m3,m4,m5⟩ v vo/\OwnI (w.heap.size+2) wq v (PI.map jG)/\OwnE (w.heap.size+2) wq vo ((eC k (l.drop (A+1))).map zR)/\(∀j,v.ownBlock=some j->vo.ownBlock≠some j)) (fun _ _ r _=>(intOf r).toNat)
   case atStart=>exact ⟨0,.slice none 0 0,by omega,rfl,rfl,by simp[eC],BK.out,OK.out,OwnE.nil _ _,by simp[Value.ownBlock]⟩
   case round=>
    obtain ⟨k2,vo,hk2,rfl,rfl,rfl,bk2,oi2,oo2,hap⟩:=hrel
    clear BK OK
    have BK:=Hid.mk' bk2
    have OI:=Hid.mk' oi2
    have OO:=Hid.mk' oo2
    have HAP:=Hid.mk' hap
    have zk:=bk2.z
    have k12:wr.cell? ⟨w.heap.size+1,12,none⟩=some vo:=bk2.c 12 vo rfl
    have f12:=bk2.fc
    clear bk2 oi2 oo2 hap
    by_cases hlt:k2<no
    ·obtain ⟨R,hR⟩:∃R,no -k2=R+1:=⟨no -k2 -1,by omega⟩
     obtain ⟨C,hC⟩:∃C,A+13 * k2=C:=⟨_,rfl⟩
     have HA:Hid (eC (k2+1) (l.drop (A+1))=eC k2 (l.drop (A+1))++[⟨eH l (C+1) 2,fU (l.drop (C+3))⟩]):=by
      show _=_
      rw[aHt,show A+1+13 * k2=C+1 by omega]
     have hC9:C<=9000:=by omega
     rw[hR,hC]
     rw[Int.natCast_succ]
     have cI:=fF l (C+3)
     have cS:=rd2 l (C+1)
     rw[show ((C+3:Nat):Int)=(C:Int)+3 by omega] at cI
     rw[show ((C+1:Nat):Int)=(C:Int)+1 by omega] at cS
     generalize fU (l.drop (C+3))=i at *
     generalize eH l (C+1) 2=sq at *
     have CI:=Hid.mk' cI
     have CS:=Hid.mk' cS
     clear cI cS
     have hvn:∀j,vo.ownBlock=some j->w.heap.size+2<=j/\j<wr.heap.size:=fun j hj=>OO.out.lt j hj
     have HV:=Hid.mk' hvn
     clear hvn
     obtain ⟨okk,hok⟩:∃b,(PI.all sX&&(eC k2 (l.drop (A+1))).all okE)=b:=⟨_,rfl⟩
     rw[hok]
     replace hok:=Hid.mk' hok
     go_wp2_with fail
     refine (CI.out _ (by omega) (by omega)).mono ?_
     rintro e w2 ⟨rfl,g2⟩
     have z2:=g2.size
     simp at z2
     have G2:=Hid.mk' ((World.grownBy_alloc wr _ none).trans g2)
     have r12:w2.cell? ⟨w.heap.size+1,12,none⟩=some vo:=G2.out.cell k12 (by simp)
     have e0:=gC g2 wr.heap.size 0 (.int .i64 0)
     have e1:=gC g2 wr.heap.size 1 (.int .i64 0)
     have e2:=gC g2 wr.heap.size 2 (.float .f32 0)
     have e3:=gC g2 wr.heap.size 3 (.float .f32 0)
     have fe:∀o,w2.frozen? ⟨wr.heap.size,o,none⟩=false:=fun o=>by
      rw[World.frozen?_of_block (a:=⟨wr.heap.size,o,none⟩) (g2.block wr.heap.size (by simp) (by simp))];go_simp
     have x1:w.heap.size+1≠wr.heap.size:=by omega
     have x2:wr.heap.size≠w.heap.size+1:=by omega
     clear g2 k12 f12
     have G3:=Hid.mk' (aB (aB (aB (aB G2.out (Nat.le_refl _) 0 (.int .i64 i.sh)) (Nat.le_refl _) 1 (.int .i64 i.nu)) (Nat.le_refl _) 2 (.float .f32 (fx i.pl))) (Nat.le_refl _) 3 (.float .f32 (fx i.sp)))
     have B3:=Hid.mk' (BK.out.grow G3.out (by simp))
     have O3:Hid (OwnE (w.heap.size+2) _ vo ((eC k2 (l.drop (A+1))).map zR)):=aO OO.out G3.out
     have OI3:Hid (OwnI (w.heap.size+2) _ v (PI.map jG)):=aO OI.out G3.out
     have hln:((eC k2 (l.drop (A+1))).map zR).length=k2:=by rw[List.length_map,qU]
     have HO:Hid (((eC (k2+1) (l.drop (A+1))).map zR)=(eC k2 (l.drop (A+1))).map zR++[zR ⟨sq,i⟩]):=by show _=_;rw[HA.out,List.map_append];rfl
     have HQ:Hid ((PI.all sX&&(eC (k2+1) (l.drop (A+1))).all okE)=(okk&&sX i)):=by show _=_;rw[HA.out,List.all_append,<- hok.out,Bool.and_assoc];simp[okE]
     generalize (eC k2 (l.drop (A+1))).map zR=P at *
     clear OI OO BK
     cases okk
     all_goals
      go_wp2_with fail
      have q12:=B3.out.c 12 vo rfl
      have t0:((((w2.setCell ⟨wr.heap.size,0,none⟩ (.int .i64 i.sh)).setCell ⟨wr.heap.size,1,none⟩ (.int .i64 i.nu)).setCell ⟨wr.heap.size,2,none⟩ (.float .f32 (fx i.pl))).setCell ⟨wr.heap.size,3,none⟩ (.float .f32 (fx i.sp))).cell? ⟨wr.heap.size,0,none⟩=some (.int .i64 i.sh):=by go_simp
      have t1:((((w2.setCell ⟨wr.heap.size,0,none⟩ (.int .i64 i.sh)).setCell ⟨wr.heap.size,1,none⟩ (.int .i64 i.nu)).setCell ⟨wr.heap.size,2,none⟩ (.float .f32 (fx i.pl))).setCell ⟨wr.heap.size,3,none⟩ (.float .f32 (fx i.sp))).cell? ⟨wr.heap.size,1,none⟩=some (.int .i64 i.nu):=by go_simp
      have t2:((((w2.setCell ⟨wr.heap.size,0,none⟩ (.int .i64 i.sh)).setCell ⟨wr.heap.size,1,none⟩ (.int .i64 i.nu)).setCell ⟨wr.heap.size,2,none⟩ (.float .f32 (fx i.pl))).setCell ⟨wr.heap.size,3,none⟩ (.float .f32 (fx i.sp))).cell? ⟨wr.heap.size,2,none⟩=some (.float .f32 (fx i.pl)):=by go_simp
      have t3:((((w2.setCell ⟨wr.heap.size,0,none⟩ (.int .i64 i.sh)).setCell ⟨wr.heap.size,1,none⟩ (.int .i64 i.nu)).setCell ⟨wr.heap.size,2,none⟩ (.float .f32 (fx i.pl))).setCell ⟨wr.heap.size,3,none⟩ (.float .f32 (fx i.sp))).cell? ⟨wr.heap.size,3,none⟩=some (.float .f32 (fx i.sp)):=by go_simp
      clear r12 e0 e1 e2 e3 fe
      generalize ((((w2.setCell ⟨wr.heap.size,0,none⟩ (.int .i64 i.sh)).setCell ⟨wr.heap.size,1,none⟩ (.int .i64 i.nu)).setCell ⟨wr.heap.size,2,none⟩ (.float .f32 (fx i.pl))).setCell ⟨wr.heap.size,3,none⟩ (.float .f32 (fx i.sp)))=w3 at *
      have z3:=B3.out.z
      have x3:wr.heap.size<w3.heap.size:=by have:=G3.out.size;have:=World.block_lt_of_cell? w3 _ t0;exact this
      have HV3:Hid (∀j,vo.ownBlock=some j->j≠wr.heap.size/\w.heap.size+2<=j):=fun j hj=>by have:=HV.out j hj;omega
      have f3:=B3.out.fc
      have x5:w.heap.size+1≠w3.heap.size:=by omega
      have x6:w.heap.size+1<w3.heap.size:=by omega
      have x7:wr.heap.size≠w3.heap.size:=by omega
      have y5:IntKind.i64.wrap ((C:Int)+1)=(C:Int)+1:=by simp[IntKind.wrap,IntKind.bits,IntKind.signed];omega
      go_region_law (first | (refine pK rfl (.tmp 111) (.tmp 118) rfl (w.heap.size+2) vo P (by simp[Act.eval]) (World.ownsRow.alloc (World.ownsRow.drew O3.out) _) ⟨w3.heap.size,0,none⟩ (zR ⟨sq,i⟩) (by simp[Act.eval]) (aW _ (zR ⟨sq,i⟩).cells _ _ rfl) (by omega) (by simp;omega) ?_;intro v' w4 o4 g4 h4;obtain ⟨a',n',c',rfl⟩:=dD o4;have B4:=Hid.mk' ((B3.out.grow (aG (aA (aD w3 none)) _) (by simp)).grow g4 (fun j hj=>(HV3.out j hj).2));have s12:=B4.out.c 12 vo rfl;have f4:=B4.out.fc) | (go_simp;go_at_call 151;refine (CS.out _ (by omega) (by omega)).mono ?_;rintro e w' ⟨rfl,rfl⟩))
      all_goals
       go_wp2_with fail
       refine ⟨⟨k2+1,.slice a' n' c',by omega,?_,?_,?_,B4.out.setO _,?_,?_,?_⟩,by simp[intOf]⟩
       ·rw[show ((A+13 * (k2+1):Nat):Int)=(C:Int)+13 by omega]
       ·rw[show no -(k2+1)=R by omega]
       ·rw[HQ.out];rfl
       ·refine aH (World.ownsRow.kept (World.ownsRow.alloc (World.ownsRow.drew OI3.out) _) g4 ?_) _ _ _ (fun e=>by have:=(OI3.out.lt _ e).1;omega)
        cases hv:v.ownBlock with
        | none=>exact .inl rfl
        | some j=>exact .inr (fun e=>HAP.out j hv e.symm)
       ·rw[HO.out];exact aH o4 _ _ _ (fun e=>by have:=(o4.lt _ e).1;omega)
       ·intro j hj
        rcases h4 with h4 | h4
        ·rw[h4];exact HAP.out j hj
        ·rw[h4];intro e;injection e with e;have:=(OI3.out.lt j hj).2;simp at e;omega
    ·have hkn:k2=no:=by omega
     subst hkn
     have hr0:k2 -k2=0:=by omega
     rw[hr0]
     have HD:Hid (iC l=⟨6,0,bT,⟨m1,m2,m3,m4,m5⟩,PI,eC k2 (l.drop (A+1))⟩):=by
      show _=_
      have e6:b1 l=6:=by rw[<- hK,oE,List.drop_zero]
      have et:tI (l.drop 1)=l.drop 11:=by simp only[tI,t2,eQ,List.drop_drop]
      have e11:b1 (l.drop 11)=(k:Int):=by rw[<- oE];exact HN.out
      have eA:b1 (l.drop A)=(k2:Int):=by rw[<- oE];exact HNO.out
      rw[iC,e6,aIy,eQ,et,e11,eQ,Int.toNat_natCast,List.drop_drop,HR.out,eA,eQ,Int.toNat_natCast,List.drop_drop,HPI.out,HM.out]
     have WPI:Hid (∀i∈PI.map jG,WfIt i):=by
      intro i hi
      obtain ⟨y,hy,rfl⟩:=List.mem_map.1 hi
      have:=aBx k (l.drop 12) y (by rw[HPI.out];exact hy)
      exact ⟨mZ _ this.p,mZ _ this.s⟩
     have WPE:Hid (∀e∈(eC k2 (l.drop (A+1))).map zR,WfIt e.it):=by
      intro i hi
      obtain ⟨y,hy,rfl⟩:=List.mem_map.1 hi
      have:=aBy k2 (l.drop (A+1)) y hy
      exact ⟨mZ _ this.p,mZ _ this.s⟩
     have hlE:(eC k2 (l.drop (A+1))).length<=255:=by rw[qU];omega
     have hlI:PI.length<=255:=by rw[<- HPI.out,qT];omega
     generalize (eC k2 (l.drop (A+1)))=PE at *
     obtain ⟨okk,hok⟩:∃b,(PI.all sX&&PE.all okE)=b:=⟨_,rfl⟩
     rw[hok]
     have HX:Hid (okk=true->iC l=⟨6,0,bT,⟨m1,m2,m3,m4,m5⟩,PI.map jG,PE.map zR⟩):=by
      intro hb
      rw[hb,Bool.and_eq_true,List.all_eq_true,List.all_eq_true] at hok
      rw[HD.out,show PI.map jG=PI from tV (fun i hi=>rR (hok.1 i hi)),show PE.map zR=PE from tV (fun e he=>by have:=hok.2 e he;unfold zR;rw[rR this])]
     have HZ:Hid (okk=false->cV l=false):=by
      intro hb
      rw[hb,Bool.and_eq_false_iff,List.all_eq_false,List.all_eq_false] at hok
      rw[cV,HD.out,aAt ⟨m1,m2,m3,m4,m5⟩ PI PE hok]
      rfl
     clear hok
     have WX:Hid (WfR ⟨6,0,bT,⟨m1,m2,m3,m4,m5⟩,PI.map jG,PE.map zR⟩):=⟨nD,WPI.out,WPE.out⟩
     have hl1:(PI.map jG).length<=255:=by rw[List.length_map];exact hlI
     have hl2:(PE.map zR).length<=255:=by rw[List.length_map];exact hlE
     clear WPI WPE hlE hlI HD HPI HNO HR CA
     generalize PI.map jG=XI at *
     generalize PE.map zR=XE at *
     obtain ⟨ai,ni,ci,rfl⟩:=dD OI.out
     obtain ⟨ao,mo,co,rfl⟩:=dD OO.out
     have kI:Hid (Value.ownBlock (.slice ai ni ci)≠some w.heap.size):=fun e=>by have:=(OI.out.lt _ e).1;omega
     have kO:Hid (Value.ownBlock (.slice ao mo co)≠some w.heap.size):=fun e=>by have:=(OO.out.lt _ e).1;omega
     have a0:=BK.out.a 0 _ rfl
     have a1:=BK.out.a 1 _ rfl
     have a2:=BK.out.a 2 _ rfl
     have a3:=BK.out.a 3 _ rfl
     have a4:=BK.out.a 4 _ rfl
     have a5:=BK.out.a 5 _ rfl
     have a6:=BK.out.a 6 _ rfl
     have a7:=BK.out.a 7 _ rfl
     have a8:=BK.out.a 8 _ rfl
     have a9:=BK.out.a 9 _ rfl
     have a10:=BK.out.a 10 _ rfl
     have a11:=BK.out.a 11 _ rfl
     have a12:=BK.out.a 12 _ rfl
     have c0:=BK.out.c 0 _ rfl
     have c1:=BK.out.c 1 _ rfl
     have c2:=BK.out.c 2 _ rfl
     have c3:=BK.out.c 3 _ rfl
     have c4:=BK.out.c 4 _ rfl
     have c5:=BK.out.c 5 _ rfl
     have c6:=BK.out.c 6 _ rfl
     have c7:=BK.out.c 7 _ rfl
     have c8:=BK.out.c 8 _ rfl
     have c9:=BK.out.c 9 _ rfl
     have c10:=BK.out.c 10 _ rfl
     have c11:=BK.out.c 11 _ rfl
     have c12:=BK.out.c 12 _ rfl
     have fa:=BK.out.fa
     clear k12 f12
     go_wp2_with fail
     refine Calls.mono (dC ⟨6,0,bT,⟨m1,m2,m3,m4,m5⟩,XI,XE⟩ (.slice ai ni ci) (.slice ao mo co) _ (Lies.of_own OI.out) (Lies.of_own OO.out) WX.out (Nat.le_trans hl1 (by decide)) (Nat.le_trans hl2 (by decide))) ?_
     rintro e w2 ⟨rfl,g2⟩
     have b0:=g2.cell a0 (by simp)
     have b1:=g2.cell a1 (by simp)
     have b2:=g2.cell a2 (by simp)
     have b3:=g2.cell a3 (by simp)
     have b4:=g2.cell a4 (by simp)
     have b5:=g2.cell a5 (by simp)
     have b6:=g2.cell a6 (by simp)
     have b7:=g2.cell a7 (by simp)
     have b8:=g2.cell a8 (by simp)
     have b9:=g2.cell a9 (by simp)
     have b10:=g2.cell a10 (by simp)
     have b11:=g2.cell a11 (by simp)
     have b12:=g2.cell a12 (by simp)
     have r0:=g2.cell c0 (by simp)
     have r1:=g2.cell c1 (by simp)
     have r2:=g2.cell c2 (by simp)
     have r3:=g2.cell c3 (by simp)
     have r4:=g2.cell c4 (by simp)
     have r5:=g2.cell c5 (by simp)
     have r6:=g2.cell c6 (by simp)
     have r7:=g2.cell c7 (by simp)
     have r8:=g2.cell c8 (by simp)
     have r9:=g2.cell c9 (by simp)
     have r10:=g2.cell c10 (by simp)
     have r11:=g2.cell c11 (by simp)
     have r12:=g2.cell c12 (by simp)
     have fb:∀o,w2.frozen? ⟨w.heap.size,o,none⟩=false:=fun o=>by
      rw[World.frozen?_of_block (a:=⟨w.heap.size,o,none⟩) (g2.block w.heap.size (by omega) (by simp))];exact fa o
     have G2:=Hid.mk' (BK.out.g.trans g2)
     have OI2:=Hid.mk' (bP (aO OI.out g2) (show w.heap.size<=w.heap.size+2 by omega))
     have OO2:=Hid.mk' (bP (aO OO.out g2) (show w.heap.size<=w.heap.size+2 by omega))
     clear a0 c0 a1 c1 a2 c2 a3 c3 a4 c4 a5 c5 a6 c6 a7 c7 a8 c8 a9 c9 a10 c10 a11 c11 a12 c12 fa g2 OI OO
     cases okk
     ·replace HZ:=Hid.mk' (HZ.out rfl)
      go_wp2_with fail
      refine bodyPost_ret (v:=.tuple #[bQ,.int .i64 7]) (by simp[results,results107,go_sem,bQ,rv,bT,aZ, *]) rfl (eB w l _ (aB (aB (aB (aB (aB (aB (aB (aB (aB (aB (aB (aB (aB G2.out (Nat.le_refl _) _ _) (Nat.le_refl _) _ _) (Nat.le_refl _) _ _) (Nat.le_refl _) _ _) (Nat.le_refl _) _ _) (Nat.le_refl _) _ _) (Nat.le_refl _) _ _) (Nat.le_refl _) _ _) (Nat.le_refl _) _ _) (Nat.le_refl _) _ _) (Nat.le_refl _) _ _) (Nat.le_refl _) _ _) (Nat.le_refl _) _ _) ?_)
      exact HZ.out
     ·replace HX:=Hid.mk' (HX.out rfl)
      cases hm:aP ⟨6,0,bT,⟨m1,m2,m3,m4,m5⟩,XI,XE⟩
      ·have hE:eZ ⟨6,0,bT,⟨m1,m2,m3,m4,m5⟩,XI,XE⟩=2:=by simp[eZ,hm]
       rw[hE]
       go_wp2_with fail
       refine bodyPost_ret (v:=.tuple #[bQ,.int .i64 7]) (by simp[results,results107,go_sem,bQ,rv,bT,aZ, *]) rfl (eB w l _ (aB (aB (aB (aB (aB (aB (aB (aB (aB (aB (aB (aB (aB G2.out (Nat.le_refl _) _ _) (Nat.le_refl _) _ _) (Nat.le_refl _) _ _) (Nat.le_refl _) _ _) (Nat.le_refl _) _ _) (Nat.le_refl _) _ _) (Nat.le_refl _) _ _) (Nat.le_refl _) _ _) (Nat.le_refl _) _ _) (Nat.le_refl _) _ _) (Nat.le_refl _) _ _) (Nat.le_refl _) _ _) (Nat.le_refl _) _ _) ?_)
       rw[cV,HX.out,hm];rfl
      ·have hE:eZ ⟨6,0,bT,⟨m1,m2,m3,m4,m5⟩,XI,XE⟩=0:=by simp[eZ,hm]
       have hS:lG ⟨6,0,bT,⟨m1,m2,m3,m4,m5⟩,XI,XE⟩=enc ⟨6,0,bT,⟨m1,m2,m3,m4,m5⟩,XI,XE⟩:=by simp[lG,hm]
       rw[hE,hS]
       have HMB:=Hid.mk' hm
       obtain ⟨t,ht⟩:∃t,enc ⟨6,0,bT,⟨m1,m2,m3,m4,m5⟩,XI,XE⟩=t:=⟨_,rfl⟩
       rw[ht]
       have HT:=Hid.mk' ht
       clear ht hm hE hS
       by_cases hl3:t=l
       ·subst hl3
        go_wp2_with fail
        refine bodyPost_ret (v:=.tuple #[rv 6 0 bT ⟨m1,m2,m3,m4,m5⟩ (.slice ai ni ci) (.slice ao mo co),.int .i64 0]) (by simp[results,results107,go_sem,rv,bT, *]) rfl ⟨(aB (aB (aB (aB (aB (aB (aB (aB (aB (aB (aB (aB (aB G2.out (Nat.le_refl _) _ _) (Nat.le_refl _) _ _) (Nat.le_refl _) _ _) (Nat.le_refl _) _ _) (Nat.le_refl _) _ _) (Nat.le_refl _) _ _) (Nat.le_refl _) _ _) (Nat.le_refl _) _ _) (Nat.le_refl _) _ _) (Nat.le_refl _) _ _) (Nat.le_refl _) _ _) (Nat.le_refl _) _ _) (Nat.le_refl _) _ _),.inr ⟨?_,.slice ai ni ci,.slice ao mo co,?_,?_,?_,HAP.out⟩⟩
        ·rw[cV,HX.out,HMB.out,HT.out];simp
        ·rw[HX.out]
        ·rw[HX.out];exact (aH (aH (aH (aH (aH (aH (aH (aH (aH (aH (aH (aH (aH OI2.out w.heap.size _ _ kI.out) w.heap.size _ _ kI.out) w.heap.size _ _ kI.out) w.heap.size _ _ kI.out) w.heap.size _ _ kI.out) w.heap.size _ _ kI.out) w.heap.size _ _ kI.out) w.heap.size _ _ kI.out) w.heap.size _ _ kI.out) w.heap.size _ _ kI.out) w.heap.size _ _ kI.out) w.heap.size _ _ kI.out) w.heap.size _ _ kI.out)
        ·rw[HX.out];exact (aH (aH (aH (aH (aH (aH (aH (aH (aH (aH (aH (aH (aH OO2.out w.heap.size _ _ kO.out) w.heap.size _ _ kO.out) w.heap.size _ _ kO.out) w.heap.size _ _ kO.out) w.heap.size _ _ kO.out) w.heap.size _ _ kO.out) w.heap.size _ _ kO.out) w.heap.size _ _ kO.out) w.heap.size _ _ kO.out) w.heap.size _ _ kO.out) w.heap.size _ _ kO.out) w.heap.size _ _ kO.out) w.heap.size _ _ kO.out)
       ·have hne:((S t).toList==(S l).toList)=false:=by rw[bW,bW];simp[hl3]
        go_wp2_with fail
        refine bodyPost_ret (v:=.tuple #[bQ,.int .i64 7]) (by simp[results,results107,go_sem,bQ,rv,bT,aZ, *]) rfl (eB w l _ (aB (aB (aB (aB (aB (aB (aB (aB (aB (aB (aB (aB (aB G2.out (Nat.le_refl _) _ _) (Nat.le_refl _) _ _) (Nat.le_refl _) _ _) (Nat.le_refl _) _ _) (Nat.le_refl _) _ _) (Nat.le_refl _) _ _) (Nat.le_refl _) _ _) (Nat.le_refl _) _ _) (Nat.le_refl _) _ _) (Nat.le_refl _) _ _) (Nat.le_refl _) _ _) (Nat.le_refl _) _ _) (Nat.le_refl _) _ _) ?_)
        rw[cV,HX.out,HMB.out,HT.out];simp[hl3]
theorem nB (l:List UInt8)(w:World)(hl:l.length<=2000000):
  Calls prog 107 #[.string (S l)] w fun e w'=>dF w l e w':=by
 by_cases h1:eH l 0 1=1
 ·exact aFl l w (by omega) h1
 by_cases h2:eH l 0 1=2
 ·exact aFm l w (by omega) h2
 by_cases h4:eH l 0 1=4
 ·exact aFo l w (by omega) h4
 by_cases h5:eH l 0 1=5
 ·exact aFp l w (by omega) h5
 by_cases h6:eH l 0 1=6
 ·exact aFu l w hl h6
 by_cases h7:eH l 0 1=7
 ·exact aFq l w (by omega) h7
 by_cases h8:eH l 0 1=8
 ·exact aFr l w (by omega) h8
 exact aFn l w (by omega) _ rfl h1 h2 h4 h5 h6 h7 h8
theorem aJM (l:List UInt8)(a b:Nat):(S l).extract a b=S ((l.take b).drop a):=by
 apply ByteArray.ext
 apply Array.toList_inj.1
 rw[Lib.extract_data];simp[S,List.drop_take]
theorem jX (l:List UInt8)(w:World)(hl:l.length<=2000000):
  Calls prog 103 #[.string (S l)] w fun e w'=>∃v rs,e=.returned (.tuple #[v,.int .i64 (bK l).2])/\Came w.heap.size w' v rs/\rs.map Rw.p=aR l/\w.grownBy w' none:=by
 have hz:=aQ l
 have hsf:=aK
 go_enter func103,ntmps103
 go_wp2
 go_loopw [4,5] (fun v i wr=>∃(n:Nat) (rs:List Rw),i=.int .i64 n/\n<=l.length/\rs.length<=n/\w.grownBy wr none/\Came w.heap.size wr v rs/\(bK l).2=n+(bK (l.drop n)).2/\aR l=rs.map Rw.p++aR (l.drop n)) (fun _ i _=>l.length -(intOf i).toNat)
 case atStart=>exact ⟨0,[],rfl,by omega,by simp,aD _ _,Came.nil _ _,by simp,by simp⟩
 case round=>
  obtain ⟨n,rs,rfl,hn,hk,gk,ok,hs,hq⟩:=hrel
  have HS:=Hid.mk' hs
  have HQ:=Hid.mk' hq
  have OK:=Hid.mk' ok
  clear hs ok hq
  have hd:Hid (∀m,(l.drop n).drop m=l.drop (n+m)):=fun m=>by rw[List.drop_drop]
  have hdl:(l.drop n).length=l.length -n:=List.length_drop
  have hrd:=rG l n
  obtain ⟨L,hL⟩:∃L,l.drop n=L:=⟨_,rfl⟩
  rw[hL] at hd hdl HS HQ hrd
  have ht2:(t2 L).length=L.length -2:=by rw[t2,eQ,eQ];simp
  obtain ⟨N,hN⟩:∃N:Nat,b2 L=(N:Int):=⟨(b2 L).toNat,by have:=(nV L).1;omega⟩
  have hfr:frame L=((l.take (n+2+N)).drop (n+2)):=by
   unfold frame
   rw[hN,<- hL,t2,eQ,eQ]
   simp only[List.drop_drop,List.drop_take,Int.toNat_natCast]
   rw[show n+2+N -(n+2)=N by omega]
  clear hL
  have HFR:=Hid.mk' hfr
  clear hfr
  have hNb:N<=65535:=by have:=(nV L).2;omega
  rw[hN] at hrd
  by_cases h2:n+2<=l.length
  ·have x0:((n:Int)+2<=(l.length:Int)):=by omega
   go_wp2_with fail
   refine Calls.mono (jU l n 2 _ (by omega) (by omega) (by omega)) ?_
   rintro e w1 ⟨rfl,rfl⟩
   rw[hrd]
   by_cases h3:n+2+N<=l.length
   ·have hF:lF L=true:=by simp[lF,hN,ht2];omega
    have x1:((n:Int)+2+(N:Int)<=(l.length:Int)):=by omega
    have x2:decide ((l.length:Int)<(n:Int)+2+(N:Int))=false:=by simp;omega
    have hcut:(S l).extract (n+2) (n+2+N)=S (frame L):=by rw[HFR.out];exact aJM l _ _
    have hfl:(frame L).length=N:=by rw[HFR.out];simp;omega
    go_wp2_with fail
    refine Calls.mono (nB (frame L) _ (by omega)) ?_
    rintro e w2 ⟨g2,(⟨hd0,rfl⟩ | ⟨hd1,vi,vo,rfl,oi,oo,io⟩)⟩
    ·have e0:=iY L (by rw[hd0];simp)
     have e1:=iZ L (by rw[hd0];simp)
     rw[e0] at HS
     rw[e1] at HQ
     clear e0 e1
     unfold bQ rv
     go_wp2_with fail
     go_ret2
     refine ⟨u4,rs,eG rfl ?_,OK.out.grown (aG g2 _),by rw[HQ.out,List.append_nil],aG (gk.trans g2) _⟩
     rw[HS.out];rfl
    ·have e1:=pD L ⟨hF,hd1⟩
     have e2:=pE L ⟨hF,hd1⟩
     rw[e1] at HS
     rw[e2] at HQ
     clear e1 e2 hd1
     obtain ⟨ai,ni,ci,rfl⟩:=dD oi
     obtain ⟨ao,no,co,rfl⟩:=dD oo
     have OI:=Hid.mk' oi
     have OO:=Hid.mk' oo
     have IOh:=Hid.mk' io
     clear oi oo io
     generalize iC (frame L)=p at HQ OI OO ⊢
     unfold rv
     have zk:=gk.size
     have z2:=g2.size
     have G01:=Hid.mk' gk
     have G2:=Hid.mk' g2
     have o2:Hid (w2.ownsRow w.heap.size 139 13 u4 rs.length (rs.flatMap Rw.cells)):=aO OK.out.row g2
     have g02:=Hid.mk' (gk.trans g2)
     have hv:Hid (∀j,u4.ownBlock=some j->w.heap.size<=j):=fun j hj=>(o2.out.lt j hj).1
     clear g2
     go_wp2_with (at_builtin;refine aBD rfl _ _ rfl w.heap.size u4 rs.length (rs.flatMap Rw.cells) rfl (World.ownsRow.alloc (World.ownsRow.alloc o2.out _) _) ⟨w2.heap.size+1,0,none⟩ [.int .i64 p.kind,.int .i64 p.seq,.int .i64 p.it.sh,.int .i64 p.it.nu,.float .f32 p.it.pl,.float .f32 p.it.sp,.int .i64 p.mks.g,.int .i64 p.mks.m,.int .i64 p.mks.s,.int .i64 p.mks.a,.int .i64 p.mks.n,.slice ai ni ci,.slice ao no co] rfl rfl ?c1 ?c2 ?c3 ?c4 ?c5)
     case c1=>exact aW _ _ _ _ (by simp)
     case c2=>simp[Value.oneCell']
     case c3=>omega
     case c4=>simp;omega
     case c5=>
     intro v' w3 o3 g3 hvv
     have g03:w.grownBy w3 none:=dL g3 (aG (aG g02.out _) _) hv.out
     have CC:Hid (Came w.heap.size w3 v' (rs++[⟨p,.slice ai ni ci,.slice ao no co⟩])):=
      OK.out.add (r:=⟨p,.slice ai ni ci,.slice ao no co⟩) G01.out.size (aG (aG G2.out _) _) (World.ownsRow.alloc (World.ownsRow.alloc OI.out _) _) (World.ownsRow.alloc (World.ownsRow.alloc OO.out _) _) IOh.out o3 g3
       (by rcases hvv with e | e;exact .inl e;exact .inr ⟨_,by simp,e⟩)
     clear o3 g3 hvv
     go_wp2
     refine ⟨⟨n+2+N,rs++[⟨p,.slice ai ni ci,.slice ao no co⟩],by go_num,by omega,by simp;omega,g03,CC.out,?_,?_⟩,by simp[intOf];omega⟩
     ·rw[HS.out,hd.out,hfl,show n+(2+N)=n+2+N by omega]
      show n+(2+N+_)=n+2+N+_
      omega
     ·rw[HQ.out,hd.out,hfl,show n+(2+N)=n+2+N by omega]
      simp
   ·have hF:lF L=false:=by simp[lF,hN,ht2];omega
    have x2:decide ((l.length:Int)<(n:Int)+2+(N:Int))=true:=by simp;omega
    have e0:=iY L (by rw[hF];simp)
    have e1:=iZ L (by rw[hF];simp)
    rw[e0] at HS
    rw[e1] at HQ
    clear e0 e1
    go_wp2
    go_ret2
    refine ⟨u4,rs,eG rfl ?_,OK.out,by rw[HQ.out,List.append_nil],gk⟩
    rw[HS.out];rfl
  ·have hF:lF L=false:=by simp[lF];omega
   have e0:=iY L (by rw[hF];simp)
   have e1:=iZ L (by rw[hF];simp)
   rw[e0] at HS
   rw[e1] at HQ
   clear e0 e1
   have x0:¬((n:Int)+2<=(l.length:Int)):=by omega
   go_wp2
   go_ret2
   refine ⟨u4,eG rfl ?_,rs,OK.out,by rw[HQ.out,List.append_nil],gk⟩
   rw[HS.out];rfl
end Go.Proofs.YtammnaafdhhjaaaGreat
