import Derived.Test.YtammnaafdhhjaaaGreatJN11
set_option maxHeartbeats 16000000
set_option maxRecDepth 100000
namespace Go.Proofs.YtammnaafdhhjaaaGreat
open Go.RowKit Go.Proofs.Tryz
def Two (w wr:World)(b1 b2 n k:Nat):Prop:=∃G1 G2,LI wr b1 G1 n/\LI wr b2 G2 k/\(∀j,G1 j->¬G2 j)/\(∀j,G1 j->w.heap.size<=j/\j<wr.heap.size)/\(∀j,G2 j->w.heap.size<=j/\j<wr.heap.size)/\Only w wr (fun j=>w.heap.size<=j)
theorem Two.swap {w wr:World}{b1 b2 n k:Nat}(h:Two w wr b1 b2 n k):Two w wr b2 b1 k n:=by
 obtain ⟨G1,G2,h1,h2,d,l1,l2,o⟩:=h
 exact ⟨G2,G1,h2,h1,fun j a b=>d j b a,l2,l1,o⟩
theorem Two.mono {w wr:World}{b1 b2 n k m m':Nat}(h:Two w wr b1 b2 n k)(hm:n<=m)(hm':k<=m'):Two w wr b1 b2 m m':=by
 obtain ⟨G1,G2,h1,h2,d,l1,l2,o⟩:=h
 exact ⟨G1,G2,h1.mono hm,h2.mono hm',d,l1,l2,o⟩
theorem Two.grown {w wr w':World}{b1 b2 n k:Nat}(h:Two w wr b1 b2 n k)(g:wr.grownBy w' none):Two w w' b1 b2 n k:=by
 obtain ⟨G1,G2,h1,h2,d,l1,l2,o⟩:=h
 have z:=g.size
 exact ⟨G1,G2,h1.grown g,h2.grown g,d,fun j hj=>⟨(l1 j hj).1,by have:=(l1 j hj).2;omega⟩,fun j hj=>⟨(l2 j hj).1,by have:=(l2 j hj).2;omega⟩,o.trans ((Only.grown g).mono (by simp))⟩
theorem Two.o {w wr:World}{b1 b2 n k:Nat}(h:Two w wr b1 b2 n k):Only w wr (fun j=>w.heap.size<=j):=by
 obtain ⟨G1,G2,h1,h2,d,l1,l2,o⟩:=h
 exact o
theorem Two.act {w wr:World}{b1 b2 n k:Nat}(h:Two w wr b1 b2 n k)(hn:n<=9000000)(a:Ac)(ok:a.Ok):
  Calls prog 22 #[.pointer (some ⟨b1,0,none⟩),.agg #[.int .i64 a.K,.int .i64 a.sh,.int .i64 a.k,.int .i64 a.m,.int .i64 a.x,.int .i64 a.y,.float .f32 a.pl,.float .f32 a.sp,.string a.t]] wr fun e w'=>e=.returned (.bool true)/\Two w w' b1 b2 (n+4) k:=by
 obtain ⟨G1,G2,h1,h2,d,l1,l2,o⟩:=h
 refine (wL b1 n G1 a wr h1 hn ok).mono ?_
 rintro e w' ⟨rfl,li,on⟩
 have z:=on.size
 have z0:=o.size
 refine ⟨rfl,fun j=>(G1 j∨wr.heap.size<=j)/\j<w'.heap.size,G2,li.within (fun j hl e=>⟨e,hl⟩),h2.only on (fun j _ a b=>d j b a),fun j a b=>?_,fun j a=>⟨?_,a.2⟩,fun j a=>⟨(l2 j a).1,by have:=(l2 j a).2;omega⟩,o.trans (on.mono (fun j _ e=>.inl (l1 j e).1))⟩
 ·rcases a.1 with a | a
  ·exact d j a b
  ·have:=(l2 j b).2;omega
 ·rcases a.1 with a | a
  ·exact (l1 j a).1
  ·omega
theorem Two.looks {w wr:World}{b1 b2 n k:Nat}(h:Two w wr b1 b2 n k)(hn:n<=10000000):∃bk,wr.cell? ⟨b1,2,none⟩=some (.pointer (some ⟨bk,0,none⟩))/\Calls prog 23 #[.pointer (some ⟨bk,0,none⟩)] wr fun e w'=>e=.returned (.bool true)/\wr.grownBy w' none:=by
 obtain ⟨G1,G2,h1,h2,d,l1,l2,o⟩:=h
 exact h1.looks hn
theorem Two.last {w wr:World}{b1 b2 n k:Nat}(h:Two w wr b1 b2 n k)(hn:n<=7000000):
  Calls prog 24 #[.pointer (some ⟨b1,0,none⟩)] wr fun e w'=>e=.returned (.bool true)/\∃G,LI w' b2 G k/\(∀j,G j->w.heap.size<=j)/\Only w w' (fun j=>w.heap.size<=j):=by
 obtain ⟨G1,G2,h1,h2,d,l1,l2,o⟩:=h
 refine (aGL b1 n G1 wr h1 hn).mono ?_
 rintro e w' ⟨rfl,on⟩
 exact ⟨rfl,G2,h2.only on (fun j _ a b=>d j b a),fun j a=>(l2 j a).1,o.trans (on.mono (fun j _ e=>.inl (l1 j e).1))⟩
theorem Two.new {w w1 w2:World}{b1 b2:Nat}(h1:LI w1 b1 (fun j=>w.heap.size<=j) 0)(g1:w.grownBy w1 none)(h2:LI w2 b2 (fun j=>w1.heap.size<=j) 0)(g2:w1.grownBy w2 none):Two w w2 b1 b2 0 0:=by
 have z1:=g1.size
 have z2:=g2.size
 refine ⟨fun j=>w.heap.size<=j/\j<w1.heap.size,fun j=>w1.heap.size<=j/\j<w2.heap.size,(h1.within (fun j a b=>⟨b,a⟩)).grown g2,h2.within (fun j a b=>⟨b,a⟩),fun j a b=>by omega,fun j a=>by omega,fun j a=>by omega,(Only.grown (g1.trans g2)).mono (by simp)⟩
theorem LiesA.row {w:World}{a:Option Addr}{n c:Nat}{l:List Ac}(h:LiesA w (.slice a n c) l){k:Nat}(hk:k<l.length):∃g off,a=some ⟨g,off,none⟩/\g<w.heap.size/\∀wr:World,Only w wr (fun j=>w.heap.size<=j)->∀j u,j<9->l[k].cells[j]?=some u->wr.cell? ⟨g,off+k * 9+j,none⟩=some u:=by
 obtain ⟨a',c',e,hx⟩:=h
 injection e with ea en ec
 subst ea
 obtain ⟨g,off,rfl,hc⟩:=hx (by omega)
 have hgl:g<w.heap.size:=World.block_lt_of_cell? w _ (hc (9 * k) _ (by rw[show 9 * k=9 * k+0 by omega,sP l k 0 hk (by omega)];rfl))
 refine ⟨g,off,rfl,hgl,fun wr o j u hj hu=>?_⟩
 have:=hc (9 * k+j) u (by rw[sP l k j hk hj];exact hu)
 rw[show off+(9 * k+j)=off+k * 9+j by omega] at this
 exact o.cell this (by simp;omega)
theorem apart_no (cI cO cJ dI dO dJ:Int)(v u:Value)(w:World)(hv:¬(mT cI cO cJ/\mT dI dO dJ)):
  Calls prog 6 #[.agg #[.int .i64 cI,.int .i64 cO,.int .i64 cJ],.agg #[.int .i64 dI,.int .i64 dO,.int .i64 dJ],v,u] w fun e w'=>e=.returned (.bool true)/\Only w w' (fun j=>w.heap.size<=j):=by
 have g0:=World.grownBy_alloc w (.cells #[.int .i64 cI,.int .i64 cO,.int .i64 cJ] 23) none
 have g1:=World.grownBy_alloc (w.alloc (.cells #[.int .i64 cI,.int .i64 cO,.int .i64 cJ] 23)) (.cells #[.int .i64 dI,.int .i64 dO,.int .i64 dJ] 23) none
 have G1:=Hid.mk' (g0.trans g1)
 have AD:=Hid.mk' (At.new (w.alloc (.cells #[.int .i64 cI,.int .i64 cO,.int .i64 cJ] 23)) [.int .i64 dI,.int .i64 dO,.int .i64 dJ] 23)
 rw[show (w.alloc (.cells #[.int .i64 cI,.int .i64 cO,.int .i64 cJ] 23)).heap.size=w.heap.size+1 by simp] at AD
 clear g0 g1
 have m2:∀W,∃p,Calls prog 21 #[.agg #[.int .i64 dI,.int .i64 dO,.int .i64 dJ]] W fun e w'=>∃q,e=.returned (.tuple #[.pointer q,.bool true])/\(p=true->q=none)/\W.grownBy w' none:=fun W=>by
  by_cases h2:mT dI dO dJ
  ·exact ⟨false,(aGM dI dO dJ W h2).mono (fun e w' ⟨bw,he,_,g⟩=>⟨_,he,by simp,g⟩)⟩
  ·exact ⟨true,(aIp dI dO dJ W h2).mono (fun e w' ⟨he,g⟩=>⟨_,he,fun _=>rfl,g⟩)⟩
 by_cases h1:mT cI cO cJ
 ·have h2:¬mT dI dO dJ:=fun e=>hv ⟨h1,e⟩
  have M1:=Hid.mk' fun W=>aGM cI cO cJ W h1
  have M2:=Hid.mk' fun W=>aIp dI dO dJ W h2
  clear hv h1 h2 m2
  go_enter func6,ntmps6
  go_wp2_with fail
  refine Calls.mono (M1.out _) ?_
  rintro e w1 ⟨bw,rfl,_,g1⟩
  have a1:=AD.out.grown g1
  have c0:=a1.c 0 _ rfl
  have c1:=a1.c 1 _ rfl
  have c2:=a1.c 2 _ rfl
  have G2:=Hid.mk' (G1.out.trans g1)
  clear g1 a1
  go_wp2_with fail
  refine Calls.mono (M2.out _) ?_
  rintro e w2 ⟨rfl,g2⟩
  have G3:=Hid.mk' (G2.out.trans g2)
  clear g2
  go_wp2
  go_ret
  exact ⟨rfl,(Only.grown G3.out).mono (by simp)⟩
 ·have M1:=Hid.mk' fun W=>aIp cI cO cJ W h1
  have M2:=Hid.mk' m2
  clear hv h1 m2
  go_enter func6,ntmps6
  go_wp2_with fail
  refine Calls.mono (M1.out _) ?_
  rintro e w1 ⟨rfl,g1⟩
  have a1:=AD.out.grown g1
  have c0:=a1.c 0 _ rfl
  have c1:=a1.c 1 _ rfl
  have c2:=a1.c 2 _ rfl
  have G2:=Hid.mk' (G1.out.trans g1)
  clear g1 a1
  go_wp2_with fail
  obtain ⟨_,mm⟩:=M2.out w1
  refine Calls.mono mm ?_
  rintro e w2 ⟨q,rfl,_,g2⟩
  have G3:=Hid.mk' (G2.out.trans g2)
  clear g2
  go_wp2
  go_ret
  exact ⟨rfl,(Only.grown G3.out).mono (by simp)⟩
theorem apart_yes (cI cO cJ dI dO dJ:Int)(v u:Value)(l m:List Ac)(w:World)(h1:mT cI cO cJ)(h2:mT dI dO dJ)(hl:LiesA w v l)(hm:LiesA w u m)(hln:l.length<=1048576)(hmn:m.length<=1048576)(okl:∀a∈l,a.Ok)(okm:∀a∈m,a.Ok):
  Calls prog 6 #[.agg #[.int .i64 cI,.int .i64 cO,.int .i64 cJ],.agg #[.int .i64 dI,.int .i64 dO,.int .i64 dJ],v,u] w fun e w'=>e=.returned (.bool true)/\Only w w' (fun j=>w.heap.size<=j):=by
 have hsf:=aK
 obtain ⟨a,c,hv,_⟩:=id hl
 obtain ⟨b,d,hw,_⟩:=id hm
 obtain ⟨n,hn⟩:∃n,l.length=n:=⟨_,rfl⟩
 obtain ⟨q,hq⟩:∃n,m.length=n:=⟨_,rfl⟩
 rw[hn] at hln hv
 rw[hq] at hmn hw
 subst hv hw
 have HL:=Hid.mk' hl
 have HM:=Hid.mk' hm
 have HN:=Hid.mk' hn
 have HQ:=Hid.mk' hq
 have OL:=Hid.mk' okl
 have OM:=Hid.mk' okm
 have g0:=World.grownBy_alloc w (.cells #[.int .i64 cI,.int .i64 cO,.int .i64 cJ] 23) none
 have g1:=World.grownBy_alloc (w.alloc (.cells #[.int .i64 cI,.int .i64 cO,.int .i64 cJ] 23)) (.cells #[.int .i64 dI,.int .i64 dO,.int .i64 dJ] 23) none
 have G1:=Hid.mk' (g0.trans g1)
 have AD:=Hid.mk' (At.new (w.alloc (.cells #[.int .i64 cI,.int .i64 cO,.int .i64 cJ] 23)) [.int .i64 dI,.int .i64 dO,.int .i64 dJ] 23)
 rw[show (w.alloc (.cells #[.int .i64 cI,.int .i64 cO,.int .i64 cJ] 23)).heap.size=w.heap.size+1 by simp] at AD
 have M1:=Hid.mk' fun W=>aGM cI cO cJ W h1
 have M2:=Hid.mk' fun W=>aGM dI dO dJ W h2
 clear g0 g1 h1 h2 hl hm hn hq okl okm
 go_enter func6,ntmps6
 go_wp2_with fail
 refine Calls.mono (M1.out _) ?_
 rintro e w1 ⟨b1,rfl,li1,g1⟩
 have a1:=AD.out.grown g1
 have c0:=a1.c 0 _ rfl
 have c1:=a1.c 1 _ rfl
 have c2:=a1.c 2 _ rfl
 have L1:Hid (LI w1 b1 (fun j=>w.heap.size<=j) 0):=li1.within (fun j _ e=>by simp at e;omega)
 have G2:=Hid.mk' (G1.out.trans g1)
 clear g1 a1 li1
 go_wp2_with fail
 refine Calls.mono (M2.out _) ?_
 rintro e w2 ⟨b2,rfl,li2,g2⟩
 have TW:=Hid.mk' (Two.new L1.out G2.out li2 g2)
 clear g2 li2 c0 c1 c2
 go_wp2_with fail
 go_loopw [10,13,14,15] (fun k i x y wr=>∃t:Nat,k=.bool true/\i=.int .i64 t/\t<=n+q/\(t<=n∨t<=q)/\Two w wr b1 b2 (4 * t) (4 * t)) (fun _ i _ _ _=>n+q+1 -(intOf i).toNat)
 case atStart=>exact ⟨0,rfl,rfl,by omega,by omega,TW.out⟩
 case round=>
  obtain ⟨t,rfl,rfl,ht,hor,tw⟩:=hrel
  have T:=Hid.mk' tw
  clear tw TW
  have y0:(0:Int)<=(t:Int):=by omega
  by_cases hA:t<n
  ·have hA':(t:Int)<(n:Int):=by omega
   have hkl:t<l.length:=by rw[HN.out];exact hA
   obtain ⟨g,off,rfl,hgl,hc⟩:=HL.out.row hkl
   obtain ⟨y,hy⟩:∃y,l[t]=y:=⟨_,rfl⟩
   rw[hy] at hc
   have d0:=hc wr T.out.o 0 _ (by omega) rfl
   have d1:=hc wr T.out.o 1 _ (by omega) rfl
   have d2:=hc wr T.out.o 2 _ (by omega) rfl
   have d3:=hc wr T.out.o 3 _ (by omega) rfl
   have d4:=hc wr T.out.o 4 _ (by omega) rfl
   have d5:=hc wr T.out.o 5 _ (by omega) rfl
   have d6:=hc wr T.out.o 6 _ (by omega) rfl
   have d7:=hc wr T.out.o 7 _ (by omega) rfl
   have d8:=hc wr T.out.o 8 _ (by omega) rfl
   rw[Nat.add_zero] at d0
   have AC1:=Hid.mk' (T.out.act (by omega) y (OL.out y (by rw[<- hy];exact List.getElem_mem hkl)))
   clear hc hy
   obtain ⟨K,sh,yk,mm,x,yy,pl,sp,tx⟩:=y
   simp only at d0 d1 d2 d3 d4 d5 d6 d7 d8 AC1
   go_wp2_with fail
   refine Calls.mono AC1.out ?_
   rintro e w3 ⟨rfl,t3⟩
   have T3:=Hid.mk' t3
   clear t3 d0 d1 d2 d3 d4 d5 d6 d7 d8 AC1
   by_cases hB:t<q
   ·have hB':(t:Int)<(q:Int):=by omega
    have hkm:t<m.length:=by rw[HQ.out];exact hB
    obtain ⟨g',off',rfl,hgl',hc'⟩:=HM.out.row hkm
    obtain ⟨y',hy'⟩:∃y,m[t]=y:=⟨_,rfl⟩
    rw[hy'] at hc'
    have d0:=hc' w3 T3.out.o 0 _ (by omega) rfl
    have d1:=hc' w3 T3.out.o 1 _ (by omega) rfl
    have d2:=hc' w3 T3.out.o 2 _ (by omega) rfl
    have d3:=hc' w3 T3.out.o 3 _ (by omega) rfl
    have d4:=hc' w3 T3.out.o 4 _ (by omega) rfl
    have d5:=hc' w3 T3.out.o 5 _ (by omega) rfl
    have d6:=hc' w3 T3.out.o 6 _ (by omega) rfl
    have d7:=hc' w3 T3.out.o 7 _ (by omega) rfl
    have d8:=hc' w3 T3.out.o 8 _ (by omega) rfl
    rw[Nat.add_zero] at d0
    have AC2:=Hid.mk' (T3.out.swap.act (by omega) y' (OM.out y' (by rw[<- hy'];exact List.getElem_mem hkm)))
    clear hc' hy'
    obtain ⟨K',sh',yk',mm',x',yy',pl',sp',tx'⟩:=y'
    simp only at d0 d1 d2 d3 d4 d5 d6 d7 d8 AC2
    go_wp2_with fail
    refine Calls.mono AC2.out ?_
    rintro e w4 ⟨rfl,t4⟩
    have T4:=Hid.mk' t4.swap
    clear t4 d0 d1 d2 d3 d4 d5 d6 d7 d8 AC2
    obtain ⟨bk,c1',lk1⟩:=T4.out.looks (by omega)
    have LK1:=Hid.mk' lk1
    clear lk1
    go_wp2_with fail
    refine Calls.mono LK1.out ?_
    rintro e w5 ⟨rfl,g5⟩
    have T5:=Hid.mk' (T4.out.grown g5)
    clear g5 c1'
    obtain ⟨bk2,c2',lk2⟩:=T5.out.swap.looks (by omega)
    have LK2:=Hid.mk' lk2
    clear lk2
    go_wp2_with fail
    refine Calls.mono LK2.out ?_
    rintro e w6 ⟨rfl,g6⟩
    have T6:=Hid.mk' ((T5.out.grown g6).mono (by omega:_<=4 * (t+1)) (by omega:_<=4 * (t+1)))
    clear g6 c2'
    go_wp2
    exact ⟨⟨t+1,rfl,by go_num,by omega,by omega,T6.out⟩,by simp[intOf];omega⟩
   ·have hB':¬(t:Int)<(q:Int):=by omega
    obtain ⟨bk,c1',lk1⟩:=T3.out.looks (by omega)
    have LK1:=Hid.mk' lk1
    clear lk1
    go_wp2_with fail
    refine Calls.mono LK1.out ?_
    rintro e w5 ⟨rfl,g5⟩
    have T5:=Hid.mk' (T3.out.grown g5)
    clear g5 c1'
    obtain ⟨bk2,c2',lk2⟩:=T5.out.swap.looks (by omega)
    have LK2:=Hid.mk' lk2
    clear lk2
    go_wp2_with fail
    refine Calls.mono LK2.out ?_
    rintro e w6 ⟨rfl,g6⟩
    have T6:=Hid.mk' ((T5.out.grown g6).mono (by omega:_<=4 * (t+1)) (by omega:_<=4 * (t+1)))
    clear g6 c2'
    go_wp2
    exact ⟨⟨t+1,rfl,by go_num,by omega,by omega,T6.out⟩,by simp[intOf];omega⟩
  ·have hA':¬(t:Int)<(n:Int):=by omega
   by_cases hB:t<q
   ·have hB':(t:Int)<(q:Int):=by omega
    have hkm:t<m.length:=by rw[HQ.out];exact hB
    obtain ⟨g',off',rfl,hgl',hc'⟩:=HM.out.row hkm
    obtain ⟨y',hy'⟩:∃y,m[t]=y:=⟨_,rfl⟩
    rw[hy'] at hc'
    have d0:=hc' wr T.out.o 0 _ (by omega) rfl
    have d1:=hc' wr T.out.o 1 _ (by omega) rfl
    have d2:=hc' wr T.out.o 2 _ (by omega) rfl
    have d3:=hc' wr T.out.o 3 _ (by omega) rfl
    have d4:=hc' wr T.out.o 4 _ (by omega) rfl
    have d5:=hc' wr T.out.o 5 _ (by omega) rfl
    have d6:=hc' wr T.out.o 6 _ (by omega) rfl
    have d7:=hc' wr T.out.o 7 _ (by omega) rfl
    have d8:=hc' wr T.out.o 8 _ (by omega) rfl
    rw[Nat.add_zero] at d0
    have AC2:=Hid.mk' (T.out.swap.act (by omega) y' (OM.out y' (by rw[<- hy'];exact List.getElem_mem hkm)))
    clear hc' hy'
    obtain ⟨K',sh',yk',mm',x',yy',pl',sp',tx'⟩:=y'
    simp only at d0 d1 d2 d3 d4 d5 d6 d7 d8 AC2
    go_wp2_with fail
    refine Calls.mono AC2.out ?_
    rintro e w4 ⟨rfl,t4⟩
    have T4:=Hid.mk' t4.swap
    clear t4 d0 d1 d2 d3 d4 d5 d6 d7 d8 AC2
    obtain ⟨bk,c1',lk1⟩:=T4.out.looks (by omega)
    have LK1:=Hid.mk' lk1
    clear lk1
    go_wp2_with fail
    refine Calls.mono LK1.out ?_
    rintro e w5 ⟨rfl,g5⟩
    have T5:=Hid.mk' (T4.out.grown g5)
    clear g5 c1'
    obtain ⟨bk2,c2',lk2⟩:=T5.out.swap.looks (by omega)
    have LK2:=Hid.mk' lk2
    clear lk2
    go_wp2_with fail
    refine Calls.mono LK2.out ?_
    rintro e w6 ⟨rfl,g6⟩
    have T6:=Hid.mk' ((T5.out.grown g6).mono (by omega:_<=4 * (t+1)) (by omega:_<=4 * (t+1)))
    clear g6 c2'
    go_wp2
    exact ⟨⟨t+1,rfl,by go_num,by omega,by omega,T6.out⟩,by simp[intOf];omega⟩
   ·have hB':¬(t:Int)<(q:Int):=by omega
    have LA:=Hid.mk' (T.out.last (by omega))
    go_wp2_with fail
    refine Calls.mono LA.out ?_
    rintro e w3 ⟨rfl,G,li,hG,o3⟩
    have LB:=Hid.mk' (aGL b2 _ G w3 li (by omega))
    have O3:=Hid.mk' o3
    have HG:=Hid.mk' hG
    clear li o3 hG
    go_wp2_with fail
    refine Calls.mono LB.out ?_
    rintro e w4 ⟨rfl,o4⟩
    go_wp2
    go_ret
    exact ⟨rfl,O3.out.trans (o4.mono (fun j _ e=>.inl (HG.out j e)))⟩
theorem apart_any (cI cO cJ dI dO dJ:Int)(v u:Value)(l m:List Ac)(w:World)(hl:LiesA w v l)(hm:LiesA w u m)(hln:l.length<=1048576)(hmn:m.length<=1048576)(okl:∀a∈l,a.Ok)(okm:∀a∈m,a.Ok):
  Calls prog 6 #[.agg #[.int .i64 cI,.int .i64 cO,.int .i64 cJ],.agg #[.int .i64 dI,.int .i64 dO,.int .i64 dJ],v,u] w fun e w'=>e=.returned (.bool true)/\Only w w' (fun j=>w.heap.size<=j):=by
 by_cases hv:mT cI cO cJ/\mT dI dO dJ
 ·exact apart_yes cI cO cJ dI dO dJ v u l m w hv.1 hv.2 hl hm hln hmn okl okm
 ·exact apart_no cI cO cJ dI dO dJ v u w hv
end Go.Proofs.YtammnaafdhhjaaaGreat
