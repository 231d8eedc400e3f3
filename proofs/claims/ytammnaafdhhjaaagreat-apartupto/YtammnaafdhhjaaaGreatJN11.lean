import Derived.Test.YtammnaafdhhjaaaGreatJN2
set_option maxHeartbeats 16000000
set_option maxRecDepth 100000
namespace Go.Proofs.YtammnaafdhhjaaaGreat
open Go.RowKit Go.Proofs.Tryz
theorem LP.li {w w':World}{bw bp bq bk:Nat}{A D R G:Nat->Prop}{p:Pr}{n:Nat}(h:LP w bw bp bq bk A D R p n)(hG:∀j,LF bw A D R j->G j)(g:w.grownBy w' none):LIn w w' bw G n:=LI.grew ⟨bp,bq,bk,A,D,R,p,h,hG⟩ g
theorem aDX (bw n:Nat)(G:Nat->Prop)(sh k m x y:Int)(pl sp:Nat)(t:ByteArray)(w:World)(h:LI w bw G n)(hn:n<=9000000):
  Calls prog 62 #[.pointer (some ⟨bw,0,none⟩),.agg #[.int .i64 14,.int .i64 sh,.int .i64 k,.int .i64 m,.int .i64 x,.int .i64 y,.float .f32 pl,.float .f32 sp,.string t]] w fun e w'=>e=.returned (.bool true)/\LIn w w' bw G (n+4):=by
 obtain ⟨bp,bq,bk,A,D,R,p,lm,hG⟩:=h
 have g0:=World.grownBy_alloc w (.cells #[.int .i64 14,.int .i64 sh,.int .i64 k,.int .i64 m,.int .i64 x,.int .i64 y,.float .f32 pl,.float .f32 sp,.string t] 35) none
 have LMH:=Hid.mk' lm
 have HG:=Hid.mk' hG
 have G0:=Hid.mk' g0
 have AX:=Hid.mk' (At.new w [.int .i64 14,.int .i64 sh,.int .i64 k,.int .i64 m,.int .i64 x,.int .i64 y,.float .f32 pl,.float .f32 sp,.string t] 35)
 have AW:=Hid.mk' (lm.lw.grown g0)
 have bwl:=lm.lw.lt
 clear lm g0 hG
 have QX:=Hid.mk' fun W (gW:w.grownBy W none)=>aGq (LMH.out.pw.grown gW) LMH.out.ds.gd sh
 have QY:=Hid.mk' fun W (gW:w.grownBy W none)=>aGE (LMH.out.ds.grown gW) sh
 have QO:=Hid.mk' (aGG LMH.out.ds.gd sh)
 have nnl:=aIi
 obtain ⟨z,hz⟩:∃z,p.upE sh=z:=⟨_,rfl⟩
 rw[hz] at QX QY
 obtain ⟨is,his⟩:∃is,p.world sh=is:=⟨_,rfl⟩
 rw[his] at QX QY QO
 have hzz:(z !=z)=false:=by simp
 clear hz his
 go_enter func62,ntmps62
 go_wp2_with fail
 refine wp_region_held_drew (S:=fun w'=>At w' bw (LC bp bq bk)/\At w' w.heap.size (AC 14 sh k m x y pl sp t)) (by kernel_rfl) (⟨AW.out.drew,AX.out.drew⟩) (fun hHeld=>?_)
 refine aN 0 ?_
 simp only[aF]
 refine aN 1 ?_
 simp only[aF]
 refine aN 2 ?_
 simp only[aF]
 refine bV 3 (fun _ h=>h.1.c 0 _ rfl) ?_
 simp only[aF]
 refine aN 4 ?_
 simp only[aF]
 refine bV 5 (fun _ h=>h.2.c 1 _ rfl) ?_
 simp only[aF]
 refine aX 6 (f:=14) (args:=#[.pointer (some ⟨bp,0,none⟩),.int .i64 sh]) (by kernel_rfl) (by rfl) (by rfl) (by go_simp) ?_
 refine Calls.mono (QX.out _ (aA G0.out)) ?_
 rintro e w1 ⟨v1,rfl,ov1,nil1,g1⟩
 have G1:=Hid.mk' ((aA G0.out).trans g1)
 have hS:At w1 bw (LC bp bq bk)/\At w1 w.heap.size (AC 14 sh k m x y pl sp t):=⟨hHeld.1.grown g1,hHeld.2.grown g1⟩
 have zv:=G0.out.size
 obtain ⟨a1,c1,rfl⟩:=aJ ov1
 have OV1:=Hid.mk' ov1
 have NIL1:=Hid.mk' nil1
 clear g1 ov1 nil1
 clear hHeld
 have hHeld:=hS
 refine ⟨_,rfl,hHeld,?_⟩
 simp only[aF]
 refine aN 7 ?_
 simp only[aF]
 refine aN 8 ?_
 simp only[aF]
 refine aN 9 ?_
 simp only[aF]
 refine aN 10 ?_
 simp only[aF]
 refine aN 11 ?_
 simp only[aF]
 refine wpAnyH_done (by kernel_rfl) ?_ _
 have HH:=Hid.mk' hHeld
 clear hHeld hS
 have H1:=HH
 clear HH
 go_wp2_with fail
 refine wp_region_held_drew (S:=fun w'=>At w' bw (LC bp bq bk)/\At w' w.heap.size (AC 14 sh k m x y pl sp t)) (by kernel_rfl) (⟨H1.out.1.drew,H1.out.2.drew⟩) (fun hHeld=>?_)
 refine aN 0 ?_
 simp only[aF]
 refine aN 1 ?_
 simp only[aF]
 refine aN 2 ?_
 simp only[aF]
 refine bV 3 (fun _ h=>h.1.c 1 _ rfl) ?_
 simp only[aF]
 refine aN 4 ?_
 simp only[aF]
 refine bV 5 (fun _ h=>h.2.c 1 _ rfl) ?_
 simp only[aF]
 refine aX 6 (f:=109) (args:=#[.pointer (some ⟨bq,0,none⟩),.int .i64 sh]) (by kernel_rfl) (by rfl) (by rfl) (by go_simp) ?_
 refine Calls.mono (QY.out _ (aA G1.out)) ?_
 rintro e w2 ⟨v2,rfl,ov2,g2⟩
 have G12:Hid (w1.grownBy w2 none):=(aA (aD _ _)).trans g2
 have G2:=Hid.mk' (G1.out.trans G12.out)
 have hS:At w2 bw (LC bp bq bk)/\At w2 w.heap.size (AC 14 sh k m x y pl sp t):=⟨hHeld.1.grown g2,hHeld.2.grown g2⟩
 obtain ⟨a2,c2,rfl⟩:=aJ ov2
 have OV2:=Hid.mk' ov2
 clear g2 ov2
 clear hHeld
 have hHeld:=hS
 refine ⟨_,rfl,hHeld,?_⟩
 simp only[aF]
 refine aN 7 ?_
 simp only[aF]
 refine aN 8 ?_
 simp only[aF]
 refine aN 9 ?_
 simp only[aF]
 refine aN 10 ?_
 simp only[aF]
 refine aN 11 ?_
 simp only[aF]
 refine wpAnyH_done (by kernel_rfl) ?_ _
 have HH:=Hid.mk' hHeld
 clear hHeld hS
 go_wp2_with fail
 refine Calls.mono (sT _ _ is _ (Lies.of_own (aO OV1.out G12.out)) (Lies.of_own OV2.out) (by have:=QO.out.1;omega) QO.out.2) ?_
 rintro e w3 ⟨rfl,g3⟩
 have G3:=Hid.mk' (G2.out.trans g3)
 have OV3:=Hid.mk' (aO (aO OV1.out G12.out) g3)
 have h3:=HH.out.1.grown g3
 have x2:=h3.c 2 _ rfl
 have L3:=LMH.out.grown G3.out
 obtain ⟨nI,nE,nT,m1,m2,m3,hb⟩:=L3.bo
 have zz:w.heap.size<(w.alloc (.cells #[.int .i64 14,.int .i64 sh,.int .i64 k,.int .i64 m,.int .i64 x,.int .i64 y,.float .f32 pl,.float .f32 sp,.string t] 35)).drew.heap.size:=by simp
 have hl:∀j,Value.ownBlock (.slice a1 is.length c1)=some j->w.heap.size<j:=fun j hj=>by have h1:=(OV3.out.lt j hj).1;omega
 have nR:∀j,Value.ownBlock (.slice a1 is.length c1)=some j->¬R j:=fun j hj e=>by have:=(LMH.out.lr j e).1;have:=hl j hj;omega
 have OWN:=Hid.mk' (hb.items (by omega) (.slice a1 is.length c1) is OV3.out (by have:=QO.out.1;omega) (fun e=>nR _ e (by obtain ⟨_,_,_,_,_,_,_,_,_,b,_⟩:=hb;exact b.rb)) nR)
 have HLH:=Hid.mk' hl
 have M123:Hid (nI<=n/\nE<=n/\nT<=n):=⟨m1,m2,m3⟩
 clear L3 hb h3 g3 hl nR m1 m2 m3
 by_cases hz0:z=0
 ·have hzn:(z !=0)=false:=by simpa using hz0
  go_wp2_with fail
  refine Calls.mono OWN.out ?_
  rintro e w4 ⟨rfl,bk4,o4⟩
  go_wp2
  go_ret
  exact ⟨rfl,LMH.out.booked G3.out (fun j hj=>Nat.le_of_lt (HLH.out j hj)) ⟨_,_,_,by have:=M123.out;omega,by have:=M123.out;omega,by have:=M123.out;omega,bk4⟩ o4 HG.out⟩
 ·have hzn:(z !=0)=true:=by simpa using hz0
  have e1:=NIL1.out hz0
  injection e1 with e1 e2 e3
  subst e1 e3
  generalize hL:is.length=L at *
  obtain rfl:L=0:=by omega
  go_wp2_with fail
  refine Calls.mono OWN.out ?_
  rintro e w4 ⟨rfl,bk4,o4⟩
  go_wp2
  go_ret
  exact ⟨rfl,LMH.out.booked G3.out (fun j hj=>Nat.le_of_lt (HLH.out j hj)) ⟨_,_,_,by have:=M123.out;omega,by have:=M123.out;omega,by have:=M123.out;omega,bk4⟩ o4 HG.out⟩
theorem aBn (bw n:Nat)(G:Nat->Prop)(sh k m x y:Int)(pl sp:Nat)(t:ByteArray)(w:World)(h:LI w bw G n)(hn:n<=9000000):
  Calls prog 62 #[.pointer (some ⟨bw,0,none⟩),.agg #[.int .i64 15,.int .i64 sh,.int .i64 k,.int .i64 m,.int .i64 x,.int .i64 y,.float .f32 pl,.float .f32 sp,.string t]] w fun e w'=>e=.returned (.bool true)/\LIn w w' bw G (n+4):=by
 obtain ⟨bp,bq,bk,A,D,R,p,lm,hG⟩:=h
 have g0:=World.grownBy_alloc w (.cells #[.int .i64 15,.int .i64 sh,.int .i64 k,.int .i64 m,.int .i64 x,.int .i64 y,.float .f32 pl,.float .f32 sp,.string t] 35) none
 have LMH:=Hid.mk' lm
 have HG:=Hid.mk' hG
 have G0:=Hid.mk' g0
 have AX:=Hid.mk' (At.new w [.int .i64 15,.int .i64 sh,.int .i64 k,.int .i64 m,.int .i64 x,.int .i64 y,.float .f32 pl,.float .f32 sp,.string t] 35)
 have AW:=Hid.mk' (lm.lw.grown g0)
 have bwl:=lm.lw.lt
 clear lm g0 hG
 have QX:=Hid.mk' fun W (gW:w.grownBy W none)=>aDD (LMH.out.pw.grown gW) LMH.out.ds.gd sh
 have QY:=Hid.mk' fun W (gW:w.grownBy W none)=>aDS (LMH.out.ds.grown gW) sh
 have QO:=Hid.mk' (aDW LMH.out.ds.gd sh)
 have nnl:=aIj
 obtain ⟨z,hz⟩:∃z,p.upE sh=z:=⟨_,rfl⟩
 rw[hz] at QX QY
 obtain ⟨is,his⟩:∃is,p.outbox sh=is:=⟨_,rfl⟩
 rw[his] at QX QY QO
 have hzz:(z !=z)=false:=by simp
 clear hz his
 go_enter func62,ntmps62
 go_wp2_with fail
 refine wp_region_held_drew (S:=fun w'=>At w' bw (LC bp bq bk)/\At w' w.heap.size (AC 15 sh k m x y pl sp t)) (by kernel_rfl) (⟨AW.out.drew,AX.out.drew⟩) (fun hHeld=>?_)
 refine aN 0 ?_
 simp only[aF]
 refine aN 1 ?_
 simp only[aF]
 refine aN 2 ?_
 simp only[aF]
 refine bV 3 (fun _ h=>h.1.c 0 _ rfl) ?_
 simp only[aF]
 refine aN 4 ?_
 simp only[aF]
 refine bV 5 (fun _ h=>h.2.c 1 _ rfl) ?_
 simp only[aF]
 refine aX 6 (f:=15) (args:=#[.pointer (some ⟨bp,0,none⟩),.int .i64 sh]) (by kernel_rfl) (by rfl) (by rfl) (by go_simp) ?_
 refine Calls.mono (QX.out _ (aA G0.out)) ?_
 rintro e w1 ⟨v1,rfl,ov1,nil1,g1⟩
 have G1:=Hid.mk' ((aA G0.out).trans g1)
 have hS:At w1 bw (LC bp bq bk)/\At w1 w.heap.size (AC 15 sh k m x y pl sp t):=⟨hHeld.1.grown g1,hHeld.2.grown g1⟩
 have zv:=G0.out.size
 obtain ⟨a1,c1,rfl⟩:=aJ ov1
 have OV1:=Hid.mk' ov1
 have NIL1:=Hid.mk' nil1
 clear g1 ov1 nil1
 clear hHeld
 have hHeld:=hS
 refine ⟨_,rfl,hHeld,?_⟩
 simp only[aF]
 refine aN 7 ?_
 simp only[aF]
 refine aN 8 ?_
 simp only[aF]
 refine aN 9 ?_
 simp only[aF]
 refine aN 10 ?_
 simp only[aF]
 refine aN 11 ?_
 simp only[aF]
 refine wpAnyH_done (by kernel_rfl) ?_ _
 have HH:=Hid.mk' hHeld
 clear hHeld hS
 have H1:=HH
 clear HH
 go_wp2_with fail
 refine wp_region_held_drew (S:=fun w'=>At w' bw (LC bp bq bk)/\At w' w.heap.size (AC 15 sh k m x y pl sp t)) (by kernel_rfl) (⟨H1.out.1.drew,H1.out.2.drew⟩) (fun hHeld=>?_)
 refine aN 0 ?_
 simp only[aF]
 refine aN 1 ?_
 simp only[aF]
 refine aN 2 ?_
 simp only[aF]
 refine bV 3 (fun _ h=>h.1.c 1 _ rfl) ?_
 simp only[aF]
 refine aN 4 ?_
 simp only[aF]
 refine bV 5 (fun _ h=>h.2.c 1 _ rfl) ?_
 simp only[aF]
 refine aX 6 (f:=111) (args:=#[.pointer (some ⟨bq,0,none⟩),.int .i64 sh]) (by kernel_rfl) (by rfl) (by rfl) (by go_simp) ?_
 refine Calls.mono (QY.out _ (aA G1.out)) ?_
 rintro e w2 ⟨v2,rfl,ov2,g2⟩
 have G12:Hid (w1.grownBy w2 none):=(aA (aD _ _)).trans g2
 have G2:=Hid.mk' (G1.out.trans G12.out)
 have hS:At w2 bw (LC bp bq bk)/\At w2 w.heap.size (AC 15 sh k m x y pl sp t):=⟨hHeld.1.grown g2,hHeld.2.grown g2⟩
 obtain ⟨a2,c2,rfl⟩:=aJ ov2
 have OV2:=Hid.mk' ov2
 clear g2 ov2
 clear hHeld
 have hHeld:=hS
 refine ⟨_,rfl,hHeld,?_⟩
 simp only[aF]
 refine aN 7 ?_
 simp only[aF]
 refine aN 8 ?_
 simp only[aF]
 refine aN 9 ?_
 simp only[aF]
 refine aN 10 ?_
 simp only[aF]
 refine aN 11 ?_
 simp only[aF]
 refine wpAnyH_done (by kernel_rfl) ?_ _
 have HH:=Hid.mk' hHeld
 clear hHeld hS
 go_wp2_with fail
 refine Calls.mono (qE _ _ is _ (Lies.of_own (aO OV1.out G12.out)) (Lies.of_own OV2.out) (by have:=QO.out.1;omega) QO.out.2) ?_
 rintro e w3 ⟨rfl,g3⟩
 have G3:=Hid.mk' (G2.out.trans g3)
 have OV3:=Hid.mk' (aO (aO OV1.out G12.out) g3)
 have h3:=HH.out.1.grown g3
 have x2:=h3.c 2 _ rfl
 have L3:=LMH.out.grown G3.out
 obtain ⟨nI,nE,nT,m1,m2,m3,hb⟩:=L3.bo
 have zz:w.heap.size<(w.alloc (.cells #[.int .i64 15,.int .i64 sh,.int .i64 k,.int .i64 m,.int .i64 x,.int .i64 y,.float .f32 pl,.float .f32 sp,.string t] 35)).drew.heap.size:=by simp
 have hl:∀j,Value.ownBlock (.slice a1 is.length c1)=some j->w.heap.size<j:=fun j hj=>by have h1:=(OV3.out.lt j hj).1;omega
 have nR:∀j,Value.ownBlock (.slice a1 is.length c1)=some j->¬R j:=fun j hj e=>by have:=(LMH.out.lr j e).1;have:=hl j hj;omega
 have OWN:=Hid.mk' (hb.entries (by omega) (.slice a1 is.length c1) is OV3.out (by have:=QO.out.1;omega) (fun e=>nR _ e (by obtain ⟨_,_,_,_,_,_,_,_,_,b,_⟩:=hb;exact b.rb)) nR)
 have HLH:=Hid.mk' hl
 have M123:Hid (nI<=n/\nE<=n/\nT<=n):=⟨m1,m2,m3⟩
 clear L3 hb h3 g3 hl nR m1 m2 m3
 by_cases hz0:z=0
 ·have hzn:(z !=0)=false:=by simpa using hz0
  go_wp2_with fail
  refine Calls.mono OWN.out ?_
  rintro e w4 ⟨rfl,bk4,o4⟩
  go_wp2
  go_ret
  exact ⟨rfl,LMH.out.booked G3.out (fun j hj=>Nat.le_of_lt (HLH.out j hj)) ⟨_,_,_,by have:=M123.out;omega,by have:=M123.out;omega,by have:=M123.out;omega,bk4⟩ o4 HG.out⟩
 ·have hzn:(z !=0)=true:=by simpa using hz0
  have e1:=NIL1.out hz0
  injection e1 with e1 e2 e3
  subst e1 e3
  generalize hL:is.length=L at *
  obtain rfl:L=0:=by omega
  go_wp2_with fail
  refine Calls.mono OWN.out ?_
  rintro e w4 ⟨rfl,bk4,o4⟩
  go_wp2
  go_ret
  exact ⟨rfl,LMH.out.booked G3.out (fun j hj=>Nat.le_of_lt (HLH.out j hj)) ⟨_,_,_,by have:=M123.out;omega,by have:=M123.out;omega,by have:=M123.out;omega,bk4⟩ o4 HG.out⟩
theorem aBo (bw n:Nat)(G:Nat->Prop)(sh k m x y:Int)(pl sp:Nat)(t:ByteArray)(w:World)(h:LI w bw G n)(hn:n<=9000000):
  Calls prog 62 #[.pointer (some ⟨bw,0,none⟩),.agg #[.int .i64 17,.int .i64 sh,.int .i64 k,.int .i64 m,.int .i64 x,.int .i64 y,.float .f32 pl,.float .f32 sp,.string t]] w fun e w'=>e=.returned (.bool true)/\LIn w w' bw G (n+4):=by
 obtain ⟨bp,bq,bk,A,D,R,p,lm,hG⟩:=h
 have g0:=World.grownBy_alloc w (.cells #[.int .i64 17,.int .i64 sh,.int .i64 k,.int .i64 m,.int .i64 x,.int .i64 y,.float .f32 pl,.float .f32 sp,.string t] 35) none
 have LMH:=Hid.mk' lm
 have HG:=Hid.mk' hG
 have G0:=Hid.mk' g0
 have AX:=Hid.mk' (At.new w [.int .i64 17,.int .i64 sh,.int .i64 k,.int .i64 m,.int .i64 x,.int .i64 y,.float .f32 pl,.float .f32 sp,.string t] 35)
 have AW:=Hid.mk' (lm.lw.grown g0)
 have bwl:=lm.lw.lt
 clear lm g0 hG
 have QX:=Hid.mk' fun W (gW:w.grownBy W none)=>aDT (LMH.out.pw.grown gW) sh
 have QY:=Hid.mk' fun W (gW:w.grownBy W none)=>aDU (LMH.out.ds.grown gW) sh
 have QO:=Hid.mk' (aDV LMH.out.ds sh)
 have nnl:=aIk
 obtain ⟨z,hz⟩:∃z,flZ sh=z:=⟨_,rfl⟩
 rw[hz] at QX QY
 obtain ⟨is,his⟩:∃is,p.flT sh=is:=⟨_,rfl⟩
 rw[his] at QX QY QO
 have hzz:(z !=z)=false:=by simp
 clear hz his
 go_enter func62,ntmps62
 go_wp2_with fail
 refine wp_region_held_drew (S:=fun w'=>At w' bw (LC bp bq bk)/\At w' w.heap.size (AC 17 sh k m x y pl sp t)) (by kernel_rfl) (⟨AW.out.drew,AX.out.drew⟩) (fun hHeld=>?_)
 refine aN 0 ?_
 simp only[aF]
 refine aN 1 ?_
 simp only[aF]
 refine aN 2 ?_
 simp only[aF]
 refine bV 3 (fun _ h=>h.1.c 0 _ rfl) ?_
 simp only[aF]
 refine aN 4 ?_
 simp only[aF]
 refine bV 5 (fun _ h=>h.2.c 1 _ rfl) ?_
 simp only[aF]
 refine aX 6 (f:=114) (args:=#[.pointer (some ⟨bp,0,none⟩),.int .i64 sh]) (by kernel_rfl) (by rfl) (by rfl) (by go_simp) ?_
 refine Calls.mono (QX.out _ (aA G0.out)) ?_
 rintro e w1 ⟨v1,rfl,ov1,nil1,g1⟩
 have G1:=Hid.mk' ((aA G0.out).trans g1)
 have hS:At w1 bw (LC bp bq bk)/\At w1 w.heap.size (AC 17 sh k m x y pl sp t):=⟨hHeld.1.grown g1,hHeld.2.grown g1⟩
 have zv:=G0.out.size
 obtain ⟨a1,c1,rfl⟩:=aJ ov1
 have OV1:=Hid.mk' ov1
 have NIL1:=Hid.mk' nil1
 clear g1 ov1 nil1
 clear hHeld
 have hHeld:=hS
 refine ⟨_,rfl,hHeld,?_⟩
 simp only[aF]
 refine aN 7 ?_
 simp only[aF]
 refine aN 8 ?_
 simp only[aF]
 refine aN 9 ?_
 simp only[aF]
 refine aN 10 ?_
 simp only[aF]
 refine aN 11 ?_
 simp only[aF]
 refine wpAnyH_done (by kernel_rfl) ?_ _
 have HH:=Hid.mk' hHeld
 clear hHeld hS
 have H1:=HH
 clear HH
 go_wp2_with fail
 refine wp_region_held_drew (S:=fun w'=>At w' bw (LC bp bq bk)/\At w' w.heap.size (AC 17 sh k m x y pl sp t)) (by kernel_rfl) (⟨H1.out.1.drew,H1.out.2.drew⟩) (fun hHeld=>?_)
 refine aN 0 ?_
 simp only[aF]
 refine aN 1 ?_
 simp only[aF]
 refine aN 2 ?_
 simp only[aF]
 refine bV 3 (fun _ h=>h.1.c 1 _ rfl) ?_
 simp only[aF]
 refine aN 4 ?_
 simp only[aF]
 refine bV 5 (fun _ h=>h.2.c 1 _ rfl) ?_
 simp only[aF]
 refine aX 6 (f:=115) (args:=#[.pointer (some ⟨bq,0,none⟩),.int .i64 sh]) (by kernel_rfl) (by rfl) (by rfl) (by go_simp) ?_
 refine Calls.mono (QY.out _ (aA G1.out)) ?_
 rintro e w2 ⟨v2,rfl,ov2,g2⟩
 have G12:Hid (w1.grownBy w2 none):=(aA (aD _ _)).trans g2
 have G2:=Hid.mk' (G1.out.trans G12.out)
 have hS:At w2 bw (LC bp bq bk)/\At w2 w.heap.size (AC 17 sh k m x y pl sp t):=⟨hHeld.1.grown g2,hHeld.2.grown g2⟩
 obtain ⟨a2,c2,rfl⟩:=aJ ov2
 have OV2:=Hid.mk' ov2
 clear g2 ov2
 clear hHeld
 have hHeld:=hS
 refine ⟨_,rfl,hHeld,?_⟩
 simp only[aF]
 refine aN 7 ?_
 simp only[aF]
 refine aN 8 ?_
 simp only[aF]
 refine aN 9 ?_
 simp only[aF]
 refine aN 10 ?_
 simp only[aF]
 refine aN 11 ?_
 simp only[aF]
 refine wpAnyH_done (by kernel_rfl) ?_ _
 have HH:=Hid.mk' hHeld
 clear hHeld hS
 go_wp2_with fail
 refine Calls.mono (tF _ _ is _ (aO OV1.out G12.out) OV2.out (by have:=QO.out;omega)) ?_
 rintro e w3 ⟨rfl,g3⟩
 have G3:=Hid.mk' (G2.out.trans g3)
 have OV3:=Hid.mk' (aO (aO OV1.out G12.out) g3)
 have h3:=HH.out.1.grown g3
 have x2:=h3.c 2 _ rfl
 have L3:=LMH.out.grown G3.out
 obtain ⟨nI,nE,nT,m1,m2,m3,hb⟩:=L3.bo
 have zz:w.heap.size<(w.alloc (.cells #[.int .i64 17,.int .i64 sh,.int .i64 k,.int .i64 m,.int .i64 x,.int .i64 y,.float .f32 pl,.float .f32 sp,.string t] 35)).drew.heap.size:=by simp
 have hl:∀j,Value.ownBlock (.slice a1 is.length c1)=some j->w.heap.size<j:=fun j hj=>by have h1:=(OV3.out.lt j hj).1;omega
 have nR:∀j,Value.ownBlock (.slice a1 is.length c1)=some j->¬R j:=fun j hj e=>by have:=(LMH.out.lr j e).1;have:=hl j hj;omega
 have OWN:=Hid.mk' (hb.textsL (by omega) (.slice a1 is.length c1) is OV3.out (by have:=QO.out;omega) (fun e=>nR _ e (by obtain ⟨_,_,_,_,_,_,_,_,_,b,_⟩:=hb;exact b.rb)) nR)
 have HLH:=Hid.mk' hl
 have M123:Hid (nI<=n/\nE<=n/\nT<=n):=⟨m1,m2,m3⟩
 clear L3 hb h3 g3 hl nR m1 m2 m3
 by_cases hz0:z=0
 ·have hzn:(z !=0)=false:=by simpa using hz0
  go_wp2_with fail
  refine Calls.mono OWN.out ?_
  rintro e w4 ⟨rfl,bk4,o4⟩
  go_wp2
  go_ret
  exact ⟨rfl,LMH.out.booked G3.out (fun j hj=>Nat.le_of_lt (HLH.out j hj)) ⟨_,_,_,by have:=M123.out;omega,by have:=M123.out;omega,by have:=M123.out;omega,bk4⟩ o4 HG.out⟩
 ·have hzn:(z !=0)=true:=by simpa using hz0
  have e1:=NIL1.out hz0
  injection e1 with e1 e2 e3
  subst e1 e3
  generalize hL:is.length=L at *
  obtain rfl:L=0:=by omega
  go_wp2_with fail
  refine Calls.mono OWN.out ?_
  rintro e w4 ⟨rfl,bk4,o4⟩
  go_wp2
  go_ret
  exact ⟨rfl,LMH.out.booked G3.out (fun j hj=>Nat.le_of_lt (HLH.out j hj)) ⟨_,_,_,by have:=M123.out;omega,by have:=M123.out;omega,by have:=M123.out;omega,bk4⟩ o4 HG.out⟩
theorem aGH (bw n:Nat)(G:Nat->Prop)(sh k m x y:Int)(pl sp:Nat)(t:ByteArray)(w:World)(h:LI w bw G n)(hn:n<=9000000):
  Calls prog 62 #[.pointer (some ⟨bw,0,none⟩),.agg #[.int .i64 18,.int .i64 sh,.int .i64 k,.int .i64 m,.int .i64 x,.int .i64 y,.float .f32 pl,.float .f32 sp,.string t]] w fun e w'=>e=.returned (.bool true)/\LIn w w' bw G (n+4):=by
 obtain ⟨bp,bq,bk,A,D,R,p,lm,hG⟩:=h
 have g0:=World.grownBy_alloc w (.cells #[.int .i64 18,.int .i64 sh,.int .i64 k,.int .i64 m,.int .i64 x,.int .i64 y,.float .f32 pl,.float .f32 sp,.string t] 35) none
 have LMH:=Hid.mk' lm
 have HG:=Hid.mk' hG
 have G0:=Hid.mk' g0
 have AX:=Hid.mk' (At.new w [.int .i64 18,.int .i64 sh,.int .i64 k,.int .i64 m,.int .i64 x,.int .i64 y,.float .f32 pl,.float .f32 sp,.string t] 35)
 have AW:=Hid.mk' (lm.lw.grown g0)
 have bwl:=lm.lw.lt
 clear lm g0 hG
 have QX:=Hid.mk' fun W (gW:w.grownBy W none)=>aIl (LMH.out.pw.grown gW) sh k
 have QY:=Hid.mk' fun W (gW:w.grownBy W none)=>aIm (LMH.out.ds.grown gW) sh k
 generalize p.fileT sh k=T at *
 generalize zJ sh k=z at *
 have hzz:(z==z)=true:=by simp
 have hn':=hn
 clear hn
 go_enter func62,ntmps62
 go_wp2_with fail
 refine wp_region_held_drew (S:=fun w'=>At w' bw (LC bp bq bk)/\At w' w.heap.size (AC 18 sh k m x y pl sp t)) (by kernel_rfl) (⟨AW.out.drew,AX.out.drew⟩) (fun hHeld=>?_)
 refine aN 0 ?_
 simp only[aF]
 refine aN 1 ?_
 simp only[aF]
 refine aN 2 ?_
 simp only[aF]
 refine bV 3 (fun _ h=>h.1.c 0 _ rfl) ?_
 simp only[aF]
 refine aN 4 ?_
 simp only[aF]
 refine bV 5 (fun _ h=>h.2.c 1 _ rfl) ?_
 simp only[aF]
 refine aN 6 ?_
 simp only[aF]
 refine bV 7 (fun _ h=>h.2.c 2 _ rfl) ?_
 simp only[aF]
 refine aX 8 (f:=118) (args:=#[.pointer (some ⟨bp,0,none⟩),.int .i64 sh,.int .i64 k]) (by kernel_rfl) (by rfl) (by rfl) (by go_simp) ?_
 refine Calls.mono (QX.out _ (aA G0.out)) ?_
 rintro e w1 ⟨rfl,rfl⟩
 have hS:=hHeld
 clear hHeld
 have hHeld:=hS
 refine ⟨_,rfl,hHeld,?_⟩
 simp only[aF]
 refine aN 9 ?_
 simp only[aF]
 refine aN 10 ?_
 simp only[aF]
 refine aN 11 ?_
 simp only[aF]
 refine aN 12 ?_
 simp only[aF]
 refine aN 13 ?_
 simp only[aF]
 refine wpAnyH_done (by kernel_rfl) ?_ _
 have HH:=Hid.mk' hHeld
 clear hHeld hS
 have H1:=HH
 clear HH
 go_wp2_with fail
 refine wp_region_held_drew (S:=fun w'=>At w' bw (LC bp bq bk)/\At w' w.heap.size (AC 18 sh k m x y pl sp t)) (by kernel_rfl) (⟨H1.out.1.drew,H1.out.2.drew⟩) (fun hHeld=>?_)
 refine aN 0 ?_
 simp only[aF]
 refine aN 1 ?_
 simp only[aF]
 refine aN 2 ?_
 simp only[aF]
 refine bV 3 (fun _ h=>h.1.c 1 _ rfl) ?_
 simp only[aF]
 refine aN 4 ?_
 simp only[aF]
 refine bV 5 (fun _ h=>h.2.c 1 _ rfl) ?_
 simp only[aF]
 refine aN 6 ?_
 simp only[aF]
 refine bV 7 (fun _ h=>h.2.c 2 _ rfl) ?_
 simp only[aF]
 refine aX 8 (f:=119) (args:=#[.pointer (some ⟨bq,0,none⟩),.int .i64 sh,.int .i64 k]) (by kernel_rfl) (by rfl) (by rfl) (by go_simp) ?_
 refine Calls.mono (QY.out _ (aA (aA G0.out))) ?_
 rintro e w2 ⟨rfl,rfl⟩
 have hS:=hHeld
 clear hHeld
 have hHeld:=hS
 refine ⟨_,rfl,hHeld,?_⟩
 simp only[aF]
 refine aN 9 ?_
 simp only[aF]
 refine aN 10 ?_
 simp only[aF]
 refine aN 11 ?_
 simp only[aF]
 refine aN 12 ?_
 simp only[aF]
 refine aN 13 ?_
 simp only[aF]
 refine wpAnyH_done (by kernel_rfl) ?_ _
 have HH:=Hid.mk' hHeld
 clear hHeld hS
 go_wp2
 go_ret
 exact ⟨rfl,(LMH.out.li HG.out (aA (aA G0.out))).mono (by omega)⟩
theorem aGI (bw n:Nat)(G:Nat->Prop)(K sh k m x y:Int)(pl sp:Nat)(t:ByteArray)(w:World)(h:LI w bw G n)(hK:∀c:Int,14<=c->c<=18->K≠c):
  Calls prog 62 #[.pointer (some ⟨bw,0,none⟩),.agg #[.int .i64 K,.int .i64 sh,.int .i64 k,.int .i64 m,.int .i64 x,.int .i64 y,.float .f32 pl,.float .f32 sp,.string t]] w fun e w'=>e=.returned (.bool true)/\LIn w w' bw G (n+4):=by
 obtain ⟨bp,bq,bk,A,D,R,p,lm,hG⟩:=h
 have g0:=World.grownBy_alloc w (.cells #[.int .i64 K,.int .i64 sh,.int .i64 k,.int .i64 m,.int .i64 x,.int .i64 y,.float .f32 pl,.float .f32 sp,.string t] 35) none
 have LMH:=Hid.mk' lm
 have HG:=Hid.mk' hG
 have G0:=Hid.mk' g0
 have AX:=Hid.mk' (At.new w [.int .i64 K,.int .i64 sh,.int .i64 k,.int .i64 m,.int .i64 x,.int .i64 y,.float .f32 pl,.float .f32 sp,.string t] 35)
 have AW:=Hid.mk' (lm.lw.grown g0)
 have bwl:=lm.lw.lt
 clear lm g0 hG
 have e14:(K==14)=false:=by have:=hK 14 (by omega) (by omega);simpa using this
 have e15:(K==15)=false:=by have:=hK 15 (by omega) (by omega);simpa using this
 have e16:(K==16)=false:=by have:=hK 16 (by omega) (by omega);simpa using this
 have e17:(K==17)=false:=by have:=hK 17 (by omega) (by omega);simpa using this
 have e18:(K==18)=false:=by have:=hK 18 (by omega) (by omega);simpa using this
 clear hK
 go_enter func62,ntmps62
 go_wp2
 go_ret
 exact ⟨rfl,(LMH.out.li HG.out G0.out).mono (by omega)⟩
theorem aDY (bw n:Nat)(G:Nat->Prop)(sh k m x y:Int)(pl sp:Nat)(t:ByteArray)(w:World)(h:LI w bw G n):
  Calls prog 62 #[.pointer (some ⟨bw,0,none⟩),.agg #[.int .i64 16,.int .i64 sh,.int .i64 k,.int .i64 m,.int .i64 x,.int .i64 y,.float .f32 pl,.float .f32 sp,.string t]] w fun e w'=>e=.returned (.bool true)/\LIn w w' bw G (n+4):=by
 obtain ⟨bp,bq,bk,A,D,R,p,lm,hG⟩:=h
 have g0:=World.grownBy_alloc w (.cells #[.int .i64 16,.int .i64 sh,.int .i64 k,.int .i64 m,.int .i64 x,.int .i64 y,.float .f32 pl,.float .f32 sp,.string t] 35) none
 have LMH:=Hid.mk' lm
 have HG:=Hid.mk' hG
 have G0:=Hid.mk' g0
 have AX:=Hid.mk' (At.new w [.int .i64 16,.int .i64 sh,.int .i64 k,.int .i64 m,.int .i64 x,.int .i64 y,.float .f32 pl,.float .f32 sp,.string t] 35)
 have AW:=Hid.mk' (lm.lw.grown g0)
 have bwl:=lm.lw.lt
 clear lm g0 hG
 have QX:=Hid.mk' fun W (gW:w.grownBy W none)=>aGp (LMH.out.pw.grown gW) sh
 have QY:=Hid.mk' fun W (gW:w.grownBy W none)=>aGF (LMH.out.ds.grown gW) sh
 obtain ⟨z,hz⟩:∃z,p.upE sh=z:=⟨_,rfl⟩
 obtain ⟨mm,hmm⟩:∃mm,p.marks sh=mm:=⟨_,rfl⟩
 rw[hz,hmm] at QX QY
 obtain ⟨v0,v1,v2,v3,v4⟩:=mm
 unfold mkV at QX QY
 simp only at QX QY
 have hzz:(z==z)=true:=by simp
 clear hz hmm
 go_enter func62,ntmps62
 go_wp2_with fail
 refine wp_region_held_drew (S:=fun w'=>At w' bw (LC bp bq bk)/\At w' w.heap.size (AC 16 sh k m x y pl sp t)/\True) (by kernel_rfl) (⟨AW.out.drew,AX.out.drew,trivial⟩) (fun hHeld=>?_)
 refine aN 0 ?_
 simp only[aF]
 refine aN 1 ?_
 simp only[aF]
 refine aN 2 ?_
 simp only[aF]
 refine bV 3 (fun _ h=>h.1.c 0 _ rfl) ?_
 simp only[aF]
 refine aN 4 ?_
 simp only[aF]
 refine bV 5 (fun _ h=>h.2.1.c 1 _ rfl) ?_
 simp only[aF]
 refine qP 6 10 (f:=16) (args:=#[.pointer (some ⟨bp,0,none⟩),.int .i64 sh]) (by kernel_rfl) (by rfl) (by rfl) (by go_simp) (by rfl) (by rfl) ?_ ?_
 refine Calls.mono (QX.out _ (aA G0.out)) ?_
 rintro e w1 ⟨rfl,g1⟩
 have hS:At w1 bw (LC bp bq bk)/\At w1 w.heap.size (AC 16 sh k m x y pl sp t)/\True:=⟨hHeld.1.grown g1,hHeld.2.1.grown g1,trivial⟩
 have GG:Hid (w.grownBy w1 none):=(aA G0.out).trans g1
 clear hHeld
 have hHeld:=hS
 refine ⟨_,rfl,hHeld,?_⟩
 simp only[aF]
 refine aN 7 ?_
 simp only[aF]
 refine aN 8 ?_
 simp only[aF]
 refine aN 9 ?_
 simp only[aF]
 refine fV 10 (by kernel_rfl) (by rfl) (by rfl) ?_
 intro K hK
 go_simp
 refine hK _ _ ⟨hHeld.1.alloc _,hHeld.2.1.alloc _,trivial⟩ ?_
 clear hK K
 refine fV 11 (by kernel_rfl) (by rfl) (by rfl) ?_
 intro K hK
 go_simp
 refine hK _ _ ⟨hHeld.1.alloc _,hHeld.2.1.alloc _,trivial⟩ ?_
 clear hK K
 replace hHeld:At (w1.alloc (.cells #[.int .i64 v0,.int .i64 v1,.int .i64 v2,.int .i64 v3,.int .i64 v4] 44)) bw [.pointer (some ⟨bp,0,none⟩),.pointer (some ⟨bq,0,none⟩),.pointer (some ⟨bk,0,none⟩)]/\At (w1.alloc (.cells #[.int .i64 v0,.int .i64 v1,.int .i64 v2,.int .i64 v3,.int .i64 v4] 44)) w.heap.size [.int .i64 16,.int .i64 sh,.int .i64 k,.int .i64 m,.int .i64 x,.int .i64 y,.float .f32 pl,.float .f32 sp,.string t]/\True:=⟨hHeld.1.alloc _,hHeld.2.1.alloc _,trivial⟩
 refine aN 12 ?_
 simp only[aF]
 refine wpAnyH_done (by kernel_rfl) ?_ _
 have XA1:Hid (At (w1.alloc (.cells #[.int .i64 v0,.int .i64 v1,.int .i64 v2,.int .i64 v3,.int .i64 v4] 44)) w1.heap.size [.int .i64 v0,.int .i64 v1,.int .i64 v2,.int .i64 v3,.int .i64 v4]):=Hid.mk' (At.new w1 [.int .i64 v0,.int .i64 v1,.int .i64 v2,.int .i64 v3,.int .i64 v4] 44)
 have GV1:Hid (w.grownBy (w1.alloc (.cells #[.int .i64 v0,.int .i64 v1,.int .i64 v2,.int .i64 v3,.int .i64 v4] 44)) none):=aG GG.out _
 have HA1:=Hid.mk' hHeld
 have xl1:w.heap.size<w1.heap.size:=by have h1:=(aA G0.out).size;have h2:=g1.size;simp at h1 h2;omega
 have xv1:=XA1.out.lt
 clear hHeld hS GG g1
 generalize (w1.alloc (.cells #[.int .i64 v0,.int .i64 v1,.int .i64 v2,.int .i64 v3,.int .i64 v4] 44))=V1 at *
 generalize w1.heap.size=X1 at *
 rotate_left
 intro K hK
 go_simp
 refine hK _ _ ⟨hHeld.1.alloc _,hHeld.2.1.alloc _,trivial⟩ ?_
 clear hK K
 replace hHeld:At ((w.alloc (.cells #[.int .i64 16,.int .i64 sh,.int .i64 k,.int .i64 m,.int .i64 x,.int .i64 y,.float .f32 pl,.float .f32 sp,.string t] 35)).drew.alloc (.cells #[.int .i64 0,.int .i64 0,.int .i64 0,.int .i64 0,.int .i64 0] 44)) bw [.pointer (some ⟨bp,0,none⟩),.pointer (some ⟨bq,0,none⟩),.pointer (some ⟨bk,0,none⟩)]/\At ((w.alloc (.cells #[.int .i64 16,.int .i64 sh,.int .i64 k,.int .i64 m,.int .i64 x,.int .i64 y,.float .f32 pl,.float .f32 sp,.string t] 35)).drew.alloc (.cells #[.int .i64 0,.int .i64 0,.int .i64 0,.int .i64 0,.int .i64 0] 44)) w.heap.size [.int .i64 16,.int .i64 sh,.int .i64 k,.int .i64 m,.int .i64 x,.int .i64 y,.float .f32 pl,.float .f32 sp,.string t]/\True:=⟨hHeld.1.alloc _,hHeld.2.1.alloc _,trivial⟩
 refine aX 6 (f:=16) (args:=#[.pointer (some ⟨bp,0,none⟩),.int .i64 sh]) (by kernel_rfl) (by rfl) (by rfl) (by go_simp) ?_
 refine Calls.mono (QX.out _ (aG (aA G0.out) _)) ?_
 rintro e w1 ⟨rfl,g1⟩
 have hS:At w1 bw (LC bp bq bk)/\At w1 w.heap.size (AC 16 sh k m x y pl sp t)/\True:=⟨hHeld.1.grown g1,hHeld.2.1.grown g1,trivial⟩
 have GG:Hid (w.grownBy w1 none):=(aG (aA G0.out) _).trans g1
 have XB:At w1 (w.heap.size+1) [.int .i64 0,.int .i64 0,.int .i64 0,.int .i64 0,.int .i64 0]:=by
  have:=(At.new (w.alloc (.cells #[.int .i64 16,.int .i64 sh,.int .i64 k,.int .i64 m,.int .i64 x,.int .i64 y,.float .f32 pl,.float .f32 sp,.string t] 35)).drew [.int .i64 0,.int .i64 0,.int .i64 0,.int .i64 0,.int .i64 0] 44).grown g1
  simpa using this
 have zz:=(aA G0.out).size
 clear hHeld
 have hHeld:=hS
 refine ⟨_,rfl,hHeld,?_⟩
 simp only[aF]
 refine aN 7 ?_
 simp only[aF]
 refine aN 8 ?_
 simp only[aF]
 refine aN 9 ?_
 simp only[aF]
 refine fV 11 (by kernel_rfl) (by rfl) (by rfl) ?_
 intro K hK
 have xf:=XB.f
 have xc0:=XB.c 0 _ rfl
 have xc1:=XB.c 1 _ rfl
 have xc2:=XB.c 2 _ rfl
 have xc3:=XB.c 3 _ rfl
 have xc4:=XB.c 4 _ rfl
 have PXL:=XB.all [.int .i64 v0,.int .i64 v1,.int .i64 v2,.int .i64 v3,.int .i64 v4] rfl
 have POL:=cW (w.heap.size+1) [.int .i64 v0,.int .i64 v1,.int .i64 v2,.int .i64 v3,.int .i64 v4] w1 0
 simp only[mR,Nat.reduceAdd] at PXL POL
 go_simp
 have hS2:At ((((((w1.setCell ⟨(w.heap.size+1),0,none⟩ (.int .i64 v0)).setCell ⟨(w.heap.size+1),1,none⟩ (.int .i64 v1)).setCell ⟨(w.heap.size+1),2,none⟩ (.int .i64 v2)).setCell ⟨(w.heap.size+1),3,none⟩ (.int .i64 v3)).setCell ⟨(w.heap.size+1),4,none⟩ (.int .i64 v4))) bw [.pointer (some ⟨bp,0,none⟩),.pointer (some ⟨bq,0,none⟩),.pointer (some ⟨bk,0,none⟩)]/\At ((((((w1.setCell ⟨(w.heap.size+1),0,none⟩ (.int .i64 v0)).setCell ⟨(w.heap.size+1),1,none⟩ (.int .i64 v1)).setCell ⟨(w.heap.size+1),2,none⟩ (.int .i64 v2)).setCell ⟨(w.heap.size+1),3,none⟩ (.int .i64 v3)).setCell ⟨(w.heap.size+1),4,none⟩ (.int .i64 v4))) w.heap.size [.int .i64 16,.int .i64 sh,.int .i64 k,.int .i64 m,.int .i64 x,.int .i64 y,.float .f32 pl,.float .f32 sp,.string t]/\True:=⟨hHeld.1.only POL (fun e=>by simp at zz;omega),hHeld.2.1.only POL (fun e=>by simp at zz;omega),trivial⟩
 refine hK _ _ hS2 ?_
 clear hK K
 clear hHeld
 have hHeld:=hS2
 refine aN 12 ?_
 simp only[aF]
 refine wpAnyH_done (by kernel_rfl) ?_ _
 have XA1:Hid (At ((((((w1.setCell ⟨(w.heap.size+1),0,none⟩ (.int .i64 v0)).setCell ⟨(w.heap.size+1),1,none⟩ (.int .i64 v1)).setCell ⟨(w.heap.size+1),2,none⟩ (.int .i64 v2)).setCell ⟨(w.heap.size+1),3,none⟩ (.int .i64 v3)).setCell ⟨(w.heap.size+1),4,none⟩ (.int .i64 v4))) (w.heap.size+1) [.int .i64 v0,.int .i64 v1,.int .i64 v2,.int .i64 v3,.int .i64 v4]):=Hid.mk' PXL
 have GV1:Hid (w.grownBy ((((((w1.setCell ⟨(w.heap.size+1),0,none⟩ (.int .i64 v0)).setCell ⟨(w.heap.size+1),1,none⟩ (.int .i64 v1)).setCell ⟨(w.heap.size+1),2,none⟩ (.int .i64 v2)).setCell ⟨(w.heap.size+1),3,none⟩ (.int .i64 v3)).setCell ⟨(w.heap.size+1),4,none⟩ (.int .i64 v4))) none):=Hid.mk' (fJ GG.out POL (fun k e=>by simp at zz;omega))
 have HA1:=Hid.mk' hHeld
 have xl1:w.heap.size<(w.heap.size+1):=by simp at zz;omega
 have xv1:=XA1.out.lt
 clear hHeld hS GG g1 hS2 PXL POL XB xf xc0 xc1 xc2 xc3 xc4 zz
 generalize ((((((w1.setCell ⟨(w.heap.size+1),0,none⟩ (.int .i64 v0)).setCell ⟨(w.heap.size+1),1,none⟩ (.int .i64 v1)).setCell ⟨(w.heap.size+1),2,none⟩ (.int .i64 v2)).setCell ⟨(w.heap.size+1),3,none⟩ (.int .i64 v3)).setCell ⟨(w.heap.size+1),4,none⟩ (.int .i64 v4)))=V1 at *
 generalize (w.heap.size+1)=X1 at *
 all_goals
  go_wp2_with fail
  refine wp_region_held_drew (S:=fun w'=>At w' bw (LC bp bq bk)/\At w' w.heap.size (AC 16 sh k m x y pl sp t)/\At w' X1 [.int .i64 v0,.int .i64 v1,.int .i64 v2,.int .i64 v3,.int .i64 v4]) (by kernel_rfl) (⟨HA1.out.1.drew,HA1.out.2.1.drew,XA1.out.drew⟩) (fun hHeld=>?_)
  refine aN 0 ?_
  simp only[aF]
  refine aN 1 ?_
  simp only[aF]
  refine aN 2 ?_
  simp only[aF]
  refine bV 3 (fun _ h=>h.1.c 1 _ rfl) ?_
  simp only[aF]
  refine aN 4 ?_
  simp only[aF]
  refine bV 5 (fun _ h=>h.2.1.c 1 _ rfl) ?_
  simp only[aF]
  refine qP 6 10 (f:=113) (args:=#[.pointer (some ⟨bq,0,none⟩),.int .i64 sh]) (by kernel_rfl) (by rfl) (by rfl) (by go_simp) (by rfl) (by rfl) ?_ ?_
  refine Calls.mono (QY.out _ (aA GV1.out)) ?_
  rintro e w2 ⟨rfl,g2⟩
  have hS:At w2 bw (LC bp bq bk)/\At w2 w.heap.size (AC 16 sh k m x y pl sp t)/\At w2 X1 [.int .i64 v0,.int .i64 v1,.int .i64 v2,.int .i64 v3,.int .i64 v4]:=⟨hHeld.1.grown g2,hHeld.2.1.grown g2,hHeld.2.2.grown g2⟩
  have GG:Hid (w.grownBy w2 none):=(aA GV1.out).trans g2
  clear hHeld
  have hHeld:=hS
  refine ⟨_,rfl,hHeld,?_⟩
  simp only[aF]
  refine aN 7 ?_
  simp only[aF]
  refine aN 8 ?_
  simp only[aF]
  refine aN 9 ?_
  simp only[aF]
  refine fV 10 (by kernel_rfl) (by rfl) (by rfl) ?_
  intro K hK
  go_simp
  refine hK _ _ ⟨hHeld.1.alloc _,hHeld.2.1.alloc _,hHeld.2.2.alloc _⟩ ?_
  clear hK K
  refine fV 11 (by kernel_rfl) (by rfl) (by rfl) ?_
  intro K hK
  go_simp
  refine hK _ _ ⟨hHeld.1.alloc _,hHeld.2.1.alloc _,hHeld.2.2.alloc _⟩ ?_
  clear hK K
  replace hHeld:At (w2.alloc (.cells #[.int .i64 v0,.int .i64 v1,.int .i64 v2,.int .i64 v3,.int .i64 v4] 44)) bw [.pointer (some ⟨bp,0,none⟩),.pointer (some ⟨bq,0,none⟩),.pointer (some ⟨bk,0,none⟩)]/\At (w2.alloc (.cells #[.int .i64 v0,.int .i64 v1,.int .i64 v2,.int .i64 v3,.int .i64 v4] 44)) w.heap.size [.int .i64 16,.int .i64 sh,.int .i64 k,.int .i64 m,.int .i64 x,.int .i64 y,.float .f32 pl,.float .f32 sp,.string t]/\At (w2.alloc (.cells #[.int .i64 v0,.int .i64 v1,.int .i64 v2,.int .i64 v3,.int .i64 v4] 44)) X1 [.int .i64 v0,.int .i64 v1,.int .i64 v2,.int .i64 v3,.int .i64 v4]:=⟨hHeld.1.alloc _,hHeld.2.1.alloc _,hHeld.2.2.alloc _⟩
  refine aN 12 ?_
  simp only[aF]
  refine wpAnyH_done (by kernel_rfl) ?_ _
  have XA2:Hid (At (w2.alloc (.cells #[.int .i64 v0,.int .i64 v1,.int .i64 v2,.int .i64 v3,.int .i64 v4] 44)) w2.heap.size [.int .i64 v0,.int .i64 v1,.int .i64 v2,.int .i64 v3,.int .i64 v4]):=Hid.mk' (At.new w2 [.int .i64 v0,.int .i64 v1,.int .i64 v2,.int .i64 v3,.int .i64 v4] 44)
  have GV2:Hid (w.grownBy (w2.alloc (.cells #[.int .i64 v0,.int .i64 v1,.int .i64 v2,.int .i64 v3,.int .i64 v4] 44)) none):=aG GG.out _
  have HA2:=Hid.mk' hHeld
  have xl2:w.heap.size<w2.heap.size:=by have h1:=(aA GV1.out).size;have h2:=g2.size;simp at h1 h2;omega
  have xv2:=XA2.out.lt
  clear hHeld hS GG g2
  generalize (w2.alloc (.cells #[.int .i64 v0,.int .i64 v1,.int .i64 v2,.int .i64 v3,.int .i64 v4] 44))=V2 at *
  generalize w2.heap.size=X2 at *
  rotate_left
  intro K hK
  go_simp
  refine hK _ _ ⟨hHeld.1.alloc _,hHeld.2.1.alloc _,hHeld.2.2.alloc _⟩ ?_
  clear hK K
  replace hHeld:At (V1.drew.alloc (.cells #[.int .i64 0,.int .i64 0,.int .i64 0,.int .i64 0,.int .i64 0] 44)) bw [.pointer (some ⟨bp,0,none⟩),.pointer (some ⟨bq,0,none⟩),.pointer (some ⟨bk,0,none⟩)]/\At (V1.drew.alloc (.cells #[.int .i64 0,.int .i64 0,.int .i64 0,.int .i64 0,.int .i64 0] 44)) w.heap.size [.int .i64 16,.int .i64 sh,.int .i64 k,.int .i64 m,.int .i64 x,.int .i64 y,.float .f32 pl,.float .f32 sp,.string t]/\At (V1.drew.alloc (.cells #[.int .i64 0,.int .i64 0,.int .i64 0,.int .i64 0,.int .i64 0] 44)) X1 [.int .i64 v0,.int .i64 v1,.int .i64 v2,.int .i64 v3,.int .i64 v4]:=⟨hHeld.1.alloc _,hHeld.2.1.alloc _,hHeld.2.2.alloc _⟩
  refine aX 6 (f:=113) (args:=#[.pointer (some ⟨bq,0,none⟩),.int .i64 sh]) (by kernel_rfl) (by rfl) (by rfl) (by go_simp) ?_
  refine Calls.mono (QY.out _ (aG (aA GV1.out) _)) ?_
  rintro e w2 ⟨rfl,g2⟩
  have hS:At w2 bw (LC bp bq bk)/\At w2 w.heap.size (AC 16 sh k m x y pl sp t)/\At w2 X1 [.int .i64 v0,.int .i64 v1,.int .i64 v2,.int .i64 v3,.int .i64 v4]:=⟨hHeld.1.grown g2,hHeld.2.1.grown g2,hHeld.2.2.grown g2⟩
  have GG:Hid (w.grownBy w2 none):=(aG (aA GV1.out) _).trans g2
  have XB:At w2 V1.heap.size [.int .i64 0,.int .i64 0,.int .i64 0,.int .i64 0,.int .i64 0]:=by
   have:=(At.new V1.drew [.int .i64 0,.int .i64 0,.int .i64 0,.int .i64 0,.int .i64 0] 44).grown g2
   simpa using this
  have zz:=(aA GV1.out).size
  clear hHeld
  have hHeld:=hS
  refine ⟨_,rfl,hHeld,?_⟩
  simp only[aF]
  refine aN 7 ?_
  simp only[aF]
  refine aN 8 ?_
  simp only[aF]
  refine aN 9 ?_
  simp only[aF]
  refine fV 11 (by kernel_rfl) (by rfl) (by rfl) ?_
  intro K hK
  have xf:=XB.f
  have xc0:=XB.c 0 _ rfl
  have xc1:=XB.c 1 _ rfl
  have xc2:=XB.c 2 _ rfl
  have xc3:=XB.c 3 _ rfl
  have xc4:=XB.c 4 _ rfl
  have PXL:=XB.all [.int .i64 v0,.int .i64 v1,.int .i64 v2,.int .i64 v3,.int .i64 v4] rfl
  have POL:=cW V1.heap.size [.int .i64 v0,.int .i64 v1,.int .i64 v2,.int .i64 v3,.int .i64 v4] w2 0
  simp only[mR,Nat.reduceAdd] at PXL POL
  go_simp
  have hS2:At ((((((w2.setCell ⟨V1.heap.size,0,none⟩ (.int .i64 v0)).setCell ⟨V1.heap.size,1,none⟩ (.int .i64 v1)).setCell ⟨V1.heap.size,2,none⟩ (.int .i64 v2)).setCell ⟨V1.heap.size,3,none⟩ (.int .i64 v3)).setCell ⟨V1.heap.size,4,none⟩ (.int .i64 v4))) bw [.pointer (some ⟨bp,0,none⟩),.pointer (some ⟨bq,0,none⟩),.pointer (some ⟨bk,0,none⟩)]/\At ((((((w2.setCell ⟨V1.heap.size,0,none⟩ (.int .i64 v0)).setCell ⟨V1.heap.size,1,none⟩ (.int .i64 v1)).setCell ⟨V1.heap.size,2,none⟩ (.int .i64 v2)).setCell ⟨V1.heap.size,3,none⟩ (.int .i64 v3)).setCell ⟨V1.heap.size,4,none⟩ (.int .i64 v4))) w.heap.size [.int .i64 16,.int .i64 sh,.int .i64 k,.int .i64 m,.int .i64 x,.int .i64 y,.float .f32 pl,.float .f32 sp,.string t]/\At ((((((w2.setCell ⟨V1.heap.size,0,none⟩ (.int .i64 v0)).setCell ⟨V1.heap.size,1,none⟩ (.int .i64 v1)).setCell ⟨V1.heap.size,2,none⟩ (.int .i64 v2)).setCell ⟨V1.heap.size,3,none⟩ (.int .i64 v3)).setCell ⟨V1.heap.size,4,none⟩ (.int .i64 v4))) X1 [.int .i64 v0,.int .i64 v1,.int .i64 v2,.int .i64 v3,.int .i64 v4]:=⟨hHeld.1.only POL (fun e=>by simp at zz;omega),hHeld.2.1.only POL (fun e=>by simp at zz;omega),hHeld.2.2.only POL (fun e=>by simp at zz;omega)⟩
  refine hK _ _ hS2 ?_
  clear hK K
  clear hHeld
  have hHeld:=hS2
  refine aN 12 ?_
  simp only[aF]
  refine wpAnyH_done (by kernel_rfl) ?_ _
  have XA2:Hid (At ((((((w2.setCell ⟨V1.heap.size,0,none⟩ (.int .i64 v0)).setCell ⟨V1.heap.size,1,none⟩ (.int .i64 v1)).setCell ⟨V1.heap.size,2,none⟩ (.int .i64 v2)).setCell ⟨V1.heap.size,3,none⟩ (.int .i64 v3)).setCell ⟨V1.heap.size,4,none⟩ (.int .i64 v4))) V1.heap.size [.int .i64 v0,.int .i64 v1,.int .i64 v2,.int .i64 v3,.int .i64 v4]):=Hid.mk' PXL
  have GV2:Hid (w.grownBy ((((((w2.setCell ⟨V1.heap.size,0,none⟩ (.int .i64 v0)).setCell ⟨V1.heap.size,1,none⟩ (.int .i64 v1)).setCell ⟨V1.heap.size,2,none⟩ (.int .i64 v2)).setCell ⟨V1.heap.size,3,none⟩ (.int .i64 v3)).setCell ⟨V1.heap.size,4,none⟩ (.int .i64 v4))) none):=Hid.mk' (fJ GG.out POL (fun k e=>by simp at zz;omega))
  have HA2:=Hid.mk' hHeld
  have xl2:w.heap.size<V1.heap.size:=by simp at zz;omega
  have xv2:=XA2.out.lt
  clear hHeld hS GG g2 hS2 PXL POL XB xf xc0 xc1 xc2 xc3 xc4 zz
  generalize ((((((w2.setCell ⟨V1.heap.size,0,none⟩ (.int .i64 v0)).setCell ⟨V1.heap.size,1,none⟩ (.int .i64 v1)).setCell ⟨V1.heap.size,2,none⟩ (.int .i64 v2)).setCell ⟨V1.heap.size,3,none⟩ (.int .i64 v3)).setCell ⟨V1.heap.size,4,none⟩ (.int .i64 v4)))=V2 at *
  generalize V1.heap.size=X2 at *
  all_goals
   have c0:=HA2.out.2.2.c 0 _ rfl
   have c1:=HA2.out.2.2.c 1 _ rfl
   have c2:=HA2.out.2.2.c 2 _ rfl
   have c3:=HA2.out.2.2.c 3 _ rfl
   have c4:=HA2.out.2.2.c 4 _ rfl
   have d0:=XA2.out.c 0 _ rfl
   have d1:=XA2.out.c 1 _ rfl
   have d2:=XA2.out.c 2 _ rfl
   have d3:=XA2.out.c 3 _ rfl
   have d4:=XA2.out.c 4 _ rfl
   go_wp2
   go_ret
   exact ⟨rfl,(LMH.out.li HG.out GV2.out).mono (by omega)⟩
theorem aIn {w w':World}{l:List UInt8}{e:Ending}(h:dF w l e w'):w.grownBy w' none/\∃ai ni ci ao nn co z,e=.returned (.tuple #[.agg #[.int .i64 (cF l).kind,.int .i64 (cF l).seq,.int .i64 (cF l).it.sh,.int .i64 (cF l).it.nu,.float .f32 (cF l).it.pl,.float .f32 (cF l).it.sp,.int .i64 (cF l).mks.g,.int .i64 (cF l).mks.m,.int .i64 (cF l).mks.s,.int .i64 (cF l).mks.a,.int .i64 (cF l).mks.n,.slice ai ni ci,.slice ao nn co],.int .i64 z])/\(z≠0->(cF l).kind=0):=by
 obtain ⟨g,hx⟩:=h
 refine ⟨g,?_⟩
 unfold cF
 rcases hx with ⟨h0,rfl⟩ | ⟨h1,vi,vo,rfl,oi,oo,ap⟩
 ·rw[h0]
  exact ⟨none,0,0,none,0,0,_,rfl,fun _=>rfl⟩
 ·rw[h1]
  obtain ⟨ai,ci,rfl⟩:=aJ oi
  obtain ⟨ao,co,rfl⟩:=aJ oo
  exact ⟨ai,_,ci,ao,_,co,_,rfl,fun e=>absurd rfl e⟩
theorem aGJ (n:Int)(w:World)(h0:0<=n)(h1:n<=65535):
  Calls prog 104 #[.agg #[.int .i64 8,.int .i64 n,.int .i64 0,.int .i64 0,.float .f32 0,.float .f32 0,.int .i64 0,.int .i64 0,.int .i64 0,.int .i64 0,.int .i64 0,.slice none 0 0,.slice none 0 0]] w fun z w'=>z=.returned (.tuple #[.string (S (jN n)),.int .i64 0])/\w.grownBy w' none:=by
 have hm:aP (gH n)=true:=by
  show (eE n&&jM bT&&eU (gH n))=true
  have:eE n=true:=by simp[eE];omega
  rw[this];rfl
 exact gU (gH n) (.slice none 0 0) (.slice none 0 0) w (aCk w).1 (aCk w).2 ⟨⟨by show (0:Nat)<_;decide,by show (0:Nat)<_;decide⟩,by simp[gH],by simp[gH]⟩ (by simp[gH]) (by simp[gH]) hm
def Pr.heard (p:Pr)(i:Int)(l:List UInt8):Int×Pr:=if (p.sh i).up=false then (0,p) else (((p.sh i).hear l).1.1,(p.setSh i ((p.sh i).hear l).2).reply i ((p.sh i).hear l).1.2)
theorem tG {y:Pr}{i:Int}(hi:aV i){n:Nat}(hn:n<(y.fl i).length):y.deliver i n=(y.drop i n).2.heard i ((y.fl i).getD n []):=by
 have hk:oF (y.fl i) n:=⟨by omega,by omega⟩
 have hu:¬kP y.f0 y.f1 i n≠0:=by
  intro e
  exact e (by unfold kP eK;rw[if_pos hi,if_pos (show oF (aC y.f0 y.f1 i) n from hk)])
 have ea:lH (y.fl i) n=(y.fl i).getD n []:=by unfold lH;rw[if_pos hk];simp
 have es:(y.drop i n).2.sh i=y.sh i:=rfl
 unfold Pr.deliver Pr.heard
 rw[if_neg hu,ea,es]
theorem kM (p:Pr)(i:Int):p.reply i []=p:=if_pos rfl
theorem zK {p:Pr}{i:Int}(hi:aV i){l:List UInt8}(h:(p.sh i).up=true->(p.sh i).hear l=((0,[]),p.sh i)):p.heard i l=(0,p):=by
 unfold Pr.heard
 by_cases hu:(p.sh i).up=false
 ·rw[if_pos hu]
 ·rw[if_neg hu,h (by simpa using hu)]
  simp only
  rw[kL hi,kM]
theorem aJR {s:Sh}{q:Int}{i:It}(hz:(s.jrn (bE q i)).1=0):(s.jrn (bE q i)).2.ms.n=q:=by
 unfold Sh.jrn at hz ⊢
 split at hz
 ·cases hz
 rename_i c1
 split at hz
 ·cases hz
 rename_i c2
 split at hz
 ·cases hz
 rename_i c3
 rw[if_neg c1,if_neg c2,if_neg c3]
 rfl
theorem aCl {w0 w3 W w7:World}{bq q0 q1:Nat}{cI cO cJ:Int}{r0 r1:Rs}{u0 u1:Value}{p:Pr}{D:Nat->Prop}{i:Int}{t:List UInt8}(O3:Only w0 w3 D)(pg:PG cI cO cJ p.s0 p.s1 r0 r1)(hD:∀j,tE bq q0 q1 u0 u1 j->D j∨w0.heap.size<=j)(o:Only w3 W (fun j=>D j∨w0.heap.size<=j))(ht:t≠[])(n:DXn W w7 bq q0 q1 cI cO cJ r0 r1 u0 u1 (bN p.f0 p.f1 (dX (aC p.f0 p.f1 (1 -i)) t) (1 -i)).1 (bN p.f0 p.f1 (dX (aC p.f0 p.f1 (1 -i)) t) (1 -i)).2):DSn w0 w7 bq D (p.reply i t):=by
 unfold Pr.reply
 rw[if_neg ht]
 exact DSn.trans O3 (DSn.trans o (DX.flown (fun j hj=>.inl (hD j hj)) pg n))
theorem aDZ {s:Sh}{i:It}{no:Nat}{cI:Int}(hn:(s.no:Int)=no)(hc:s.cI=cI):s.mayArr i=true↔(cK i.pl=no/\cM s.th i.sh i.nu=false/\¬cI<=(s.ds.it.length:Int)/\¬(i.sh=no/\s.ms.m<i.nu)):=by
 have len:s.ds.it.length=s.th.length:=(bG s.th).length_eq
 unfold Sh.mayArr
 rw[len,hn,hc]
 simp only[Bool.and_eq_true,decide_eq_true_eq,Bool.not_eq_true',Bool.and_eq_false_imp,decide_eq_false_iff_not]
 constructor
 ·rintro ⟨⟨⟨a,b⟩,c⟩,d⟩
  exact ⟨a,c,d,fun e=>b e.1 e.2⟩
 ·rintro ⟨a,c,d,b⟩
  exact ⟨⟨⟨a,fun e e'=>b ⟨e,e'⟩⟩,c⟩,d⟩
theorem aCm {cI cO cJ:Int}{r0 r1:Rs}{y:Pr}(pg:PG cI cO cJ y.s0 y.s1 r0 r1){i:Int}(hi:aV i)(hu:(y.sh i).up=true):upE r0.up r1.up i=0:=by
 rw[pg.up]
 unfold upE
 rw[if_pos hi,if_pos (by rcases hi with rfl | rfl<;>exact hu)]
theorem wK {w:World}{bq q0 q1:Nat}{cI cO cJ:Int}{r0 r1:Rs}{v0 v1:Value}{y:Pr}{D:Nat->Prop}(h:DX w bq q0 q1 cI cO cJ r0 r1 v0 v1 y.f0 y.f1)(pg:PG cI cO cJ y.s0 y.s1 r0 r1)(hD:∀j,tE bq q0 q1 v0 v1 j->D j)(no:Nat)(hno:no<2)(n:Nat)(hn:n<(y.fl no).length):
  Calls prog 56 #[.pointer (some ⟨bq,0,none⟩),.int .i64 no,.int .i64 n] w fun e w'=>e=.returned (.int .i64 (y.deliver no n).1)/\DSn w w' bq D (y.deliver no n).2:=by
 have hi:aV (no:Int):=by unfold aV;omega
 have U:=Hid.mk' (jK h no n)
 have hu:kP y.f0 y.f1 no n=0:=by
  unfold kP eK
  rw[if_pos hi,if_pos (show oF (aC y.f0 y.f1 no) n from ⟨by omega,by have:n<(aC y.f0 y.f1 no).length:=hn;omega⟩)]
 rw[hu] at U
 obtain ⟨hc,ho,_,_,hx⟩:=h.at hi
 obtain ⟨g,c,hv,hcell,_⟩:=ho.cell (k:=n) hn
 have ck:=h.ry.at_.c _ _ hc
 rw[hv,Int.toNat_natCast] at ck
 rw[tG hi hn]
 have hll:((y.fl no).getD n []).length<=100:=by
  rw[List.getD_eq_getElem?_getD,List.getElem?_eq_getElem hn]
  exact hx _ (List.getElem_mem hn)
 have DR:Hid (∀W,w.grownBy W none->Calls prog 57 #[.pointer (some ⟨bq,0,none⟩),.int .i64 no,.int .i64 n] W fun e w'=>∃u0 u1,e=.returned (.int .i64 0)/\DX w' bq q0 q1 cI cO cJ r0 r1 u0 u1 (y.drop no n).2.f0 (y.drop no n).2.f1/\Only W w' (tE bq q0 q1 v0 v1)/\∀j,tE bq q0 q1 u0 u1 j->tE bq q0 q1 v0 v1 j∨W.heap.size<=j):=Hid.mk' fun W gW=>by
  refine (uI (h.grown gW) no n).mono ?_
  rintro e w' ⟨rfl,u0,u1,a,b,c⟩
  exact ⟨u0,u1,by rw[hu],a,b,c⟩
 have hcell':w.cell? ⟨g,n,none⟩=some (.string (S ((y.fl no).getD n []))):=hcell
 have hm:n<(aC y.f0 y.f1 no).length:=hn
 generalize (y.fl no).getD n []=l at *
 generalize (aC y.f0 y.f1 no).length=m at *
 have pg':PG cI cO cJ (y.drop no n).2.s0 (y.drop no n).2.s1 r0 r1:=pg
 generalize (y.drop no n).2=y1 at *
 have H:=Hid.mk' h
 have HI:=Hid.mk' hi
 have PGH:=Hid.mk' pg'
 have HD:=Hid.mk' hD
 have lt0:Hid (∀j,tE bq q0 q1 v0 v1 j->j<w.heap.size):=Hid.mk' fun j hj=>h.lt hj
 have DC:=Hid.mk' fun W=>nB l W (by omega)
 have n0:(0:Int)<=(n:Int):=by omega
 have n1:(n:Int)<(m:Int):=by omega
 have i0:(0:Int)<=(no:Int):=by omega
 have i1:(no:Int)<2:=by omega
 have hsf:=aK
 clear h pg pg' hD hc ho hx hv hn hm hu hcell hi
 go_enter func56,ntmps56
 go_wp2_with fail
 refine Calls.mono U.out ?_
 rintro e w0 ⟨rfl,rfl⟩
 go_wp2_with fail
 refine Calls.mono (DC.out _) ?_
 intro e w1 dp
 obtain ⟨g1,ai,ni,ci,ao,nn,co,z,rfl,hz⟩:=aIn dp
 have G1:=Hid.mk' g1
 have HZ:=Hid.mk' hz
 clear dp g1 hz
 obtain ⟨P,hP⟩:∃P,cF l=P:=⟨_,rfl⟩
 have HP:=Hid.mk' hP
 rw[hP] at HZ ⊢
 clear hP
 have GB:=Hid.mk' (G1.out.trans (World.grownBy_alloc w1 (.cells #[.int .i64 P.kind,.int .i64 P.seq,.int .i64 P.it.sh,.int .i64 P.it.nu,.float .f32 P.it.pl,.float .f32 P.it.sp,.int .i64 P.mks.g,.int .i64 P.mks.m,.int .i64 P.mks.s,.int .i64 P.mks.a,.int .i64 P.mks.n,.slice ai ni ci,.slice ao nn co] 139) none))
 have AB:=Hid.mk' (At.new w1 [.int .i64 P.kind,.int .i64 P.seq,.int .i64 P.it.sh,.int .i64 P.it.nu,.float .f32 P.it.pl,.float .f32 P.it.sp,.int .i64 P.mks.g,.int .i64 P.mks.m,.int .i64 P.mks.s,.int .i64 P.mks.a,.int .i64 P.mks.n,.slice ai ni ci,.slice ao nn co] 139)
 have zb:=G1.out.size
 go_wp2_with fail
 generalize (w1.alloc (.cells #[.int .i64 P.kind,.int .i64 P.seq,.int .i64 P.it.sh,.int .i64 P.it.nu,.float .f32 P.it.pl,.float .f32 P.it.sp,.int .i64 P.mks.g,.int .i64 P.mks.m,.int .i64 P.mks.s,.int .i64 P.mks.a,.int .i64 P.mks.n,.slice ai ni ci,.slice ao nn co] 139))=wB at *
 generalize w1.heap.size=br at *
 clear G1
 refine Calls.mono (DR.out _ GB.out) ?_
 rintro e w3 ⟨u0,u1,rfl,dx3,o3,b3⟩
 have nb3:¬tE bq q0 q1 v0 v1 br:=fun e=>by have:=lt0.out _ e;omega
 have AR:=Hid.mk' (AB.out.only o3 nb3)
 have O3:Hid (Only w0 w3 D):=((Only.grown GB.out).mono (by simp)).trans (o3.mono (fun j _ e=>.inl (HD.out j e)))
 have B3:Hid (∀j,tE bq q0 q1 u0 u1 j->D j∨w0.heap.size<=j):=Hid.mk' fun j hj=>by
  rcases b3 j hj with e | e
  ·exact .inl (HD.out j e)
  ·exact .inr (Nat.le_trans GB.out.size e)
 have X3:=Hid.mk' dx3
 have D3:Hid (DS w3 bq (fun j=>D j∨w0.heap.size<=j) y1):=⟨cI,cO,cJ,r0,r1,q0,q1,u0,u1,dx3,PGH.out,B3.out⟩
 have NOTHING:Hid (∀W,w3.grownBy W none->y1.heard no l=(0,y1)->Ending.returned (.int .i64 0)=Ending.returned (.int .i64 (y1.heard no l).1)/\DSn w0 W bq D (y1.heard no l).2):=Hid.mk' fun W gW e=>by
  rw[e]
  exact ⟨rfl,DSn.trans O3.out (D3.out.grew gW)⟩
 have e0:=AR.out.c 0 _ rfl
 have p0:w3.cell? ⟨bq,3+no,none⟩=some (.pointer (some ⟨aC q0 q1 no,0,none⟩)):=by
  have:=RY.ptr dx3.ry.at_ HI.out
  rwa [Int.toNat_natCast] at this
 have u0c:=(dx3.ry.at HI.out).1.c 0 _ rfl
 have hup:(aC r0 r1 no).up=(y1.sh no).up:=(PGH.out.at HI.out).1.up
 rw[hup] at u0c
 clear dx3 o3 b3 nb3 AB DR DC U hcell' ck lt0 GB hup
 by_cases hz:z=0
 ·subst hz
  cases hu:(y1.sh no).up
  ·rw[hu] at u0c
   have hN:y1.heard no l=(0,y1):=if_pos hu
   have HN:=Hid.mk' hN
   clear hN hu
   go_wp2
   go_ret
   exact NOTHING.out _ (aD _ _) HN.out
  ·rw[hu] at u0c
   by_cases h7:P.kind=7
   ·have huu:=aCm PGH.out HI.out hu
    have ST:=Hid.mk' (dP bq q0 q1 cI cO cJ y1.s0 y1.s1 r0 r1 no w3 X3.out.ry PGH.out huu)
    have HU:=Hid.mk' hu
    have GD:=Hid.mk' (PGH.out.at HI.out)
    have QB:=Hid.mk' (aIE (show (cF l).kind=7 by rw[HP.out];exact h7))
    have WF:=Hid.mk' (aFZ l)
    rw[HP.out] at QB WF
    have HE:Hid (y1.heard no l=(((y1.sh no).hearCross P.seq P.it).1.1,(y1.setSh no ((y1.sh no).hearCross P.seq P.it).2).reply no ((y1.sh no).hearCross P.seq P.it).1.2)):=by
     show _=_
     unfold Pr.heard Sh.hear
     rw[if_neg (by rw[hu];simp),HP.out,if_pos h7]
    have k7:(P.kind !=7)=false:=by simpa using h7
    have k8':(P.kind==8)=false:=by simp;omega
    have NB:Hid (0<=(y1.sh no).ms.n/\(y1.sh no).ms.n<=65535):=by
     obtain ⟨_,_,_,_,_,has,_⟩:=GD.out.1.has hu
     exact ⟨has.mo.n0,has.mo.n1⟩
    have nb:=NB.out
    have w1':IntKind.i64.wrap ((y1.sh no).ms.n+1)=(y1.sh no).ms.n+1:=by simp[IntKind.wrap,IntKind.bits,IntKind.signed];omega
    have w2':wrap64 ((y1.sh no).ms.n+1)=(y1.sh no).ms.n+1:=by simp[wrap64];omega
    have hw:IntKind.i64.wrap (1 -(no:Int))=1 -no:=by simp[IntKind.wrap,IntKind.bits,IntKind.signed];omega
    have q0':=QB.out.2.1
    have q1':=QB.out.2.2.1
    clear hu h7 huu
    go_wp2_with fail
    refine Calls.mono ST.out ?_
    rintro e w4 ⟨bs,vi,vo,rfl,sg⟩
    have SG:=Hid.mk' sg
    have ST4:Hid (At w4 bs (kN (aC y1.s0 y1.s1 no).no vi vo (y1.sh no).ms)):=sg.at_
    have c7:=ST4.out.c 7 _ rfl
    have AR4:=Hid.mk' (AR.out.grown sg.g)
    have a0:=AR4.out.c 0 _ rfl
    have a1:=AR4.out.c 1 _ rfl
    clear sg e0 p0 u0c ST
    by_cases hc:(y1.sh no).ms.n+1<P.seq
    ·have HN:Hid (y1.heard no l=(0,y1)):=by
      show _=_
      rw[HE.out]
      unfold Sh.hearCross
      rw[if_neg (by omega),if_pos (.inl hc)]
      simp only
      rw[kL HI.out,kM]
     generalize (y1.sh no).ms.n=mn at *
     go_wp2_with fail
     go_quiet (fail)
     go_wp2
     go_ret
     exact NOTHING.out _ (aL SG.out.g nq) HN.out
    by_cases hq:P.seq<=(y1.sh no).ms.n
    ·have H2:Hid (y1.heard no l=(0,y1.reply no (jN (y1.sh no).ms.n))):=by
      show _=_
      rw[HE.out]
      unfold Sh.hearCross
      rw[if_pos hq]
      simp only
      rw[kL HI.out]
     have hne:(P.seq==(y1.sh no).ms.n+1)=false:=by simp;omega
     have EN:=Hid.mk' fun W=>aGJ (y1.sh no).ms.n W nb.1 nb.2
     have PT:Hid (∀W,w3.grownBy W none->Calls prog 105 #[.pointer (some ⟨bq,0,none⟩),.int .i64 (1 -(no:Int)),.string (S (jN (y1.sh no).ms.n))] W fun e w'=>e=.returned (.tuple #[])/\DSn w0 w' bq D (y1.heard no l).2):=Hid.mk' fun W gW=>by
      refine (mE (X3.out.grown gW) (gS HI.out) (jN (y1.sh no).ms.n) (by rw[oT];omega)).mono ?_
      rintro e w' ⟨rfl,nn⟩
      rw[H2.out]
      exact ⟨rfl,aCl O3.out PGH.out B3.out ((Only.grown gW).mono (by simp)) (aCc _) nn⟩
     generalize jN (y1.sh no).ms.n=T at *
     generalize (y1.sh no).ms.n=mn at *
     go_wp2_with fail
     go_quiet (fail)
     go_wp2_with fail
     refine Calls.mono (EN.out _) ?_
     rintro e w5 ⟨rfl,g5⟩
     have G5:=Hid.mk' ((aL SG.out.g nq).trans g5)
     clear g5
     go_wp2_with fail
     refine Calls.mono (PT.out _ G5.out) ?_
     rintro e w6 ⟨rfl,d6⟩
     go_wp2
     go_ret
     exact ⟨by rw[H2.out];rfl,d6⟩
    ·have hs:P.seq=(y1.sh no).ms.n+1:=by omega
     have hse:(P.seq==(y1.sh no).ms.n+1)=true:=by simpa using hs
     have SD:=Hid.mk' fun W=>lS P.it.pl W
     obtain ⟨av,cv,hvi⟩:=aJ SG.out.it
     have MA:=Hid.mk' (aDZ (s:=y1.sh no) (i:=P.it) GD.out.2.1 GD.out.2.2.1)
     have HH:Hid ((y1.sh no).mayArr P.it=false->y1.heard no l=(0,y1)):=Hid.mk' fun hm=>by
      rw[HE.out]
      unfold Sh.hearCross
      rw[if_neg hq,if_pos (.inr hm)]
      simp only
      rw[kL HI.out,kM]
     have DF:=Hid.mk' (aCi (s:=y1.sh no) P.it.sh P.it.nu)
     have il:(y1.sh no).ds.it.length<=16:=by
      obtain ⟨_,_,_,_,_,has,_⟩:=GD.out.1.has HU.out
      have h1:=has.tl
      have h2:=GD.out.1.i1
      have h3:(((y1.sh no).ds.it.length:Nat):Int)<=(aC y1.s0 y1.s1 no).cI:=h1
      omega
     have no_of:Hid (∀X:Prop,(X->¬((cK P.it.pl=no/\cM (y1.sh no).th P.it.sh P.it.nu=false/\¬cI<=((y1.sh no).ds.it.length:Int)/\¬(P.it.sh=no/\(y1.sh no).ms.m<P.it.nu))))->X->y1.heard no l=(0,y1)):=Hid.mk' fun X h x=>HH.out (by
      cases hm:(y1.sh no).mayArr P.it
      ·rfl
      ·exact absurd (MA.out.1 hm) (h x))
     have pq:aC q0 q1 no=q0∨aC q0 q1 no=q1:=by
      rcases HI.out with e | e<;>rw[e]
      ·exact .inl rfl
      ·exact .inr rfl
     have PD:Hid (∀j,j=aC q0 q1 no->D j∨w0.heap.size<=j):=Hid.mk' fun j hj=>B3.out j (.inl (.inr (by rcases pq with e | e<;>rw[e] at hj;exact .inl hj;exact .inr hj)))
     have NBR:Hid (¬br=aC q0 q1 no):=Hid.mk' fun e=>by have:=H.out.lt (j:=br) (.inl (.inr (by rcases pq with e' | e'<;>rw[e'] at e;exact .inl e;exact .inr e)));omega
     have EN:=Hid.mk' fun W=>aGJ P.seq W (by omega) q1'
     have ALL:Hid ((y1.sh no).mayArr P.it=true->(∀W,w3.grownBy W none->Calls prog 98 #[.pointer (some ⟨bq,0,none⟩),.int .i64 no,.agg #[.int .i64 4,.int .i64 P.seq,.int .i64 P.it.sh,.int .i64 P.it.nu,.float .f32 P.it.pl,.float .f32 P.it.sp,.int .i64 0,.int .i64 0,.int .i64 0,.int .i64 0,.int .i64 0,.slice none 0 0,.slice none 0 0]] W fun e w'=>e=.returned (.int .i64 ((y1.sh no).jrn (bE P.seq P.it)).1)/\DSn w0 w' bq D (y1.setSh no ((y1.sh no).jrn (bE P.seq P.it)).2)/\DX w' bq q0 q1 cI cO cJ (nC r0 r1 ((aC r0 r1 no).jrn (aC y1.s0 y1.s1 no).cJ (bE P.seq P.it)).2 no).1 (nC r0 r1 ((aC r0 r1 no).jrn (aC y1.s0 y1.s1 no).cJ (bE P.seq P.it)).2 no).2 u0 u1 y1.f0 y1.f1/\Only W w' (fun j=>j=aC q0 q1 no))/\(((y1.sh no).jrn (bE P.seq P.it)).1=0->y1.heard no l=(0,(y1.setSh no ((y1.sh no).jrn (bE P.seq P.it)).2).reply no (jN P.seq)))/\(¬((y1.sh no).jrn (bE P.seq P.it)).1=0->y1.heard no l=(((y1.sh no).jrn (bE P.seq P.it)).1,(y1.setSh no ((y1.sh no).jrn (bE P.seq P.it)).2)))/\(∀W,DX W bq q0 q1 cI cO cJ (nC r0 r1 ((aC r0 r1 no).jrn (aC y1.s0 y1.s1 no).cJ (bE P.seq P.it)).2 no).1 (nC r0 r1 ((aC r0 r1 no).jrn (aC y1.s0 y1.s1 no).cJ (bE P.seq P.it)).2 no).2 u0 u1 y1.f0 y1.f1->Only w3 W (fun j=>D j∨w0.heap.size<=j)->Calls prog 105 #[.pointer (some ⟨bq,0,none⟩),.int .i64 (1 -(no:Int)),.string (S (jN P.seq))] W fun e w'=>e=.returned (.tuple #[])/\DSn w0 w' bq D ((y1.setSh no ((y1.sh no).jrn (bE P.seq P.it)).2).reply no (jN P.seq)))):=Hid.mk' fun may=>by
      have AG:=aGh GD.out.1 HU.out (i:=P.it) (by have:P.seq=(aC y1.s0 y1.s1 no).ms.n+1:=hs;omega) QB.out.2.2.2 WF.out (aDE may)
      rw[show (aC y1.s0 y1.s1 no).ms.n+1=P.seq from hs.symm] at AG
      have AG':((aC r0 r1 no).jrn (aC y1.s0 y1.s1 no).cJ (bE P.seq P.it)).1=((y1.sh no).jrn (bE P.seq P.it)).1/\Good ((y1.sh no).jrn (bE P.seq P.it)).2 ((aC r0 r1 no).jrn (aC y1.s0 y1.s1 no).cJ (bE P.seq P.it)).2:=AG
      have HX:(y1.sh no).hearCross P.seq P.it=if ((y1.sh no).jrn (bE P.seq P.it)).1=0 then ((0,jN ((y1.sh no).jrn (bE P.seq P.it)).2.ms.n),((y1.sh no).jrn (bE P.seq P.it)).2) else ((((y1.sh no).jrn (bE P.seq P.it)).1,[]),((y1.sh no).jrn (bE P.seq P.it)).2):=by
       unfold Sh.hearCross
       rw[if_neg hq,if_neg (fun e=>by rcases e with e | e;exact hc e;(rw[may] at e;cases e))]
       rfl
      have PG5:=PGH.out.set HI.out AG'.2 (kY _ _)
      have EF:(y1.setSh no ((y1.sh no).jrn (bE P.seq P.it)).2).f0=y1.f0/\(y1.setSh no ((y1.sh no).jrn (bE P.seq P.it)).2).f1=y1.f1:=by
       rcases HI.out with e | e<;>rw[e]<;>exact ⟨rfl,rfl⟩
      refine ⟨fun W gW=>?_,fun hj=>?_,fun hj=>?_,fun W hW oW=>?_⟩
      ·obtain ⟨g,hn,e1,e2,e3⟩:=GD.out
       have hW:=X3.out.grown gW
       refine (gB bq q0 q1 cI cO cJ _ _ no (aC r0 r1 no) (bE P.seq P.it) W hW.ry.at_ (hW.ry.at HI.out).1 HI.out g.rok g.kb (by rw[g.rct];exact g.ct) (by have:=g.j1;rw[<- e3];omega) (yW QB.out.2.1 QB.out.2.2.1 QB.out.2.2.2 WF.out) ⟨rfl,rfl⟩ (hW.ry.at HI.out).2).mono ?_
       rintro e w2 ⟨rfl,a2,o2⟩
       have ej:(aC r0 r1 no).jrn cJ (bE P.seq P.it)=((aC r0 r1 no).jrn (aC y1.s0 y1.s1 no).cJ (bE P.seq P.it)):=by rw[e3]
       rw[ej] at a2 ⊢
       exact ⟨by rw[AG'.1],DSn.trans O3.out (DSn.grown gW (hW.ds B3.out PGH.out HI.out a2 o2 AG'.2 (kY _ _))),hW.turn HI.out a2 o2,o2⟩
      ·rw[HE.out,HX,if_pos hj]
       simp only
       rw[aJR hj]
      ·rw[HE.out,HX,if_neg hj]
       simp only
       rw[kM]
      ·refine (mE hW (gS HI.out) (jN P.seq) (by rw[oT];omega)).mono ?_
       rintro e w' ⟨rfl,nn⟩
       exact ⟨rfl,aCl O3.out PG5 B3.out oW (aCc _) (by rw[EF.1,EF.2];exact nn)⟩
     generalize hT:jN P.seq=T at *
     clear hT pq HH
     clear hs nb
     go_wp2_with fail
     go_quiet (fail)
     have GQ:=Hid.mk' (aL SG.out.g nq)
     have ARq:=Hid.mk' (AR4.out.drewN nq)
     have STq:=Hid.mk' (ST4.out.drewN nq)
     have IQ:Hid (OwnI w3.heap.size (w4.drewN nq) vi (y1.sh no).ds.it):=aO SG.out.it (aL (aD _ _) nq)
     have CQ:Hid ((w4.drewN nq).cell? ⟨bq,0,none⟩=some (.int .i64 cI)):=(X3.out.grown GQ.out).ry.at_.c 0 _ rfl
     clear a0 a1 c7
     generalize w4.drewN nq=wq at *
     have b1:=ARq.out.c 1 _ rfl
     have b7:=STq.out.c 7 _ rfl
     have FD:Hid (∀W,wq.grownBy W none->Calls prog 100 #[.pointer (some ⟨bs,0,none⟩),.agg #[.int .i64 P.it.sh,.int .i64 P.it.nu]] W fun e w'=>e=.returned (.int .i64 (iG (y1.sh no).ds.it P.it.sh P.it.nu))/\W.grownBy w' none):=Hid.mk' fun W gW=>oM _ _ _ bs _ W ((STq.out.grown gW).c 1 _ rfl) (Lies.of_own (aO IQ.out gW)) (by omega)
     have hvi':vi=.slice av (y1.sh no).ds.it.length cv:=hvi
     clear hvi AR4 ST4 SG
     subst hvi'
     clear IQ
     generalize iG (y1.sh no).ds.it P.it.sh P.it.nu=fx at *
     obtain ⟨il',hil⟩:∃n,(y1.sh no).ds.it.length=n:=⟨_,rfl⟩
     rw[hil] at STq il
     go_wp2_with fail
     clear b1 b7
     refine wp_region_held_drew (S:=fun w'=>At w' br [.int .i64 P.kind,.int .i64 P.seq,.int .i64 P.it.sh,.int .i64 P.it.nu,.float .f32 P.it.pl,.float .f32 P.it.sp,.int .i64 P.mks.g,.int .i64 P.mks.m,.int .i64 P.mks.s,.int .i64 P.mks.a,.int .i64 P.mks.n,.slice ai ni ci,.slice ao nn co]/\At w' bs (kN (aC y1.s0 y1.s1 no).no (.slice av il' cv) vo (y1.sh no).ms)/\w'.cell? ⟨bq,0,none⟩=some (.int .i64 cI)) (by kernel_rfl) (⟨ARq.out.drew,STq.out.drew,CQ.out⟩) (fun hHeld=>?_)
     refine aN 0 ?_;simp only[aF]
     refine aN 1 ?_;simp only[aF]
     refine bV 2 (fun _ h=>h.1.c 4 _ rfl) ?_;simp only[aF]
     refine aN 4 ?_;simp only[aF]
     refine aX 3 (f:=96) (args:=#[.float .f32 P.it.pl]) (by kernel_rfl) (by rfl) (by rfl) (by go_simp) ?_
     refine Calls.mono (SD.out _) ?_
     rintro e w5 ⟨rfl,rfl⟩
     refine ⟨_,rfl,hHeld,?_⟩;simp only[aF]
     by_cases t1:cK P.it.pl=no
     ·have t1b:(cK P.it.pl !=(no:Int))=false:=by simpa using t1
      refine aN 5 ?_;simp only[aF]
      refine aN 6 ?_;simp only[aF]
      refine aN 7 ?_;simp only[aF]
      refine aN 8 ?_;simp only[aF]
      refine aN 9 ?_;simp only[aF]
      refine dG 10 rfl (by intro w hSw;have S0:=hSw.1.c 2 _ rfl;have S1:=hSw.1.c 3 _ rfl;go_simp;try with_reducible rfl) ?_;simp only[aF]
      refine aX 11 (f:=100) (args:=#[.pointer (some ⟨bs,0,none⟩),.agg #[.int .i64 P.it.sh,.int .i64 P.it.nu]]) (by kernel_rfl) (by rfl) (by rfl) (by go_simp) ?_
      refine Calls.mono (FD.out _ (aA (aD _ _))) ?_
      rintro e w6 ⟨rfl,g6⟩
      have G6:=Hid.mk' g6
      have h6:=And.intro (hHeld.1.grown g6) (And.intro (hHeld.2.1.grown g6) (g6.cell hHeld.2.2 (by simp)))
      clear hHeld g6
      have hHeld:=h6
      clear h6
      refine ⟨_,rfl,hHeld,?_⟩;simp only[aF]
      by_cases t2:cM (y1.sh no).th P.it.sh P.it.nu=true
      ·have HN:=Hid.mk' (no_of.out _ (fun x e=>by rw[e.2.1] at x;cases x) t2)
       have fx0:0<=fx:=DF.out.1 t2
       refine aN 12 ?_;simp only[aF]
       refine aN 13 ?_;simp only[aF]
       refine aN 14 ?_;simp only[aF]
       refine cP 15 ?_;simp only[aF]
       refine cP 16 ?_;simp only[aF]
       refine cP 17 ?_;simp only[aF]
       refine cP 18 ?_;simp only[aF]
       refine cP 19 ?_;simp only[aF]
       refine cP 20 ?_;simp only[aF]
       refine cP 21 ?_;simp only[aF]
       refine cP 22 ?_;simp only[aF]
       refine cP 23 ?_;simp only[aF]
       refine cP 24 ?_;simp only[aF]
       refine cP 25 ?_;simp only[aF]
       refine aN 26 ?_;simp only[aF]
       refine aN 27 ?_;simp only[aF]
       refine cP 28 ?_;simp only[aF]
       refine cP 29 ?_;simp only[aF]
       refine cP 30 ?_;simp only[aF]
       refine cP 31 ?_;simp only[aF]
       refine cP 32 ?_;simp only[aF]
       refine cP 33 ?_;simp only[aF]
       refine cP 34 ?_;simp only[aF]
       refine cP 35 ?_;simp only[aF]
       refine cP 36 ?_;simp only[aF]
       refine cP 37 ?_;simp only[aF]
       refine cP 38 ?_;simp only[aF]
       refine cP 39 ?_;simp only[aF]
       refine cP 40 ?_;simp only[aF]
       refine cP 41 ?_;simp only[aF]
       refine cP 42 ?_;simp only[aF]
       refine cP 43 ?_;simp only[aF]
       refine cP 44 ?_;simp only[aF]
       refine cP 45 ?_;simp only[aF]
       refine aN 46 ?_;simp only[aF]
       refine wpAnyH_done (by kernel_rfl) ?_ _
       clear hHeld
       go_wp2
       go_ret
       exact NOTHING.out _ ((aA GQ.out).trans G6.out) HN.out
      ·have t2f:cM (y1.sh no).th P.it.sh P.it.nu=false:=by simpa using t2
       have fx0:¬0<=fx:=by have:=DF.out.2 t2f;omega
       refine aN 12 ?_;simp only[aF]
       refine aN 13 ?_;simp only[aF]
       refine aN 14 ?_;simp only[aF]
       refine aN 15 ?_;simp only[aF]
       refine aN 16 ?_;simp only[aF]
       refine aN 17 ?_;simp only[aF]
       refine bV 18 (fun _ h=>h.2.1.c 1 _ rfl) ?_;simp only[aF]
       refine aN 19 ?_;simp only[aF]
       refine aN 20 ?_;simp only[aF]
       refine aN 21 ?_;simp only[aF]
       refine aN 22 ?_;simp only[aF]
       refine aN 23 ?_;simp only[aF]
       refine bV 24 (fun _ h=>h.2.2) ?_;simp only[aF]
       by_cases t3:cI<=(il':Int)
       ·have HN:=Hid.mk' (no_of.out _ (fun x e=>by have:=e.2.2.1;omega) t3)
        refine aN 25 ?_;simp only[aF]
        refine aN 26 ?_;simp only[aF]
        refine aN 27 ?_;simp only[aF]
        refine cP 28 ?_;simp only[aF]
        refine cP 29 ?_;simp only[aF]
        refine cP 30 ?_;simp only[aF]
        refine cP 31 ?_;simp only[aF]
        refine cP 32 ?_;simp only[aF]
        refine cP 33 ?_;simp only[aF]
        refine cP 34 ?_;simp only[aF]
        refine cP 35 ?_;simp only[aF]
        refine cP 36 ?_;simp only[aF]
        refine cP 37 ?_;simp only[aF]
        refine cP 38 ?_;simp only[aF]
        refine cP 39 ?_;simp only[aF]
        refine cP 40 ?_;simp only[aF]
        refine cP 41 ?_;simp only[aF]
        refine cP 42 ?_;simp only[aF]
        refine cP 43 ?_;simp only[aF]
        refine cP 44 ?_;simp only[aF]
        refine cP 45 ?_;simp only[aF]
        refine aN 46 ?_;simp only[aF]
        refine wpAnyH_done (by kernel_rfl) ?_ _
        clear hHeld
        go_wp2
        go_ret
        exact NOTHING.out _ ((aA GQ.out).trans G6.out) HN.out
       ·skip
        refine aN 25 ?_;simp only[aF]
        refine aN 26 ?_;simp only[aF]
        refine aN 27 ?_;simp only[aF]
        refine aN 28 ?_;simp only[aF]
        refine aN 29 ?_;simp only[aF]
        refine aN 30 ?_;simp only[aF]
        refine bV 31 (fun _ h=>h.1.c 2 _ rfl) ?_;simp only[aF]
        refine aN 32 ?_;simp only[aF]
        by_cases t5:P.it.sh=no
        ·have t5a:(P.it.sh==(no:Int))=true:=by simpa using t5
         refine aN 33 ?_;simp only[aF]
         refine aN 34 ?_;simp only[aF]
         refine aN 35 ?_;simp only[aF]
         refine aN 36 ?_;simp only[aF]
         refine aN 37 ?_;simp only[aF]
         refine bV 38 (fun _ h=>h.1.c 3 _ rfl) ?_;simp only[aF]
         refine aN 39 ?_;simp only[aF]
         refine aN 40 ?_;simp only[aF]
         refine aN 41 ?_;simp only[aF]
         refine aN 42 ?_;simp only[aF]
         refine bV 43 (fun _ h=>h.2.1.c 4 _ rfl) ?_;simp only[aF]
         by_cases t4:(y1.sh no).ms.m<P.it.nu
         ·have HN:=Hid.mk' (no_of.out _ (fun x e=>by have:=e.2.2.2;omega) t4)
          refine aN 44 ?_;simp only[aF]
          refine aN 45 ?_;simp only[aF]
          refine aN 46 ?_;simp only[aF]
          refine wpAnyH_done (by kernel_rfl) ?_ _
          clear hHeld
          go_wp2
          go_ret
          exact NOTHING.out _ ((aA GQ.out).trans G6.out) HN.out
         ·have may:(y1.sh no).mayArr P.it=true:=MA.out.2 ⟨t1,t2f,by omega,by omega⟩
          refine aN 44 ?_;simp only[aF]
          refine aN 45 ?_;simp only[aF]
          refine aN 46 ?_;simp only[aF]
          refine wpAnyH_done (by kernel_rfl) ?_ _
          clear t1 t1b t2 t2f fx0 t5 t5a t4
          have z1:=hHeld.1.c 1 _ rfl
          have z2:=hHeld.1.c 2 _ rfl
          have z3:=hHeld.1.c 3 _ rfl
          have z4:=hHeld.1.c 4 _ rfl
          have z5:=hHeld.1.c 5 _ rfl
          obtain ⟨jr,j0,j1,pt⟩:=ALL.out may
          have JR:=Hid.mk' jr
          have J0:=Hid.mk' j0
          have J1:=Hid.mk' j1
          have PT:=Hid.mk' pt
          clear jr j0 j1 pt may MA ALL no_of DF t3
          go_wp2_with fail
          clear z1 z2 z3 z4 z5
          refine Calls.mono (JR.out _ ((aA GQ.out).trans G6.out)) ?_
          rintro e w7 ⟨rfl,d7,x7,o7⟩
          have f1:=(hHeld.1.only o7 NBR.out).c 1 _ rfl
          have D7:=Hid.mk' d7
          have X7:=Hid.mk' x7
          have O7:Hid (Only w3 w7 (fun j=>D j∨w0.heap.size<=j)):=((Only.grown ((aA GQ.out).trans G6.out)).mono (by simp)).trans (o7.mono (fun j _ e=>.inl (PD.out j e)))
          clear d7 x7 o7 hHeld
          by_cases hj:((y1.sh no).jrn (bE P.seq P.it)).1=0
          ·have JZ:=Hid.mk' (J0.out hj)
           rw[hj]
           clear hj J0 J1
           go_wp2_with fail
           refine Calls.mono (EN.out _) ?_
           rintro e w8 ⟨rfl,g8⟩
           have P8:=Hid.mk' (PT.out _ (X7.out.grown g8) (O7.out.trans ((Only.grown g8).mono (by simp))))
           clear g8
           go_wp2_with fail
           refine Calls.mono P8.out ?_
           rintro e w9 ⟨rfl,d9⟩
           go_wp2
           go_ret
           exact ⟨by rw[JZ.out];rfl,by rw[JZ.out];exact d9⟩
          ·have JZ:=Hid.mk' (J1.out hj)
           have hjb:(((y1.sh no).jrn (bE P.seq P.it)).1 !=0)=true:=by simpa using hj
           clear hj J0 J1
           generalize ((y1.sh no).jrn (bE P.seq P.it)).1=zj at *
           go_wp2
           go_ret
           exact ⟨by rw[JZ.out];rfl,by rw[JZ.out];exact D7.out⟩
        ·have t5a:(P.it.sh==(no:Int))=false:=by simpa using t5
         have may:(y1.sh no).mayArr P.it=true:=MA.out.2 ⟨t1,t2f,by omega,by omega⟩
         refine aN 33 ?_;simp only[aF]
         refine aN 34 ?_;simp only[aF]
         refine cP 35 ?_;simp only[aF]
         refine cP 36 ?_;simp only[aF]
         refine cP 37 ?_;simp only[aF]
         refine cP 38 ?_;simp only[aF]
         refine cP 39 ?_;simp only[aF]
         refine cP 40 ?_;simp only[aF]
         refine cP 41 ?_;simp only[aF]
         refine cP 42 ?_;simp only[aF]
         refine cP 43 ?_;simp only[aF]
         refine cP 44 ?_;simp only[aF]
         refine aN 45 ?_;simp only[aF]
         refine aN 46 ?_;simp only[aF]
         refine wpAnyH_done (by kernel_rfl) ?_ _
         clear t1 t1b t2 t2f fx0 t5 t5a
         have z1:=hHeld.1.c 1 _ rfl
         have z2:=hHeld.1.c 2 _ rfl
         have z3:=hHeld.1.c 3 _ rfl
         have z4:=hHeld.1.c 4 _ rfl
         have z5:=hHeld.1.c 5 _ rfl
         obtain ⟨jr,j0,j1,pt⟩:=ALL.out may
         have JR:=Hid.mk' jr
         have J0:=Hid.mk' j0
         have J1:=Hid.mk' j1
         have PT:=Hid.mk' pt
         clear jr j0 j1 pt may MA ALL no_of DF t3
         go_wp2_with fail
         clear z1 z2 z3 z4 z5
         refine Calls.mono (JR.out _ ((aA GQ.out).trans G6.out)) ?_
         rintro e w7 ⟨rfl,d7,x7,o7⟩
         have f1:=(hHeld.1.only o7 NBR.out).c 1 _ rfl
         have D7:=Hid.mk' d7
         have X7:=Hid.mk' x7
         have O7:Hid (Only w3 w7 (fun j=>D j∨w0.heap.size<=j)):=((Only.grown ((aA GQ.out).trans G6.out)).mono (by simp)).trans (o7.mono (fun j _ e=>.inl (PD.out j e)))
         clear d7 x7 o7 hHeld
         by_cases hj:((y1.sh no).jrn (bE P.seq P.it)).1=0
         ·have JZ:=Hid.mk' (J0.out hj)
          rw[hj]
          clear hj J0 J1
          go_wp2_with fail
          refine Calls.mono (EN.out _) ?_
          rintro e w8 ⟨rfl,g8⟩
          have P8:=Hid.mk' (PT.out _ (X7.out.grown g8) (O7.out.trans ((Only.grown g8).mono (by simp))))
          clear g8
          go_wp2_with fail
          refine Calls.mono P8.out ?_
          rintro e w9 ⟨rfl,d9⟩
          go_wp2
          go_ret
          exact ⟨by rw[JZ.out];rfl,by rw[JZ.out];exact d9⟩
         ·have JZ:=Hid.mk' (J1.out hj)
          have hjb:(((y1.sh no).jrn (bE P.seq P.it)).1 !=0)=true:=by simpa using hj
          clear hj J0 J1
          generalize ((y1.sh no).jrn (bE P.seq P.it)).1=zj at *
          go_wp2
          go_ret
          exact ⟨by rw[JZ.out];rfl,by rw[JZ.out];exact D7.out⟩
     ·have HN:=Hid.mk' (no_of.out _ (fun x e=>x e.1) t1)
      have t1b:(cK P.it.pl !=(no:Int))=true:=by simpa using t1
      refine aN 5 ?_;simp only[aF]
      refine aN 6 ?_;simp only[aF]
      refine cP 7 ?_;simp only[aF]
      refine cP 8 ?_;simp only[aF]
      refine cP 9 ?_;simp only[aF]
      refine cP 10 ?_;simp only[aF]
      refine cP 11 ?_;simp only[aF]
      refine cP 12 ?_;simp only[aF]
      refine aN 13 ?_;simp only[aF]
      refine aN 14 ?_;simp only[aF]
      refine cP 15 ?_;simp only[aF]
      refine cP 16 ?_;simp only[aF]
      refine cP 17 ?_;simp only[aF]
      refine cP 18 ?_;simp only[aF]
      refine cP 19 ?_;simp only[aF]
      refine cP 20 ?_;simp only[aF]
      refine cP 21 ?_;simp only[aF]
      refine cP 22 ?_;simp only[aF]
      refine cP 23 ?_;simp only[aF]
      refine cP 24 ?_;simp only[aF]
      refine cP 25 ?_;simp only[aF]
      refine aN 26 ?_;simp only[aF]
      refine aN 27 ?_;simp only[aF]
      refine cP 28 ?_;simp only[aF]
      refine cP 29 ?_;simp only[aF]
      refine cP 30 ?_;simp only[aF]
      refine cP 31 ?_;simp only[aF]
      refine cP 32 ?_;simp only[aF]
      refine cP 33 ?_;simp only[aF]
      refine cP 34 ?_;simp only[aF]
      refine cP 35 ?_;simp only[aF]
      refine cP 36 ?_;simp only[aF]
      refine cP 37 ?_;simp only[aF]
      refine cP 38 ?_;simp only[aF]
      refine cP 39 ?_;simp only[aF]
      refine cP 40 ?_;simp only[aF]
      refine cP 41 ?_;simp only[aF]
      refine cP 42 ?_;simp only[aF]
      refine cP 43 ?_;simp only[aF]
      refine cP 44 ?_;simp only[aF]
      refine cP 45 ?_;simp only[aF]
      refine aN 46 ?_;simp only[aF]
      refine wpAnyH_done (by kernel_rfl) ?_ _
      clear hHeld
      go_wp2
      go_ret
      exact NOTHING.out _ (aA GQ.out) HN.out
   ·by_cases h8:P.kind=8
    ·have huu:=aCm PGH.out HI.out hu
     have ST:=Hid.mk' (dP bq q0 q1 cI cO cJ y1.s0 y1.s1 r0 r1 no w3 X3.out.ry PGH.out huu)
     have HU:=Hid.mk' hu
     have GD:=Hid.mk' (PGH.out.at HI.out)
     have QB:=Hid.mk' (aIF (show (cF l).kind=8 by rw[HP.out];exact h8))
     rw[HP.out] at QB
     have HE:Hid (y1.heard no l=(((y1.sh no).hearAck P.seq).1,y1.setSh no ((y1.sh no).hearAck P.seq).2)):=by
      show _=_
      unfold Pr.heard Sh.hear
      rw[if_neg (by rw[hu];simp),HP.out,if_neg h7,if_pos h8]
      simp only
      rw[kM]
     have k7:(P.kind !=7)=true:=by simpa using h7
     have k8:(P.kind !=8)=false:=by simpa using h8
     have k8':(P.kind==8)=true:=by simpa using h8
     clear hu h7 h8 huu
     go_wp2_with fail
     refine Calls.mono ST.out ?_
     rintro e w4 ⟨bs,vi,vo,rfl,sg⟩
     have SG:=Hid.mk' sg
     have c5:=sg.at_.c 5 _ rfl
     have c6:=sg.at_.c 6 _ rfl
     have a0:=(AR.out.grown sg.g).c 0 _ rfl
     have a1:=(AR.out.grown sg.g).c 1 _ rfl
     have ES:Hid ((aC y1.s0 y1.s1 no).ds.ms=(y1.sh no).ms):=rfl
     rw[ES.out] at c5 c6
     clear sg e0 p0 u0c
     by_cases hc:P.seq<=(y1.sh no).ms.a∨(y1.sh no).ms.s<P.seq
     ·have HN:Hid (y1.heard no l=(0,y1)):=by
       show _=_
       rw[HE.out]
       unfold Sh.hearAck
       rw[if_pos hc]
       simp only
       rw[kL HI.out]
      rcases Classical.em (P.seq<=(y1.sh no).ms.a) with d1 | d1
      ·clear hc
       generalize (y1.sh no).ms.a=ma at *
       generalize (y1.sh no).ms.s=ms at *
       go_wp2_with fail
       go_quiet (fail)
       go_wp2
       go_ret
       exact NOTHING.out _ (aL SG.out.g nq) HN.out
      ·have d2:(y1.sh no).ms.s<P.seq:=by omega
       clear hc
       generalize (y1.sh no).ms.a=ma at *
       generalize (y1.sh no).ms.s=ms at *
       go_wp2_with fail
       go_quiet (fail)
       go_wp2
       go_ret
       exact NOTHING.out _ (aL SG.out.g nq) HN.out
     ·have d1:¬P.seq<=(y1.sh no).ms.a:=fun e=>hc (.inl e)
      have d2:¬(y1.sh no).ms.s<P.seq:=fun e=>hc (.inr e)
      have AG:=Hid.mk' (aAV GD.out.1 HU.out (q:=P.seq) (by have:¬P.seq<=(aC y1.s0 y1.s1 no).ms.a:=d1;omega) (by have:¬(aC y1.s0 y1.s1 no).ms.s<P.seq:=d2;omega))
      have H2:Hid ((y1.sh no).hearAck P.seq=(y1.sh no).jrn (dN P.seq)):=if_neg hc
      have JR:Hid (∀W,w3.grownBy W none->Calls prog 98 #[.pointer (some ⟨bq,0,none⟩),.int .i64 no,.agg #[.int .i64 5,.int .i64 P.seq,.int .i64 0,.int .i64 0,.float .f32 0,.float .f32 0,.int .i64 0,.int .i64 0,.int .i64 0,.int .i64 0,.int .i64 0,.slice none 0 0,.slice none 0 0]] W fun e w'=>e=.returned (.int .i64 (y1.heard no l).1)/\DSn w0 w' bq D (y1.heard no l).2):=Hid.mk' fun W gW=>by
       obtain ⟨g,hn,e1,e2,e3⟩:=GD.out
       have hW:=X3.out.grown gW
       refine (gB bq q0 q1 cI cO cJ _ _ no (aC r0 r1 no) (dN P.seq) W hW.ry.at_ (hW.ry.at HI.out).1 HI.out g.rok g.kb (by rw[g.rct];exact g.ct) (by have:=g.j1;rw[<- e3];omega) (sM QB.out.2.1 QB.out.2.2) ⟨rfl,rfl⟩ (hW.ry.at HI.out).2).mono ?_
       rintro e w2 ⟨rfl,a2,o2⟩
       rw[<- e3] at a2 ⊢
       rw[HE.out,H2.out]
       exact ⟨by rw[AG.out.1];rfl,DSn.trans O3.out (DSn.grown gW (hW.ds B3.out PGH.out HI.out a2 o2 AG.out.2 (kY _ _)))⟩
      clear hc AG H2
      generalize (y1.sh no).ms.a=ma at *
      generalize (y1.sh no).ms.s=ms at *
      go_wp2_with fail
      go_quiet (fail)
      go_wp2_with fail
      refine Calls.mono (JR.out _ (aL SG.out.g nq)) ?_
      rintro e w5 ⟨rfl,d5⟩
      go_wp2
      go_ret
      exact ⟨rfl,d5⟩
    ·have hN:y1.heard no l=(0,y1):=zK HI.out (fun _=>by unfold Sh.hear;rw[HP.out,if_neg h7,if_neg h8])
     have HN:=Hid.mk' hN
     have k7:(P.kind !=7)=true:=by simpa using h7
     have k8:(P.kind !=8)=true:=by simpa using h8
     clear hN hu h7 h8
     go_wp2
     go_ret
     exact NOTHING.out _ (aD _ _) HN.out
 ·have hN:y1.heard no l=(0,y1):=zK HI.out (fun _=>by unfold Sh.hear;rw[HP.out,HZ.out hz,if_neg (by decide),if_neg (by decide)])
  have HN:=Hid.mk' hN
  have kz:(z !=0)=true:=by simpa using hz
  clear hN hz
  go_wp2
  go_ret
  exact NOTHING.out _ (aD _ _) HN.out
theorem aBp {w:World}{bq:Nat}{D:Nat->Prop}{y:Pr}(h:DS w bq D y)(i k:Int):Calls prog 56 #[.pointer (some ⟨bq,0,none⟩),.int .i64 i,.int .i64 k] w fun e w'=>e=.returned (.int .i64 (y.deliver i k).1)/\DSn w w' bq D (y.deliver i k).2:=by
 have h0:=h
 obtain ⟨cI,cO,cJ,r0,r1,q0,q1,v0,v1,hx,pg,hD⟩:=h
 by_cases hu:kP y.f0 y.f1 i k=0
 ·obtain ⟨hi,hk⟩:=aCj hu
  obtain ⟨n,rfl⟩:∃n:Nat,k=n:=⟨k.toNat,by have:=hk.1;omega⟩
  obtain ⟨no,rfl⟩:∃n:Nat,i=n:=⟨i.toNat,by unfold aV at hi;omega⟩
  exact wK hx pg hD no (by unfold aV at hi;omega) n (by have:=hk.2;show n<(aC y.f0 y.f1 no).length;omega)
 ·have E:Hid (y.deliver i k=(kP y.f0 y.f1 i k,y)):=if_pos hu
  rw[E.out]
  have U:=Hid.mk' (jK hx i k)
  have cb:(kP y.f0 y.f1 i k !=0)=true:=by simpa using hu
  have H0:=Hid.mk' h0
  generalize kP y.f0 y.f1 i k=z at *
  clear hu hx pg hD h0 E
  go_enter func56,ntmps56
  go_wp2_with fail
  refine Calls.mono U.out ?_
  rintro e w1 ⟨rfl,rfl⟩
  go_wp2
  go_ret
  exact ⟨rfl,H0.out.same⟩
theorem zL (bw n:Nat)(G:Nat->Prop)(sh k m x y:Int)(pl sp:Nat)(t:ByteArray)(w:World)(h:LI w bw G n):
  Calls prog 22 #[.pointer (some ⟨bw,0,none⟩),.agg #[.int .i64 9,.int .i64 sh,.int .i64 k,.int .i64 m,.int .i64 x,.int .i64 y,.float .f32 pl,.float .f32 sp,.string t]] w fun e w'=>e=.returned (.bool true)/\LIn w w' bw G n:=by
 obtain ⟨bp,bq,bk,A,D,R,p,h,hG⟩:=h
 have BX:Hid (∀W,w.grownBy W none->Calls prog 30 #[.pointer (some ⟨bp,0,none⟩),.int .i64 sh,.int .i64 k] W fun e w1=>e=.returned (.int .i64 (p.deliver sh k).1)/\PN W w1 bp A (p.deliver sh k).2):=Hid.mk' fun W gW=>aBa (h.pw.grown gW) h.ds.gd sh k
 have BY:Hid (∀W,DS W bq D p->Calls prog 56 #[.pointer (some ⟨bq,0,none⟩),.int .i64 sh,.int .i64 k] W fun e w2=>e=.returned (.int .i64 (p.deliver sh k).1)/\DSn W w2 bq D (p.deliver sh k).2):=Hid.mk' fun W hd=>aBp hd sh k
 obtain ⟨G0,AX,AW,H,HG⟩:=dH h hG [.int .i64 9,.int .i64 sh,.int .i64 k,.int .i64 m,.int .i64 x,.int .i64 y,.float .f32 pl,.float .f32 sp,.string t]
 clear h hG
 generalize (p.deliver sh k).1=z at *
 generalize (p.deliver sh k).2=p' at *
 go_enter func22,ntmps22
 go_wp2_with fail
 refine wp_region_held_drew (S:=fun w'=>At w' bw (LC bp bq bk)/\At w' w.heap.size (AC 9 sh k m x y pl sp t)) (by kernel_rfl) (⟨AW.out.drew,AX.out.drew⟩) (fun hHeld=>?_)
 refine aN 0 ?_;simp only[aF]
 refine aN 1 ?_;simp only[aF]
 refine aN 2 ?_;simp only[aF]
 refine bV 3 (fun _ h=>h.1.c 0 _ rfl) ?_;simp only[aF]
 refine aN 4 ?_;simp only[aF]
 refine bV 5 (fun _ h=>h.2.c 1 _ rfl) ?_;simp only[aF]
 refine aN 6 ?_;simp only[aF]
 refine bV 7 (fun _ h=>h.2.c 2 _ rfl) ?_;simp only[aF]
 refine aX 8 (f:=30) (args:=#[.pointer (some ⟨bp,0,none⟩),.int .i64 sh,.int .i64 k]) (by kernel_rfl) (by rfl) (by rfl) (by go_simp) ?_
 refine Calls.mono (BX.out _ (aA G0.out)) ?_
 rintro e w1 ⟨rfl,n1⟩
 have h1:=H.out.held1 n1 hHeld
 have N1:=Hid.mk' n1
 clear hHeld n1
 have hHeld:=h1
 refine ⟨_,rfl,hHeld,?_⟩;simp only[aF]
 refine aN 9 ?_;simp only[aF]
 refine wpAnyH_done (by kernel_rfl) ?_ _
 have H1:=Hid.mk' hHeld
 clear hHeld h1
 go_wp2_with fail
 refine wp_region_held_drew (S:=fun w'=>At w' bw (LC bp bq bk)/\At w' w.heap.size (AC 9 sh k m x y pl sp t)) (by kernel_rfl) (⟨H1.out.1.drew,H1.out.2.drew⟩) (fun hHeld=>?_)
 refine aN 0 ?_;simp only[aF]
 refine aN 1 ?_;simp only[aF]
 refine aN 2 ?_;simp only[aF]
 refine bV 3 (fun _ h=>h.1.c 1 _ rfl) ?_;simp only[aF]
 refine aN 4 ?_;simp only[aF]
 refine bV 5 (fun _ h=>h.2.c 1 _ rfl) ?_;simp only[aF]
 refine aN 6 ?_;simp only[aF]
 refine bV 7 (fun _ h=>h.2.c 2 _ rfl) ?_;simp only[aF]
 refine aX 8 (f:=56) (args:=#[.pointer (some ⟨bq,0,none⟩),.int .i64 sh,.int .i64 k]) (by kernel_rfl) (by rfl) (by rfl) (by go_simp) ?_
 refine Calls.mono (BY.out _ (H.out.ds1 (aA G0.out) N1.out (aA (aD _ _)))) ?_
 rintro e w2 ⟨rfl,n2⟩
 have h2:=H.out.held2 n2 hHeld
 have N2:=Hid.mk' n2
 clear hHeld n2
 have hHeld:=h2
 refine ⟨_,rfl,hHeld,?_⟩;simp only[aF]
 refine aN 9 ?_;simp only[aF]
 refine wpAnyH_done (by kernel_rfl) ?_ _
 clear hHeld h2
 have hzz:(z==z)=true:=by simp
 go_wp2
 go_ret
 exact ⟨rfl,H.out.both (aA G0.out) N1.out (aA (aD _ _)) N2.out HG.out⟩
theorem aIo (t:ByteArray):∃l,t=S l:=⟨t.data.toList,by cases t;rfl⟩
structure Ac where
 K:Int
 sh:Int
 k:Int
 m:Int
 x:Int
 y:Int
 pl:Nat
 sp:Nat
 t:ByteArray
def Ac.cells (a:Ac):List Value:=[.int .i64 a.K,.int .i64 a.sh,.int .i64 a.k,.int .i64 a.m,.int .i64 a.x,.int .i64 a.y,.float .f32 a.pl,.float .f32 a.sp,.string a.t]
structure Ac.Ok (a:Ac):Prop where
 k:bD a.k
 m:bD a.m
 x:bD a.x
 y:bD a.y
 pl:a.pl<4294967296
 sp:a.sp<4294967296
theorem zM (bw n:Nat)(G:Nat->Prop)(a:Ac)(w:World)(h:LI w bw G n)(hn:n<=9000000):
  Calls prog 62 #[.pointer (some ⟨bw,0,none⟩),.agg #[.int .i64 a.K,.int .i64 a.sh,.int .i64 a.k,.int .i64 a.m,.int .i64 a.x,.int .i64 a.y,.float .f32 a.pl,.float .f32 a.sp,.string a.t]] w fun e w'=>e=.returned (.bool true)/\LIn w w' bw G (n+4):=by
 obtain ⟨K,sh,k,m,x,y,pl,sp,t⟩:=a
 by_cases h14:K=14
 ·subst h14;exact aDX bw n G sh k m x y pl sp t w h hn
 by_cases h15:K=15
 ·subst h15;exact aBn bw n G sh k m x y pl sp t w h hn
 by_cases h16:K=16
 ·subst h16;exact aDY bw n G sh k m x y pl sp t w h
 by_cases h17:K=17
 ·subst h17;exact aBo bw n G sh k m x y pl sp t w h hn
 by_cases h18:K=18
 ·subst h18;exact aGH bw n G sh k m x y pl sp t w h hn
 exact aGI bw n G K sh k m x y pl sp t w h (fun c h1 h2=>by show K≠c;omega)
theorem aEa (bw n:Nat)(G:Nat->Prop)(a:Ac)(w:World)(h:LI w bw G n)(hn:n<=9000000)(hK:∀c:Int,1<=c->c<=13->a.K≠c):
  Calls prog 22 #[.pointer (some ⟨bw,0,none⟩),.agg #[.int .i64 a.K,.int .i64 a.sh,.int .i64 a.k,.int .i64 a.m,.int .i64 a.x,.int .i64 a.y,.float .f32 a.pl,.float .f32 a.sp,.string a.t]] w fun e w'=>e=.returned (.bool true)/\LIn w w' bw G (n+4):=by
 have g0:=World.grownBy_alloc w (.cells #[.int .i64 a.K,.int .i64 a.sh,.int .i64 a.k,.int .i64 a.m,.int .i64 a.x,.int .i64 a.y,.float .f32 a.pl,.float .f32 a.sp,.string a.t] 35) none
 have AS:=Hid.mk' (zM bw n G a _ (h.grown g0) hn)
 have G0:=Hid.mk' g0
 have e1:(a.K==1)=false:=by have:=hK 1 (by omega) (by omega);simpa using this
 have e2:(a.K==2)=false:=by have:=hK 2 (by omega) (by omega);simpa using this
 have e3:(a.K==3)=false:=by have:=hK 3 (by omega) (by omega);simpa using this
 have e4:(a.K==4)=false:=by have:=hK 4 (by omega) (by omega);simpa using this
 have e5:(a.K==5)=false:=by have:=hK 5 (by omega) (by omega);simpa using this
 have e6:(a.K==6)=false:=by have:=hK 6 (by omega) (by omega);simpa using this
 have e7:(a.K==7)=false:=by have:=hK 7 (by omega) (by omega);simpa using this
 have e8:(a.K==8)=false:=by have:=hK 8 (by omega) (by omega);simpa using this
 have e9:(a.K==9)=false:=by have:=hK 9 (by omega) (by omega);simpa using this
 have e10:(a.K==10)=false:=by have:=hK 10 (by omega) (by omega);simpa using this
 have e11:(a.K==11)=false:=by have:=hK 11 (by omega) (by omega);simpa using this
 have e12:(a.K==12)=false:=by have:=hK 12 (by omega) (by omega);simpa using this
 have e13:(a.K==13)=false:=by have:=hK 13 (by omega) (by omega);simpa using this
 clear h hK g0
 go_enter func22,ntmps22
 go_wp2_with fail
 refine Calls.mono AS.out ?_
 rintro e w1 ⟨rfl,l1⟩
 go_wp2
 go_ret
 exact ⟨rfl,LIn.grown G0.out l1⟩
theorem wL (bw n:Nat)(G:Nat->Prop)(a:Ac)(w:World)(h:LI w bw G n)(hn:n<=9000000)(ok:a.Ok):
  Calls prog 22 #[.pointer (some ⟨bw,0,none⟩),.agg #[.int .i64 a.K,.int .i64 a.sh,.int .i64 a.k,.int .i64 a.m,.int .i64 a.x,.int .i64 a.y,.float .f32 a.pl,.float .f32 a.sp,.string a.t]] w fun e w'=>e=.returned (.bool true)/\LIn w w' bw G (n+4):=by
 have mo:∀(e:Ending) (w':World),(e=.returned (.bool true)/\LIn w w' bw G n)->e=.returned (.bool true)/\LIn w w' bw G (n+4):=fun e w' h=>⟨h.1,h.2.mono (by omega)⟩
 obtain ⟨k1,k2,k3,k4,k5,k6⟩:=ok
 by_cases ho:∀c:Int,1<=c->c<=13->a.K≠c
 ·exact aEa bw n G a w h hn ho
 ·obtain ⟨K,sh,k,m,x,y,pl,sp,t⟩:=a
  simp only at k1 k2 k3 k4 k5 k6 ho ⊢
  have hK':1<=K/\K<=13:=by
   refine Decidable.byContradiction fun hh=>ho (fun c c1 c2 e=>?_)
   omega
  rcases (by omega:K=1∨K=2∨K=3∨K=4∨K=5∨K=6∨K=7∨K=8∨K=9∨K=10∨K=11∨K=12∨K=13) with rfl | rfl | rfl | rfl | rfl | rfl | rfl | rfl | rfl | rfl | rfl | rfl | rfl
  ·exact (aGD bw n G sh k m x y pl sp t w h k5 k6).mono mo
  ·exact (zH bw n G sh k m x y pl sp t w h k3 k4).mono mo
  ·exact (aGz bw n G sh k m x y pl sp t w h).mono mo
  ·exact (aGA bw n G sh k m x y pl sp t w h).mono mo
  ·exact (aDP bw n G sh k m x y pl sp t w h k1 k2).mono mo
  ·exact (aDQ bw n G sh k m x y pl sp t w h k2).mono mo
  ·exact (zI bw n G sh k m x y pl sp t w h).mono mo
  ·exact (aGB bw n G sh k m x y pl sp t w h).mono mo
  ·exact (zL bw n G sh k m x y pl sp t w h).mono mo
  ·exact (aGC bw n G sh k m x y pl sp t w h).mono mo
  ·exact (aBl bw n G sh k m x y pl sp t w h).mono mo
  ·exact (aDR bw n G sh k m x y pl sp t w h).mono mo
  ·obtain ⟨l,rfl⟩:=aIo t
   exact (aBm bw n G sh k m x y pl sp l w h).mono mo
def aGK (K sh k:Int):Ac:=⟨K,sh,k,0,0,0,0,0,⟨#[]⟩⟩
theorem aCn (bw n:Nat)(G:Nat->Prop)(w:World)(h:LI w bw G n)(hn:n<=8000000):
  Calls prog 64 #[.pointer (some ⟨bw,0,none⟩)] w fun e w'=>e=.returned (.bool true)/\LIn w w' bw G (n+320):=by
 have L0:=Hid.mk' h
 clear h
 go_enter func64,ntmps64
 go_wp2_with fail
 go_loopw [3,4] (fun b s wr=>∃i:Nat,i<=4/\b=.bool true/\s=.int .i64 ((i:Int) -1)/\LIn w wr bw G (n+80 * i)) (fun _ s _=>4 -(intOf s+1).toNat)
 case atStart=>exact ⟨0,by omega,rfl,rfl,L0.out.grew (aD _ _)⟩
 case round=>
  clear L0
  obtain ⟨i,hi,rfl,rfl,li⟩:=hrel
  have L1:=Hid.mk' li
  clear li
  by_cases hlt:i<4
  ·have x1:(i:Int) -1<=2:=by omega
   go_wp2_with fail
   go_loopw [3,5] (fun b s wr=>∃q:Nat,q<=5/\b=.bool true/\s=.int .i64 (14+(q:Int))/\LIn w wr bw G (n+80 * i+16 * q)) (fun _ s _=>5 -(intOf s -14).toNat)
   case atStart=>exact ⟨0,by omega,rfl,rfl,L1.out⟩
   case round=>
    clear L1
    obtain ⟨q,hq,rfl,rfl,li⟩:=hrel
    have L1:=Hid.mk' li
    clear li
    by_cases hql:q<5
    ·have x2:14+(q:Int)<=18:=by omega
     go_wp2_with fail
     go_loopw [3,6] (fun b s wr=>∃r:Nat,r<=4/\b=.bool true/\s=.int .i64 ((r:Int) -1)/\LIn w wr bw G (n+80 * i+16 * q+4 * r)) (fun _ s _=>4 -(intOf s+1).toNat)
     case atStart=>exact ⟨0,by omega,rfl,rfl,L1.out⟩
     case round=>
      clear L1
      obtain ⟨r,hr,rfl,rfl,li⟩:=hrel
      have L1:=Hid.mk' li
      clear li
      by_cases hrl:r<4
      ·have x3:(r:Int) -1<=2:=by omega
       go_wp2_with fail
       refine Calls.mono (zM bw _ _ (aGK (14+(q:Int)) ((i:Int) -1) ((r:Int) -1)) _ L1.out.1 (by omega)) ?_
       rintro e w1 ⟨rfl,l1⟩
       go_wp2
       exact ⟨⟨r+1,by omega,rfl,by go_num,by rw[show n+80 * i+16 * q+4 * (r+1)=n+80 * i+16 * q+4 * r+4 by omega];exact L1.out.trans l1⟩,by simp[intOf];omega⟩
      ·have x3:¬(r:Int) -1<=2:=by omega
       obtain rfl:r=4:=by omega
       go_wp2
       exact ⟨⟨q+1,by omega,rfl,by go_num,by rw[show n+80 * i+16 * (q+1)=n+80 * i+16 * q+4 * 4 by omega];exact L1.out⟩,by simp[intOf];omega⟩
    ·have x2:¬14+(q:Int)<=18:=by omega
     obtain rfl:q=5:=by omega
     go_wp2
     exact ⟨⟨i+1,by omega,rfl,by go_num,by rw[show n+80 * (i+1)=n+80 * i+16 * 5 by omega];exact L1.out⟩,by simp[intOf];omega⟩
  ·have x1:¬(i:Int) -1<=2:=by omega
   obtain rfl:i=4:=by omega
   go_wp2
   go_ret
   exact ⟨rfl,L1.out⟩
theorem LI.looks {w:World}{bw n:Nat}{G:Nat->Prop}(h:LI w bw G n)(hn:n<=10000000):∃bk,w.cell? ⟨bw,2,none⟩=some (.pointer (some ⟨bk,0,none⟩))/\Calls prog 23 #[.pointer (some ⟨bk,0,none⟩)] w fun e w'=>e=.returned (.bool true)/\w.grownBy w' none:=by
 obtain ⟨bp,bq,bk,A,D,R,p,lm,hG⟩:=h
 obtain ⟨nI,nE,nT,h1,h2,h3,hb⟩:=lm.bo
 exact ⟨bk,lm.lw.c 2 _ rfl,hb.looks (by omega) (by omega) (by omega)⟩
theorem aCo (K sh k:Int)(hk:bD k):(aGK K sh k).Ok:=⟨hk,by show bD 0;unfold bD;decide,by show bD 0;unfold bD;decide,by show bD 0;unfold bD;decide,by show (0:Nat)<_;decide,by show (0:Nat)<_;decide⟩
theorem aGL (bw n:Nat)(G:Nat->Prop)(w:World)(h:LI w bw G n)(hn:n<=7000000):
  Calls prog 24 #[.pointer (some ⟨bw,0,none⟩)] w fun e w'=>e=.returned (.bool true)/\Only w w' G:=by
 have A0:=Hid.mk' (aCn bw n G w h (by omega))
 clear h
 go_enter func24,ntmps24
 go_wp2_with fail
 refine Calls.mono A0.out ?_
 rintro e w1 ⟨rfl,l1⟩
 have L1:=Hid.mk' l1
 clear l1 A0
 go_wp2_with fail
 go_loopw [3,4] (fun b s wr=>∃i:Nat,i<=2/\b=.bool true/\s=.int .i64 i/\LIn w wr bw G (n+320+8 * i)) (fun _ s _=>2 -(intOf s).toNat)
 case atStart=>exact ⟨0,by omega,rfl,rfl,L1.out⟩
 case round=>
  clear L1
  obtain ⟨i,hi,rfl,rfl,li⟩:=hrel
  have L1:=Hid.mk' li
  clear li
  by_cases hlt:i<2
  ·go_wp2_with fail
   refine Calls.mono (wL bw _ _ (aGK 6 (i:Int) 0) _ L1.out.1 (by omega) (aCo _ _ _ (by unfold bD;decide))) ?_
   rintro e w2 ⟨rfl,l2⟩
   have L2:=Hid.mk' (L1.out.trans l2)
   clear l2
   go_wp2_with fail
   refine Calls.mono (wL bw _ _ (aGK 7 (i:Int) 0) _ L2.out.1 (by omega) (aCo _ _ _ (by unfold bD;decide))) ?_
   rintro e w3 ⟨rfl,l3⟩
   go_wp2
   exact ⟨⟨i+1,by omega,rfl,by go_num,by rw[show n+320+8 * (i+1)=n+320+8 * i+4+4 by omega];exact L2.out.trans l3⟩,by simp[intOf];omega⟩
  ·obtain rfl:i=2:=by omega
   go_wp2_with fail
   refine Calls.mono (aCn bw _ _ _ L1.out.1 (by omega)) ?_
   rintro e w2 ⟨rfl,l2⟩
   obtain ⟨bk,c2,lk⟩:=l2.1.looks (by omega)
   have LK:=Hid.mk' lk
   have O2:=Hid.mk' (L1.out.trans l2).2
   clear l2 lk
   go_wp2_with fail
   refine Calls.mono LK.out ?_
   rintro e w3 ⟨rfl,g3⟩
   go_wp2
   go_ret
   exact ⟨rfl,O2.out.trans ((Only.grown g3).mono (by simp))⟩
theorem Lst.none_ {w:World}{bk off:Nat}{e:TypeId}{MK:World->Value->Nat->Int->(Nat->Prop)->Prop}(c:w.cell? ⟨bk,off,none⟩=some (.slice none 0 0)):Lst w bk off e MK (.slice none 0 0) [] (fun _=>False):=
 ⟨c,World.ownsRow_nil _ _ _ _,by simp[Value.ownBlock],by simp,by simp,by simp⟩
theorem BK.new {w:World}{bk:Nat}(a:At w bk [.slice none 0 0,.slice none 0 0,.slice none 0 0]):BK w bk (fun j=>j=bk) 0 0 0:=
 ⟨_,_,_,[],[],[],fun _=>False,fun _=>False,fun _=>False,⟨a.lt,a.f,Lst.none_ (a.c 0 _ rfl),Lst.none_ (a.c 1 _ rfl),Lst.none_ (a.c 2 _ rfl),by simp[qG,Value.ownBlock],by simp[qG,Value.ownBlock],by simp[qG,Value.ownBlock],rfl,by simp[qG,Value.ownBlock],by simp[qG,Value.ownBlock],by simp[qG,Value.ownBlock]⟩,rfl,rfl,rfl⟩
theorem aJk {cI cO cJ:Int}(hv:mT cI cO cJ):PG cI cO cJ (sh1 0 cI cO cJ) (sh1 1 cI cO cJ) rs1 rs1:=by
 obtain ⟨⟨a1,a2⟩,⟨a3,a4⟩,⟨a5,a6⟩⟩:=hv
 have c0:=mD (Sh.init 0 cI cO cJ)
 have c1:=mD (Sh.init 1 cI cO cJ)
 exact ⟨uE 0 cI cO cJ (by decide) a1 a2 a3 a4 a6,uE 1 cI cO cJ (by decide) a1 a2 a3 a4 a6,c0.1,c1.1,c0.2,c1.2⟩
theorem aJl {W0 W1 W2 w':World}{bp bq q0 q1 bk bw:Nat}{cI cO cJ:Int}(hv:mT cI cO cJ)(pw:PW W1 bp (fun j=>W0.heap.size<=j) (Pr.new cI cO cJ))(z1:W0.heap.size<=W1.heap.size)
  (ry:RY W2 bq q0 q1 cI cO cJ rs1 rs1) (y1:W1.heap.size<=bq) (y2:W1.heap.size<=q0) (y3:W1.heap.size<=q1) (g2:W1.grownBy W2 none) (g3:W2.grownBy w' none) (hk:W2.heap.size<=bk) (hw:W2.heap.size<=bw) (hn:bk≠bw)
  (ak:At w' bk [.slice none 0 0,.slice none 0 0,.slice none 0 0]) (aw:At w' bw (LC bp bq bk)):LI w' bw (fun j=>W0.heap.size<=j) 0:=by
 have z2:=g2.size
 have z3:=g3.size
 have dx:DX w' bq q0 q1 cI cO cJ rs1 rs1 (.slice none 0 0) (.slice none 0 0) [] []:=⟨ry.grown g3,World.ownsRow_nil _ _ _ _,World.ownsRow_nil _ _ _ _,by simp[Value.ownBlock],by simp[Value.ownBlock],by simp[Value.ownBlock],by simp,by simp,by simp,by simp⟩
 refine ⟨bp,bq,bk,fun j=>W0.heap.size<=j/\j<W1.heap.size,fun j=>W1.heap.size<=j/\j<W2.heap.size,fun j=>j=bk,Pr.new cI cO cJ,⟨aw,(pw.mono (fun j h1 h2=>⟨h2,h1⟩)).grown (g2.trans g3),⟨cI,cO,cJ,rs1,rs1,q0,q1,_,_,dx,aJk hv,fun j hj=>?_⟩,⟨0,0,0,Nat.le_refl _,Nat.le_refl _,Nat.le_refl _,BK.new ak⟩,fun j hj=>?_,fun j hj=>?_,?_⟩,fun j hj=>?_⟩
 ·rcases hj with (rfl | rfl | rfl) | hj | hj
  ·exact ⟨y1,ry.at_.lt⟩
  ·exact ⟨y2,ry.a0.lt⟩
  ·exact ⟨y3,ry.a1.lt⟩
  ·cases hj
  ·cases hj
 ·exact ⟨by omega,by omega,fun e=>by omega,by omega⟩
 ·exact ⟨by omega,by omega,by omega⟩
 ·rintro j rfl;exact ⟨ak.lt,hn⟩
 ·rcases hj with rfl | hj | hj | rfl<;>omega
theorem aIp (cI cO cJ:Int)(w:World)(hv:¬mT cI cO cJ):
  Calls prog 21 #[.agg #[.int .i64 cI,.int .i64 cO,.int .i64 cJ]] w fun e w'=>e=.returned (.tuple #[.pointer none,.bool true])/\w.grownBy w' none:=by
 have G0:=Hid.mk' (World.grownBy_alloc w (.cells #[.int .i64 cI,.int .i64 cO,.int .i64 cJ] 23) none)
 have A0:=Hid.mk' (At.new w [.int .i64 cI,.int .i64 cO,.int .i64 cJ] 23)
 have P1:=Hid.mk' fun W=>aHY cI cO cJ W hv
 have R1:=Hid.mk' fun W=>aHX cI cO cJ W hv
 clear hv
 go_enter func21,ntmps21
 go_wp2_with fail
 refine Calls.mono (P1.out _) ?_
 rintro e w1 ⟨rfl,g1⟩
 have a1:=A0.out.grown g1
 have c0:=a1.c 0 _ rfl
 have c1:=a1.c 1 _ rfl
 have c2:=a1.c 2 _ rfl
 have G1:=Hid.mk' (G0.out.trans g1)
 clear g1 a1
 go_wp2_with fail
 refine Calls.mono (R1.out _) ?_
 rintro e w2 ⟨rfl,g2⟩
 have G2:=Hid.mk' (G1.out.trans g2)
 clear g2
 go_wp2
 go_ret2
 exact ⟨rfl,G2.out⟩
theorem aGM (cI cO cJ:Int)(w:World)(hv:mT cI cO cJ):
  Calls prog 21 #[.agg #[.int .i64 cI,.int .i64 cO,.int .i64 cJ]] w fun e w'=>∃bw,e=.returned (.tuple #[.pointer (some ⟨bw,0,none⟩),.bool true])/\LI w' bw (fun j=>w.heap.size<=j) 0/\w.grownBy w' none:=by
 have G0:=Hid.mk' (World.grownBy_alloc w (.cells #[.int .i64 cI,.int .i64 cO,.int .i64 cJ] 23) none)
 have A0:=Hid.mk' (At.new w [.int .i64 cI,.int .i64 cO,.int .i64 cJ] 23)
 have P1:=Hid.mk' fun W=>aJg cI cO cJ W hv
 have R1:=Hid.mk' fun W=>aGn cI cO cJ W hv
 have HV:=Hid.mk' hv
 clear hv
 go_enter func21,ntmps21
 go_wp2_with fail
 refine Calls.mono (P1.out _) ?_
 rintro e w1 ⟨bp,rfl,pp,x1,g1⟩
 have a1:=A0.out.grown g1
 have c0:=a1.c 0 _ rfl
 have c1:=a1.c 1 _ rfl
 have c2:=a1.c 2 _ rfl
 have z1:=g1.size
 have G1:=Hid.mk' (G0.out.trans g1)
 have PP1:=Hid.mk' pp
 have Z1:=Hid.mk' z1
 clear g1 a1 pp x1 z1
 go_wp2_with fail
 refine Calls.mono (R1.out _) ?_
 rintro e w2 ⟨bq,q0,q1,rfl,ry,y1,y2,y3,g2⟩
 have G2:=Hid.mk' g2
 have RY2:=Hid.mk' ry
 have Y1:=Hid.mk' y1
 have Y2:=Hid.mk' y2
 have Y3:=Hid.mk' y3
 clear g2 ry y1 y2 y3
 go_wp2
 go_ret2
 refine ⟨_,rfl,(aJl (W0:=w.alloc (.cells #[.int .i64 cI,.int .i64 cO,.int .i64 cJ] 23)) HV.out PP1.out Z1.out RY2.out Y1.out Y2.out Y3.out G2.out (cU w2 _ _) (Nat.le_refl _) (by simp) (by simp) ((At.new w2 [.slice none 0 0,.slice none 0 0,.slice none 0 0] 94).alloc _) ?_).within (fun j _ e=>by simp at e;omega),(G1.out.trans G2.out).trans (cU w2 _ _)⟩
 simpa using At.new (w2.alloc (.cells #[.slice none 0 0,.slice none 0 0,.slice none 0 0] 94)) [.pointer (some ⟨bp,0,none⟩),.pointer (some ⟨bq,0,none⟩),.pointer (some ⟨w2.heap.size,0,none⟩)] 64
theorem LI.big {W:World}{bw N n:Nat}(h:LI W bw (fun j=>N<j) n):N<W.heap.size:=by
 obtain ⟨bp,bq,bk,A,D,R,p,lm,hG⟩:=h
 exact Nat.lt_trans (hG bw (.inl rfl)) lm.lw.lt
theorem sP (as':List Ac)(k j:Nat)(hk:k<as'.length)(hj:j<9):(as'.flatMap Ac.cells)[9 * k+j]?=as'[k].cells[j]?:=by
 induction as' generalizing k with
 | nil=>simp at hk
 | cons a t ih=>
  rw[List.flatMap_cons]
  cases k with
  | zero=>rw[List.getElem?_append_left (by simp[Ac.cells];omega)];simp
  | succ k=>
   rw[List.getElem?_append_right (by simp[Ac.cells];omega)]
   rw[show 9 * (k+1)+j -a.cells.length=9 * k+j by simp[Ac.cells];omega]
   simpa using ih k (by simpa using hk)
def LiesA (w:World)(v:Value)(l:List Ac):Prop:=Lies w v l.length (l.flatMap Ac.cells)
theorem aGN (cI cO cJ:Int)(v:Value)(w:World)(hv:¬mT cI cO cJ):
  Calls prog 9 #[.agg #[.int .i64 cI,.int .i64 cO,.int .i64 cJ],v,.int .i64 13] w fun e w'=>e=.returned (.bool true)/\Only w w' (fun j=>w.heap.size<=j):=by
 have G0:=Hid.mk' (World.grownBy_alloc w (.cells #[.int .i64 cI,.int .i64 cO,.int .i64 cJ] 23) none)
 have M1:=Hid.mk' fun W=>aIp cI cO cJ W hv
 clear hv
 go_enter func9,ntmps9
 go_wp2_with fail
 refine Calls.mono (M1.out _) ?_
 rintro e w1 ⟨rfl,g1⟩
 have G1:=Hid.mk' (G0.out.trans g1)
 clear g1
 go_wp2
 go_ret
 exact ⟨rfl,(Only.grown G1.out).mono (by simp)⟩
theorem aEb (cI cO cJ:Int)(v:Value)(l:List Ac)(w:World)(hv:mT cI cO cJ)(hl:LiesA w v l)(hn:l.length<=1048576)(ok:∀a∈l,a.Ok):
  Calls prog 9 #[.agg #[.int .i64 cI,.int .i64 cO,.int .i64 cJ],v,.int .i64 13] w fun e w'=>e=.returned (.bool true)/\Only w w' (fun j=>w.heap.size<=j):=by
 have hsf:=aK
 obtain ⟨a,c,rfl,hx⟩:=hl
 obtain ⟨n,hln⟩:∃n,l.length=n:=⟨_,rfl⟩
 rw[hln] at hx hn ⊢
 have HX:=Hid.mk' hx
 have HL:=Hid.mk' hln
 have OK:=Hid.mk' ok
 have G0:=Hid.mk' (World.grownBy_alloc w (.cells #[.int .i64 cI,.int .i64 cO,.int .i64 cJ] 23) none)
 have M1:=Hid.mk' fun W=>aGM cI cO cJ W hv
 clear hv hx hln ok
 go_enter func9,ntmps9
 go_wp2_with fail
 refine Calls.mono (M1.out _) ?_
 rintro e w1 ⟨bw,rfl,li,g1⟩
 have L1:Hid (LI w1 bw (fun j=>w.heap.size<j) 0):=li.within (fun j _ e=>by simp at e;omega)
 have O1:Hid (Only w w1 (fun j=>w.heap.size<=j)):=(Only.grown (G0.out.trans g1)).mono (by simp)
 clear g1 li M1
 go_wp2_with fail
 go_loopw [9] (fun f wr=>∃k:Nat,k<=n/\f=.int .i64 k/\LI wr bw (fun j=>w.heap.size<j) (4 * k)/\Only w wr (fun j=>w.heap.size<=j)) (fun f _=>n -(intOf f).toNat)
 case atStart=>exact ⟨0,by omega,rfl,L1.out,O1.out⟩
 case round=>
  clear L1 O1
  obtain ⟨k,hk,rfl,li,on⟩:=hrel
  have L1:=Hid.mk' li
  have O1:=Hid.mk' on
  clear li on
  by_cases hlt:k<n
  ·have hkl:k<l.length:=by rw[HL.out];exact hlt
   obtain ⟨g,off,rfl,hc⟩:=HX.out (by omega)
   obtain ⟨y,hi⟩:∃y,l[k]=y:=⟨_,rfl⟩
   have hgl:g<w.heap.size:=World.block_lt_of_cell? w _ (hc (9 * k) _ (by rw[show 9 * k=9 * k+0 by omega,sP l k 0 hkl (by omega)];rfl))
   have d:∀j (hj:j<9) u,y.cells[j]?=some u->wr.cell? ⟨g,off+k * 9+j,none⟩=some u:=fun j hj u hu=>by
    have:=hc (9 * k+j) u (by rw[sP l k j hkl hj,hi];exact hu)
    rw[show off+(9 * k+j)=off+k * 9+j by omega] at this
    exact O1.out.cell this (by simp;omega)
   have d0:=d 0 (by omega) _ rfl
   have d1:=d 1 (by omega) _ rfl
   have d2:=d 2 (by omega) _ rfl
   have d3:=d 3 (by omega) _ rfl
   have d4:=d 4 (by omega) _ rfl
   have d5:=d 5 (by omega) _ rfl
   have d6:=d 6 (by omega) _ rfl
   have d7:=d 7 (by omega) _ rfl
   have d8:=d 8 (by omega) _ rfl
   rw[Nat.add_zero] at d0
   have AO:=Hid.mk' (OK.out y (by rw[<- hi];exact List.getElem_mem hkl))
   have AC:Hid (∀W,LI W bw (fun j=>w.heap.size<j) (4 * k)->Calls prog 22 #[.pointer (some ⟨bw,0,none⟩),.agg #[.int .i64 y.K,.int .i64 y.sh,.int .i64 y.k,.int .i64 y.m,.int .i64 y.x,.int .i64 y.y,.float .f32 y.pl,.float .f32 y.sp,.string y.t]] W fun e w'=>e=.returned (.bool true)/\LI w' bw (fun j=>w.heap.size<j) (4 * k+4)/\Only W w' (fun j=>w.heap.size<j)):=Hid.mk' fun W hW=>(wL _ _ _ y W hW (by omega) AO.out).mono (fun e w' h=>⟨h.1,h.2.1.within (fun j _ e=>by have:=hW.big;rcases e with e | e;exact e;omega),h.2.2⟩)
   clear d hc hi AO
   obtain ⟨K,sh,yk,m,x,yy,pl,sp,t⟩:=y
   simp only at d0 d1 d2 d3 d4 d5 d6 d7 d8 AC
   have y0:(0:Int)<=(k:Int):=by omega
   have y1:(k:Int)<(n:Int):=by omega
   by_cases h13:13<K
   ·have h14:¬K<14:=by omega
    go_wp2_with fail
    refine Calls.mono (AC.out _ (L1.out.grown (World.grownBy_alloc wr _ none))) ?_
    rintro e w2 ⟨rfl,l2,o2⟩
    obtain ⟨bk,c2,lk⟩:=l2.looks (by omega)
    have LK:=Hid.mk' lk
    have L2:=Hid.mk' l2
    have O2:Hid (Only w w2 (fun j=>w.heap.size<=j)):=(O1.out.trans ((Only.grown (World.grownBy_alloc wr _ none)).mono (by simp))).trans (o2.mono (fun j _ e=>.inl (by omega)))
    clear l2 o2 lk d0 d1 d2 d3 d4 d5 d6 d7 d8
    go_wp2_with fail
    refine Calls.mono LK.out ?_
    rintro e w3 ⟨rfl,g3⟩
    go_wp2
    exact ⟨⟨k+1,by omega,rfl,by rw[show 4 * (k+1)=4 * k+4 by omega];exact L2.out.grown g3,O2.out.trans ((Only.grown g3).mono (by simp))⟩,by simp[intOf];omega⟩
   ·go_wp2_with fail
    refine Calls.mono (AC.out _ (L1.out.grown (World.grownBy_alloc wr _ none))) ?_
    rintro e w2 ⟨rfl,l2,o2⟩
    obtain ⟨bk,c2,lk⟩:=l2.looks (by omega)
    have LK:=Hid.mk' lk
    have L2:=Hid.mk' l2
    have O2:Hid (Only w w2 (fun j=>w.heap.size<=j)):=(O1.out.trans ((Only.grown (World.grownBy_alloc wr _ none)).mono (by simp))).trans (o2.mono (fun j _ e=>.inl (by omega)))
    clear l2 o2 lk d0 d1 d2 d3 d4 d5 d6 d7 d8
    go_wp2_with fail
    refine Calls.mono LK.out ?_
    rintro e w3 ⟨rfl,g3⟩
    go_wp2
    exact ⟨⟨k+1,by omega,rfl,by rw[show 4 * (k+1)=4 * k+4 by omega];exact L2.out.grown g3,O2.out.trans ((Only.grown g3).mono (by simp))⟩,by simp[intOf];omega⟩
  ·obtain rfl:k=n:=by omega
   have y1:¬(k:Int)<(k:Int):=by omega
   go_wp2_with fail
   refine Calls.mono (aGL bw _ _ _ L1.out (by omega)) ?_
   rintro e w2 ⟨rfl,o2⟩
   go_wp2
   go_ret
   exact ⟨rfl,O1.out.trans (o2.mono (fun j _ e=>.inl (by omega)))⟩
theorem aEc (cI cO cJ:Int)(v:Value)(l:List Ac)(w:World)(hl:LiesA w v l)(hn:l.length<=1048576)(ok:∀a∈l,a.Ok):
  Calls prog 9 #[.agg #[.int .i64 cI,.int .i64 cO,.int .i64 cJ],v,.int .i64 13] w fun e w'=>e=.returned (.bool true)/\Only w w' (fun j=>w.heap.size<=j):=by
 by_cases hv:mT cI cO cJ
 ·exact aEb cI cO cJ v l w hv hl hn ok
 ·exact aGN cI cO cJ v w hv
theorem LiesA.grown {w w':World}{v:Value}{l:List Ac}(h:LiesA w v l)(g:w.grownBy w' none):LiesA w' v l:=by
 obtain ⟨a,c,e,hx⟩:=h
 refine ⟨a,c,e,fun h0=>?_⟩
 obtain ⟨b,off,e1,hc⟩:=hx h0
 exact ⟨b,off,e1,fun j u hu=>g.cell (hc j u hu) (by simp)⟩
theorem aEd (cI cO cJ:Int)(v:Value)(l:List Ac)(w:World)(hl:LiesA w v l)(hn:l.length<=1048576)(ok:∀a∈l,a.Ok):
  Calls prog 5 #[.agg #[.int .i64 cI,.int .i64 cO,.int .i64 cJ],v] w fun e w'=>e=.returned (.bool true)/\Only w w' (fun j=>w.heap.size<=j):=by
 have g0:=World.grownBy_alloc w (.cells #[.int .i64 cI,.int .i64 cO,.int .i64 cJ] 23) none
 have PL:=Hid.mk' (aEc cI cO cJ v l _ (hl.grown g0) hn ok)
 have G0:=Hid.mk' g0
 clear hl g0 ok
 go_enter func5,ntmps5
 go_wp2_with fail
 refine Calls.mono PL.out ?_
 rintro e w1 ⟨rfl,o1⟩
 go_wp2
 go_ret
 exact ⟨rfl,((Only.grown G0.out).mono (by simp)).trans (o1.mono (fun j _ e=>.inl (by simp at e;omega)))⟩
end Go.Proofs.YtammnaafdhhjaaaGreat
