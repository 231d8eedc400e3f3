import Derived.Test.YtammnaafdhhjaaaGreatRows
import Derived.Test.YtammnaafdhhjaaaGreatJN2
set_option maxHeartbeats 16000000
set_option maxRecDepth 100000
namespace Go.Proofs.YtammnaafdhhjaaaGreat
open Go.RowKit Go.Proofs.Tryz
theorem aIu (W:World):(binOp BinOp.neq 37 (.slice none 0 0) (.slice none 0 0)).run prog W=.ok (.bool false) W:=by kernel_rfl
theorem aIv (W:World):(binOp BinOp.neq 49 (.slice none 0 0) (.slice none 0 0)).run prog W=.ok (.bool false) W:=by kernel_rfl
theorem aIw (W:World):(binOp BinOp.neq 104 (.slice none 0 0) (.slice none 0 0)).run prog W=.ok (.bool false) W:=by kernel_rfl
def Pr.flT (p:Pr)(i:Int):List Tx:=(flE p.f0 p.f1 i).map tx
def flZ (i:Int):Int:=if aX i then 0 else 2
def Pr.fileT (p:Pr)(i k:Int):ByteArray:=if aX i/\aX k then S ((p.sh i).dk.file k.toNat) else S []
def zM (i k:Int):Int:=if aX i then (if aX k then 0 else 4) else 2
section
variable {w : World} {bp bq : Nat} {A D : Nat -> Prop} {p : Pr}
theorem aIx (h:PW w bp A p)(i k:Int):Calls prog 118 #[.pointer (some ⟨bp,0,none⟩),.int .i64 i,.int .i64 k] w fun e w1=>e=.returned (.tuple #[.string (p.fileT i k),.int .i64 (zM i k)])/\w1=w:=by
 obtain ⟨b0,b1,v0,v1,F0,F1,hx,hA⟩:=h
 unfold Pr.fileT zM
 refine aIa bp b0 b1 _ _ i k w hx.fx.at_ _ (fun hi=>⟨by rw[if_neg (fun e=>hi e.1),if_neg hi];rfl,rfl⟩) (fun hi=>?_)
 refine (aHO _ _ _ k w (hx.at hi)).mono ?_
 rintro e w1 ⟨rfl,rfl⟩
 refine ⟨_,_,rfl,?_,rfl⟩
 by_cases hk:aX k
 ·have hk':k=0∨k=1:=hk
  simp only[if_pos hk',if_pos (And.intro hi hk),if_pos hi]
 ·have hk':¬(k=0∨k=1):=hk
  have hik:¬(aX i/\aX k):=fun e=>hk e.2
  simp only[if_neg hk',if_neg hik,if_pos hi]
theorem aIy (h:DS w bq D p)(i k:Int):Calls prog 119 #[.pointer (some ⟨bq,0,none⟩),.int .i64 i,.int .i64 k] w fun e w1=>e=.returned (.tuple #[.string (p.fileT i k),.int .i64 (zM i k)])/\w1=w:=by
 obtain ⟨cI,cO,cJ,r0,r1,q0,q1,v0,v1,hx,pg,hD⟩:=h
 unfold Pr.fileT zM
 refine (aDI bq q0 q1 cI cO cJ r0 r1 i k w hx.ry).mono ?_
 rintro e w1 ⟨rfl,rfl⟩
 refine ⟨?_,rfl⟩
 by_cases hi:aX i/\aX k
 ·rw[if_pos hi,if_pos hi,(pg.at hi.1).1.dk.file];rfl
 ·rw[if_neg hi,if_neg hi]
theorem aGL (h:DS w bq D p)(i:Int):Calls prog 109 #[.pointer (some ⟨bq,0,none⟩),.int .i64 i] w fun e w1=>∃v,e=.returned (.tuple #[v,.int .i64 (p.upE i)])/\OwnI w.heap.size w1 v (p.world i)/\w.grownBy w1 none:=by
 obtain ⟨cI,cO,cJ,r0,r1,q0,q1,v0,v1,hx,pg,hD⟩:=h
 refine (aBh bq q0 q1 cI cO cJ p.s0 p.s1 r0 r1 i w hx.ry pg).mono ?_
 rintro e w1 ⟨k1,k2⟩
 rw[pg.up] at k1 k2
 unfold Pr.world
 by_cases hu:p.upE i=0
 ·obtain ⟨v,he,ho,g1⟩:=k2 hu
  exact ⟨v,by rw[he,hu],by rw[if_pos hu];exact ho,g1⟩
 ·obtain ⟨he,rfl⟩:=k1 hu
  exact ⟨_,he,by rw[if_neg hu];exact OwnI.nil _ _,aD _ _⟩
theorem aDY (h:DS w bq D p)(i:Int):Calls prog 111 #[.pointer (some ⟨bq,0,none⟩),.int .i64 i] w fun e w1=>∃v,e=.returned (.tuple #[v,.int .i64 (p.upE i)])/\OwnE w.heap.size w1 v (p.outbox i)/\w.grownBy w1 none:=by
 obtain ⟨cI,cO,cJ,r0,r1,q0,q1,v0,v1,hx,pg,hD⟩:=h
 refine (zG bq q0 q1 cI cO cJ p.s0 p.s1 r0 r1 i w hx.ry pg).mono ?_
 rintro e w1 ⟨k1,k2⟩
 rw[pg.up] at k1 k2
 unfold Pr.outbox
 by_cases hu:p.upE i=0
 ·obtain ⟨v,he,ho,g1⟩:=k2 hu
  exact ⟨v,by rw[he,hu],by rw[if_pos hu];exact ho,g1⟩
 ·obtain ⟨he,rfl⟩:=k1 hu
  exact ⟨_,he,by rw[if_neg hu];exact OwnE.nil _ _,aD _ _⟩
theorem aGM (h:DS w bq D p)(i:Int):Calls prog 113 #[.pointer (some ⟨bq,0,none⟩),.int .i64 i] w fun e w1=>e=.returned (.tuple #[mkV (p.marks i),.int .i64 (p.upE i)])/\w.grownBy w1 none:=by
 obtain ⟨cI,cO,cJ,r0,r1,q0,q1,v0,v1,hx,pg,hD⟩:=h
 refine (aBi bq q0 q1 cI cO cJ p.s0 p.s1 r0 r1 i w hx.ry pg).mono ?_
 rintro e w1 ⟨g1,k1,k2⟩
 rw[pg.up] at k1 k2
 refine ⟨?_,g1⟩
 unfold Pr.marks
 by_cases hu:p.upE i=0
 ·rw[k2 hu,if_pos hu,hu];rfl
 ·rw[k1 hu,if_neg hu];rfl
theorem aDZ (h:PW w bp A p)(i:Int):Calls prog 114 #[.pointer (some ⟨bp,0,none⟩),.int .i64 i] w fun e w1=>∃v,e=.returned (.tuple #[v,.int .i64 (flZ i)])/\OwnT w.heap.size w1 v (p.flT i)/\(flZ i≠0->v=.slice none 0 0)/\w.grownBy w1 none:=by
 obtain ⟨b0,b1,v0,v1,F0,F1,hx,hA⟩:=h
 refine (yS hx.fx i).mono ?_
 rintro e w1 ⟨v,rfl,ho,hz,g⟩
 exact ⟨v,rfl,ho,fun e=>hz (fun hi=>e (if_pos hi)),g⟩
theorem aEa (h:DS w bq D p)(i:Int):Calls prog 115 #[.pointer (some ⟨bq,0,none⟩),.int .i64 i] w fun e w1=>∃v,e=.returned (.tuple #[v,.int .i64 (flZ i)])/\OwnT 0 w1 v (p.flT i)/\w.grownBy w1 none:=by
 obtain ⟨cI,cO,cJ,r0,r1,q0,q1,v0,v1,hx,pg,hD⟩:=h
 refine (zH hx i).mono ?_
 rintro e w1 ⟨v,rfl,ho,rfl⟩
 exact ⟨v,rfl,ho,aD _ _⟩
theorem aEb (h:DS w bq D p)(i:Int):(p.flT i).length<=1000:=by
 obtain ⟨cI,cO,cJ,r0,r1,q0,q1,v0,v1,hx,pg,hD⟩:=h
 unfold Pr.flT flE
 rw[List.length_map]
 by_cases hi:aX i
 ·rw[if_pos hi]
  have:=(hx.at hi).2.2.2.1
  omega
 ·rw[if_neg hi];simp
theorem aGN (h:PGd p)(i:Int):(p.world i).length<=1000/\∀x∈p.world i,Fine x:=by
 unfold Pr.world
 by_cases hu:p.upE i=0
 ·rw[if_pos hu]
  obtain ⟨hi,up⟩:=eJ hu
  obtain ⟨⟨r,g⟩,_⟩:=h.at hi
  obtain ⟨_,_,_,_,_,has,_⟩:=g.has up
  have h1:((cL (p.sh i).th).length:Int)<=_:=has.tl
  have h3:=g.i1
  exact ⟨by omega,fun x hx=>aBz (has.it x hx).1⟩
 ·rw[if_neg hu];simp
theorem aEc (h:PGd p)(i:Int):(p.outbox i).length<=1000/\∀x∈p.outbox i,Fine x.it:=by
 unfold Pr.outbox
 by_cases hu:p.upE i=0
 ·rw[if_pos hu]
  obtain ⟨hi,up⟩:=eJ hu
  obtain ⟨⟨r,g⟩,_⟩:=h.at hi
  obtain ⟨_,_,_,_,_,has,_⟩:=g.has up
  have h1:((p.sh i).ob.length:Int)<=_:=has.ol
  have h3:=g.o1
  exact ⟨by omega,fun x hx=>aBz (has.en x hx).1⟩
 ·rw[if_neg hu];simp
end
theorem aJy (ts:List Tx):ts.flatMap Tx.cells=ts.map (fun t=>Value.string t.s):=by
 induction ts with
 | nil=>rfl
 | cons a t ih=>rw[List.flatMap_cons,ih];rfl
theorem OwnT.cell {B:Nat}{w:World}{v:Value}{ts:List Tx}(h:OwnT B w v ts){k:Nat}(hk:k<ts.length):∃g c,v=.slice (some ⟨g,0,none⟩) ts.length c/\w.cell? ⟨g,k,none⟩=some (.string ts[k].s):=by
 unfold OwnT at h
 have h1:=h
 rcases h.2 with ⟨_,h0⟩ | ⟨g,cap,cur,rfl,_⟩
 ·omega
 ·refine ⟨g,cap,rfl,(h1.cellAt k (by omega)).trans ?_⟩
  rw[aJy,List.getElem?_map,List.getElem?_eq_getElem hk];rfl
theorem nJ (v u:Value)(ts:List Tx){B B':Nat}(w:World)(h:OwnT B w v ts)(h':OwnT B' w u ts)(hl:ts.length<=1000):Calls prog 116 #[v,u] w fun e w'=>e=.returned (.bool true)/\w.grownBy w' none:=by
 obtain ⟨a,c,rfl⟩:=aH h
 obtain ⟨a',c',rfl⟩:=aH h'
 have H:=Hid.mk' h
 have H':=Hid.mk' h'
 obtain ⟨n,hn⟩:∃n,ts.length=n:=⟨_,rfl⟩
 have HN:=Hid.mk' hn
 rw[hn] at hl ⊢
 clear h h' hn
 go_enter func116,ntmps116
 go_wp2_with fail
 go_loopw [5] (fun t wr=>∃k:Nat,k<=n/\t=.int .i64 k/\w.grownBy wr none) (fun t _=>n -(intOf t).toNat)
 case atStart=>exact ⟨0,by omega,rfl,aD _ _⟩
 case round=>
  obtain ⟨k,hk,rfl,gk⟩:=hrel
  have GK:=Hid.mk' gk
  clear gk
  by_cases hlt:k<n
  ·have hkl:k<ts.length:=by rw[HN.out];exact hlt
   obtain ⟨g,c2,hv,d0⟩:=H.out.cell hkl
   injection hv with ha _ hcc
   subst ha hcc
   obtain ⟨g',c3,hv',d1⟩:=H'.out.cell hkl
   injection hv' with ha' _ hcc'
   subst ha' hcc'
   have e0:=GK.out.cell d0 (by simp)
   have e1:=GK.out.cell d1 (by simp)
   generalize ts[k].s=T at *
   clear d0 d1 hkl
   have y0:(0:Int)<=(k:Int):=by omega
   have y1:(k:Int)<(n:Int):=by omega
   go_wp2_with fail
   go_quiet (fail)
   go_wp2
   go_roundw
   case rel=>exact ⟨k+1,by omega,by go_num,aM GK.out nq⟩
   case measure=>simp[intOf];omega
  ·go_wp2
   go_ret
   exact ⟨rfl,GK.out⟩
theorem LP.li {w w':World}{bw bp bq bk:Nat}{A D R G:Nat->Prop}{p:Pr}{n:Nat}(h:LP w bw bp bq bk A D R p n)(hG:∀j,LF bw A D R j->G j)(g:w.grownBy w' none):LIn w w' bw G n:=LI.grew ⟨bp,bq,bk,A,D,R,p,h,hG⟩ g
theorem aEd (bw n:Nat)(G:Nat->Prop)(sh k m x y:Int)(pl sp:Nat)(t:ByteArray)(w:World)(h:LI w bw G n)(hn:n<=9000000):
  Calls prog 62 #[.pointer (some ⟨bw,0,none⟩),.agg #[.int .i64 14,.int .i64 sh,.int .i64 k,.int .i64 m,.int .i64 x,.int .i64 y,.float .f32 pl,.float .f32 sp,.string t]] w fun e w'=>e=.returned (.bool true)/\LIn w w' bw G (n+4):=by
 obtain ⟨bp,bq,bk,A,D,R,p,lm,hG⟩:=h
 have g0:=World.grownBy_alloc w (.cells #[.int .i64 14,.int .i64 sh,.int .i64 k,.int .i64 m,.int .i64 x,.int .i64 y,.float .f32 pl,.float .f32 sp,.string t] 35) none
 have LMH:=Hid.mk' lm
 have HG:=Hid.mk' hG
 have G0:=Hid.mk' g0
 have AX:=Hid.mk' (At.new w [.int .i64 14,.int .i64 sh,.int .i64 k,.int .i64 m,.int .i64 x,.int .i64 y,.float .f32 pl,.float .f32 sp,.string t] 35)
 have AW:=Hid.mk' (lm.lw.grown g0)
 have bwl:=lm.lw.lt
 clear lm g0 hG
 have QX:=Hid.mk' fun W (gW:w.grownBy W none)=>aGx (LMH.out.pw.grown gW) LMH.out.ds.gd sh
 have QY:=Hid.mk' fun W (gW:w.grownBy W none)=>aGL (LMH.out.ds.grown gW) sh
 have QO:=Hid.mk' (aGN LMH.out.ds.gd sh)
 have nnl:=aIu
 obtain ⟨z,hz⟩:∃z,p.upE sh=z:=⟨_,rfl⟩
 rw[hz] at QX QY
 obtain ⟨is,his⟩:∃is,p.world sh=is:=⟨_,rfl⟩
 rw[his] at QX QY QO
 have hzz:(z !=z)=false:=by simp
 clear hz his
 by_cases hz0:z=0
 ·skip
  have hzn:(z !=0)=false:=by simpa using hz0
  go_enter func62,ntmps62
  go_wp2_with fail
  refine wp_region_held_drew (S:=fun w'=>At w' bw (LC bp bq bk)/\At w' w.heap.size (AC 14 sh k m x y pl sp t)) (by kernel_rfl) (⟨AW.out.drew,AX.out.drew⟩) (fun hHeld=>?_)
  refine aL 0 ?_
  simp only[aF]
  refine aL 1 ?_
  simp only[aF]
  refine aL 2 ?_
  simp only[aF]
  refine aW 3 rfl (by intro w hSw;have S0:=hSw.1.c 0 _ rfl;go_simp;try with_reducible rfl) ?_
  simp only[aF]
  refine aL 4 ?_
  simp only[aF]
  refine aW 5 rfl (by intro w hSw;have S1:=hSw.2.c 1 _ rfl;go_simp;try with_reducible rfl) ?_
  simp only[aF]
  refine aU 6 (f:=14) (args:=#[.pointer (some ⟨bp,0,none⟩),.int .i64 sh]) (by kernel_rfl) (by rfl) (by rfl) (by go_simp) ?_
  refine Calls.mono (QX.out _ (aA G0.out)) ?_
  rintro e w1 ⟨v1,rfl,ov1,nil1,g1⟩
  have G1:=Hid.mk' ((aA G0.out).trans g1)
  have hS:At w1 bw (LC bp bq bk)/\At w1 w.heap.size (AC 14 sh k m x y pl sp t):=⟨hHeld.1.grown g1,hHeld.2.grown g1⟩
  have zv:=G0.out.size
  obtain ⟨a1,c1,rfl⟩:=aH ov1
  have OV1:=Hid.mk' ov1
  have NIL1:=Hid.mk' nil1
  clear g1 ov1 nil1
  clear hHeld
  have hHeld:=hS
  refine ⟨_,rfl,hHeld,?_⟩
  simp only[aF]
  refine aL 7 ?_
  simp only[aF]
  refine aL 8 ?_
  simp only[aF]
  refine aL 9 ?_
  simp only[aF]
  refine aL 10 ?_
  simp only[aF]
  refine aL 11 ?_
  simp only[aF]
  refine wpAnyH_done (by kernel_rfl) ?_ _
  have HH:=Hid.mk' hHeld
  clear hHeld hS
  have H1:=HH
  clear HH
  go_wp2_with fail
  refine wp_region_held_drew (S:=fun w'=>At w' bw (LC bp bq bk)/\At w' w.heap.size (AC 14 sh k m x y pl sp t)) (by kernel_rfl) (⟨H1.out.1.drew,H1.out.2.drew⟩) (fun hHeld=>?_)
  refine aL 0 ?_
  simp only[aF]
  refine aL 1 ?_
  simp only[aF]
  refine aL 2 ?_
  simp only[aF]
  refine aW 3 rfl (by intro w hSw;have S0:=hSw.1.c 1 _ rfl;go_simp;try with_reducible rfl) ?_
  simp only[aF]
  refine aL 4 ?_
  simp only[aF]
  refine aW 5 rfl (by intro w hSw;have S1:=hSw.2.c 1 _ rfl;go_simp;try with_reducible rfl) ?_
  simp only[aF]
  refine aU 6 (f:=109) (args:=#[.pointer (some ⟨bq,0,none⟩),.int .i64 sh]) (by kernel_rfl) (by rfl) (by rfl) (by go_simp) ?_
  refine Calls.mono (QY.out _ (aA G1.out)) ?_
  rintro e w2 ⟨v2,rfl,ov2,g2⟩
  have G12:Hid (w1.grownBy w2 none):=(aA (aD _ _)).trans g2
  have G2:=Hid.mk' (G1.out.trans G12.out)
  have hS:At w2 bw (LC bp bq bk)/\At w2 w.heap.size (AC 14 sh k m x y pl sp t):=⟨hHeld.1.grown g2,hHeld.2.grown g2⟩
  obtain ⟨a2,c2,rfl⟩:=aH ov2
  have OV2:=Hid.mk' ov2
  clear g2 ov2
  clear hHeld
  have hHeld:=hS
  refine ⟨_,rfl,hHeld,?_⟩
  simp only[aF]
  refine aL 7 ?_
  simp only[aF]
  refine aL 8 ?_
  simp only[aF]
  refine aL 9 ?_
  simp only[aF]
  refine aL 10 ?_
  simp only[aF]
  refine aL 11 ?_
  simp only[aF]
  refine wpAnyH_done (by kernel_rfl) ?_ _
  have HH:=Hid.mk' hHeld
  clear hHeld hS
  go_wp2_with fail
  refine Calls.mono (mW _ _ is _ (Lies.of_own (aO OV1.out G12.out)) (Lies.of_own OV2.out) (by have:=QO.out.1;omega) QO.out.2) ?_
  rintro e w3 ⟨rfl,g3⟩
  have G3:=Hid.mk' (G2.out.trans g3)
  have OV3:=Hid.mk' (aO (aO OV1.out G12.out) g3)
  have h3:=HH.out.1.grown g3
  have x2:=h3.c 2 _ rfl
  have L3:=LMH.out.grown G3.out
  obtain ⟨nI,nE,nT,m1,m2,m3,hb⟩:=L3.bo
  have zz:w.heap.size<(w.alloc (.cells #[.int .i64 14,.int .i64 sh,.int .i64 k,.int .i64 m,.int .i64 x,.int .i64 y,.float .f32 pl,.float .f32 sp,.string t] 35)).drew.heap.size:=by simp
  have hl:∀j,Value.ownBlock (.slice a1 is.length c1)=some j->w.heap.size<j:=fun j hj=>by have h1:=(OV3.out.lt j hj).1;omega
  have nR:∀j,Value.ownBlock (.slice a1 is.length c1)=some j->¬R j:=fun j hj e=>by have:=(LMH.out.lr j e).1;have:=hl j hj;omega
  have OWN:=Hid.mk' (hb.items (by omega) (.slice a1 is.length c1) is OV3.out (by have:=QO.out.1;omega) (fun e=>nR _ e (by obtain ⟨_,_,_,_,_,_,_,_,_,b,_⟩:=hb;exact b.rb)) nR)
  have HLH:=Hid.mk' hl
  have M123:Hid (nI<=n/\nE<=n/\nT<=n):=⟨m1,m2,m3⟩
  clear L3 hb h3 g3 hl nR m1 m2 m3
  go_wp2_with fail
  refine Calls.mono OWN.out ?_
  rintro e w4 ⟨rfl,bk4,o4⟩
  go_wp2
  go_ret
  exact ⟨rfl,LMH.out.booked G3.out (fun j hj=>Nat.le_of_lt (HLH.out j hj)) ⟨_,_,_,by have:=M123.out;omega,by have:=M123.out;omega,by have:=M123.out;omega,bk4⟩ o4 HG.out⟩
 ·skip
  have hzn:(z !=0)=true:=by simpa using hz0
  go_enter func62,ntmps62
  go_wp2_with fail
  refine wp_region_held_drew (S:=fun w'=>At w' bw (LC bp bq bk)/\At w' w.heap.size (AC 14 sh k m x y pl sp t)) (by kernel_rfl) (⟨AW.out.drew,AX.out.drew⟩) (fun hHeld=>?_)
  refine aL 0 ?_
  simp only[aF]
  refine aL 1 ?_
  simp only[aF]
  refine aL 2 ?_
  simp only[aF]
  refine aW 3 rfl (by intro w hSw;have S0:=hSw.1.c 0 _ rfl;go_simp;try with_reducible rfl) ?_
  simp only[aF]
  refine aL 4 ?_
  simp only[aF]
  refine aW 5 rfl (by intro w hSw;have S1:=hSw.2.c 1 _ rfl;go_simp;try with_reducible rfl) ?_
  simp only[aF]
  refine aU 6 (f:=14) (args:=#[.pointer (some ⟨bp,0,none⟩),.int .i64 sh]) (by kernel_rfl) (by rfl) (by rfl) (by go_simp) ?_
  refine Calls.mono (QX.out _ (aA G0.out)) ?_
  rintro e w1 ⟨v1,rfl,ov1,nil1,g1⟩
  have G1:=Hid.mk' ((aA G0.out).trans g1)
  have hS:At w1 bw (LC bp bq bk)/\At w1 w.heap.size (AC 14 sh k m x y pl sp t):=⟨hHeld.1.grown g1,hHeld.2.grown g1⟩
  have zv:=G0.out.size
  obtain ⟨a1,c1,rfl⟩:=aH ov1
  have OV1:=Hid.mk' ov1
  have NIL1:=Hid.mk' nil1
  clear g1 ov1 nil1
  clear hHeld
  have hHeld:=hS
  refine ⟨_,rfl,hHeld,?_⟩
  simp only[aF]
  refine aL 7 ?_
  simp only[aF]
  refine aL 8 ?_
  simp only[aF]
  refine aL 9 ?_
  simp only[aF]
  refine aL 10 ?_
  simp only[aF]
  refine aL 11 ?_
  simp only[aF]
  refine wpAnyH_done (by kernel_rfl) ?_ _
  have HH:=Hid.mk' hHeld
  clear hHeld hS
  have H1:=HH
  clear HH
  go_wp2_with fail
  refine wp_region_held_drew (S:=fun w'=>At w' bw (LC bp bq bk)/\At w' w.heap.size (AC 14 sh k m x y pl sp t)) (by kernel_rfl) (⟨H1.out.1.drew,H1.out.2.drew⟩) (fun hHeld=>?_)
  refine aL 0 ?_
  simp only[aF]
  refine aL 1 ?_
  simp only[aF]
  refine aL 2 ?_
  simp only[aF]
  refine aW 3 rfl (by intro w hSw;have S0:=hSw.1.c 1 _ rfl;go_simp;try with_reducible rfl) ?_
  simp only[aF]
  refine aL 4 ?_
  simp only[aF]
  refine aW 5 rfl (by intro w hSw;have S1:=hSw.2.c 1 _ rfl;go_simp;try with_reducible rfl) ?_
  simp only[aF]
  refine aU 6 (f:=109) (args:=#[.pointer (some ⟨bq,0,none⟩),.int .i64 sh]) (by kernel_rfl) (by rfl) (by rfl) (by go_simp) ?_
  refine Calls.mono (QY.out _ (aA G1.out)) ?_
  rintro e w2 ⟨v2,rfl,ov2,g2⟩
  have G12:Hid (w1.grownBy w2 none):=(aA (aD _ _)).trans g2
  have G2:=Hid.mk' (G1.out.trans G12.out)
  have hS:At w2 bw (LC bp bq bk)/\At w2 w.heap.size (AC 14 sh k m x y pl sp t):=⟨hHeld.1.grown g2,hHeld.2.grown g2⟩
  obtain ⟨a2,c2,rfl⟩:=aH ov2
  have OV2:=Hid.mk' ov2
  clear g2 ov2
  clear hHeld
  have hHeld:=hS
  refine ⟨_,rfl,hHeld,?_⟩
  simp only[aF]
  refine aL 7 ?_
  simp only[aF]
  refine aL 8 ?_
  simp only[aF]
  refine aL 9 ?_
  simp only[aF]
  refine aL 10 ?_
  simp only[aF]
  refine aL 11 ?_
  simp only[aF]
  refine wpAnyH_done (by kernel_rfl) ?_ _
  have HH:=Hid.mk' hHeld
  clear hHeld hS
  go_wp2_with fail
  refine Calls.mono (mW _ _ is _ (Lies.of_own (aO OV1.out G12.out)) (Lies.of_own OV2.out) (by have:=QO.out.1;omega) QO.out.2) ?_
  rintro e w3 ⟨rfl,g3⟩
  have G3:=Hid.mk' (G2.out.trans g3)
  have OV3:=Hid.mk' (aO (aO OV1.out G12.out) g3)
  have h3:=HH.out.1.grown g3
  have x2:=h3.c 2 _ rfl
  have L3:=LMH.out.grown G3.out
  obtain ⟨nI,nE,nT,m1,m2,m3,hb⟩:=L3.bo
  have zz:w.heap.size<(w.alloc (.cells #[.int .i64 14,.int .i64 sh,.int .i64 k,.int .i64 m,.int .i64 x,.int .i64 y,.float .f32 pl,.float .f32 sp,.string t] 35)).drew.heap.size:=by simp
  have hl:∀j,Value.ownBlock (.slice a1 is.length c1)=some j->w.heap.size<j:=fun j hj=>by have h1:=(OV3.out.lt j hj).1;omega
  have nR:∀j,Value.ownBlock (.slice a1 is.length c1)=some j->¬R j:=fun j hj e=>by have:=(LMH.out.lr j e).1;have:=hl j hj;omega
  have OWN:=Hid.mk' (hb.items (by omega) (.slice a1 is.length c1) is OV3.out (by have:=QO.out.1;omega) (fun e=>nR _ e (by obtain ⟨_,_,_,_,_,_,_,_,_,b,_⟩:=hb;exact b.rb)) nR)
  have HLH:=Hid.mk' hl
  have M123:Hid (nI<=n/\nE<=n/\nT<=n):=⟨m1,m2,m3⟩
  clear L3 hb h3 g3 hl nR m1 m2 m3
  have e1:=NIL1.out hz0
  injection e1 with e1 e2 e3
  subst e1 e3
  generalize hL:is.length=L at *
  obtain rfl:L=0:=by omega
  go_wp2_with fail
  refine Calls.mono OWN.out ?_
  rintro e w4 ⟨rfl,bk4,o4⟩
  go_wp2
  go_ret
  exact ⟨rfl,LMH.out.booked G3.out (fun j hj=>Nat.le_of_lt (HLH.out j hj)) ⟨_,_,_,by have:=M123.out;omega,by have:=M123.out;omega,by have:=M123.out;omega,bk4⟩ o4 HG.out⟩
theorem aBq (bw n:Nat)(G:Nat->Prop)(sh k m x y:Int)(pl sp:Nat)(t:ByteArray)(w:World)(h:LI w bw G n)(hn:n<=9000000):
  Calls prog 62 #[.pointer (some ⟨bw,0,none⟩),.agg #[.int .i64 15,.int .i64 sh,.int .i64 k,.int .i64 m,.int .i64 x,.int .i64 y,.float .f32 pl,.float .f32 sp,.string t]] w fun e w'=>e=.returned (.bool true)/\LIn w w' bw G (n+4):=by
 obtain ⟨bp,bq,bk,A,D,R,p,lm,hG⟩:=h
 have g0:=World.grownBy_alloc w (.cells #[.int .i64 15,.int .i64 sh,.int .i64 k,.int .i64 m,.int .i64 x,.int .i64 y,.float .f32 pl,.float .f32 sp,.string t] 35) none
 have LMH:=Hid.mk' lm
 have HG:=Hid.mk' hG
 have G0:=Hid.mk' g0
 have AX:=Hid.mk' (At.new w [.int .i64 15,.int .i64 sh,.int .i64 k,.int .i64 m,.int .i64 x,.int .i64 y,.float .f32 pl,.float .f32 sp,.string t] 35)
 have AW:=Hid.mk' (lm.lw.grown g0)
 have bwl:=lm.lw.lt
 clear lm g0 hG
 have QX:=Hid.mk' fun W (gW:w.grownBy W none)=>aDJ (LMH.out.pw.grown gW) LMH.out.ds.gd sh
 have QY:=Hid.mk' fun W (gW:w.grownBy W none)=>aDY (LMH.out.ds.grown gW) sh
 have QO:=Hid.mk' (aEc LMH.out.ds.gd sh)
 have nnl:=aIv
 obtain ⟨z,hz⟩:∃z,p.upE sh=z:=⟨_,rfl⟩
 rw[hz] at QX QY
 obtain ⟨is,his⟩:∃is,p.outbox sh=is:=⟨_,rfl⟩
 rw[his] at QX QY QO
 have hzz:(z !=z)=false:=by simp
 clear hz his
 by_cases hz0:z=0
 ·skip
  have hzn:(z !=0)=false:=by simpa using hz0
  go_enter func62,ntmps62
  go_wp2_with fail
  refine wp_region_held_drew (S:=fun w'=>At w' bw (LC bp bq bk)/\At w' w.heap.size (AC 15 sh k m x y pl sp t)) (by kernel_rfl) (⟨AW.out.drew,AX.out.drew⟩) (fun hHeld=>?_)
  refine aL 0 ?_
  simp only[aF]
  refine aL 1 ?_
  simp only[aF]
  refine aL 2 ?_
  simp only[aF]
  refine aW 3 rfl (by intro w hSw;have S0:=hSw.1.c 0 _ rfl;go_simp;try with_reducible rfl) ?_
  simp only[aF]
  refine aL 4 ?_
  simp only[aF]
  refine aW 5 rfl (by intro w hSw;have S1:=hSw.2.c 1 _ rfl;go_simp;try with_reducible rfl) ?_
  simp only[aF]
  refine aU 6 (f:=15) (args:=#[.pointer (some ⟨bp,0,none⟩),.int .i64 sh]) (by kernel_rfl) (by rfl) (by rfl) (by go_simp) ?_
  refine Calls.mono (QX.out _ (aA G0.out)) ?_
  rintro e w1 ⟨v1,rfl,ov1,nil1,g1⟩
  have G1:=Hid.mk' ((aA G0.out).trans g1)
  have hS:At w1 bw (LC bp bq bk)/\At w1 w.heap.size (AC 15 sh k m x y pl sp t):=⟨hHeld.1.grown g1,hHeld.2.grown g1⟩
  have zv:=G0.out.size
  obtain ⟨a1,c1,rfl⟩:=aH ov1
  have OV1:=Hid.mk' ov1
  have NIL1:=Hid.mk' nil1
  clear g1 ov1 nil1
  clear hHeld
  have hHeld:=hS
  refine ⟨_,rfl,hHeld,?_⟩
  simp only[aF]
  refine aL 7 ?_
  simp only[aF]
  refine aL 8 ?_
  simp only[aF]
  refine aL 9 ?_
  simp only[aF]
  refine aL 10 ?_
  simp only[aF]
  refine aL 11 ?_
  simp only[aF]
  refine wpAnyH_done (by kernel_rfl) ?_ _
  have HH:=Hid.mk' hHeld
  clear hHeld hS
  have H1:=HH
  clear HH
  go_wp2_with fail
  refine wp_region_held_drew (S:=fun w'=>At w' bw (LC bp bq bk)/\At w' w.heap.size (AC 15 sh k m x y pl sp t)) (by kernel_rfl) (⟨H1.out.1.drew,H1.out.2.drew⟩) (fun hHeld=>?_)
  refine aL 0 ?_
  simp only[aF]
  refine aL 1 ?_
  simp only[aF]
  refine aL 2 ?_
  simp only[aF]
  refine aW 3 rfl (by intro w hSw;have S0:=hSw.1.c 1 _ rfl;go_simp;try with_reducible rfl) ?_
  simp only[aF]
  refine aL 4 ?_
  simp only[aF]
  refine aW 5 rfl (by intro w hSw;have S1:=hSw.2.c 1 _ rfl;go_simp;try with_reducible rfl) ?_
  simp only[aF]
  refine aU 6 (f:=111) (args:=#[.pointer (some ⟨bq,0,none⟩),.int .i64 sh]) (by kernel_rfl) (by rfl) (by rfl) (by go_simp) ?_
  refine Calls.mono (QY.out _ (aA G1.out)) ?_
  rintro e w2 ⟨v2,rfl,ov2,g2⟩
  have G12:Hid (w1.grownBy w2 none):=(aA (aD _ _)).trans g2
  have G2:=Hid.mk' (G1.out.trans G12.out)
  have hS:At w2 bw (LC bp bq bk)/\At w2 w.heap.size (AC 15 sh k m x y pl sp t):=⟨hHeld.1.grown g2,hHeld.2.grown g2⟩
  obtain ⟨a2,c2,rfl⟩:=aH ov2
  have OV2:=Hid.mk' ov2
  clear g2 ov2
  clear hHeld
  have hHeld:=hS
  refine ⟨_,rfl,hHeld,?_⟩
  simp only[aF]
  refine aL 7 ?_
  simp only[aF]
  refine aL 8 ?_
  simp only[aF]
  refine aL 9 ?_
  simp only[aF]
  refine aL 10 ?_
  simp only[aF]
  refine aL 11 ?_
  simp only[aF]
  refine wpAnyH_done (by kernel_rfl) ?_ _
  have HH:=Hid.mk' hHeld
  clear hHeld hS
  go_wp2_with fail
  refine Calls.mono (lA _ _ is _ (Lies.of_own (aO OV1.out G12.out)) (Lies.of_own OV2.out) (by have:=QO.out.1;omega) QO.out.2) ?_
  rintro e w3 ⟨rfl,g3⟩
  have G3:=Hid.mk' (G2.out.trans g3)
  have OV3:=Hid.mk' (aO (aO OV1.out G12.out) g3)
  have h3:=HH.out.1.grown g3
  have x2:=h3.c 2 _ rfl
  have L3:=LMH.out.grown G3.out
  obtain ⟨nI,nE,nT,m1,m2,m3,hb⟩:=L3.bo
  have zz:w.heap.size<(w.alloc (.cells #[.int .i64 15,.int .i64 sh,.int .i64 k,.int .i64 m,.int .i64 x,.int .i64 y,.float .f32 pl,.float .f32 sp,.string t] 35)).drew.heap.size:=by simp
  have hl:∀j,Value.ownBlock (.slice a1 is.length c1)=some j->w.heap.size<j:=fun j hj=>by have h1:=(OV3.out.lt j hj).1;omega
  have nR:∀j,Value.ownBlock (.slice a1 is.length c1)=some j->¬R j:=fun j hj e=>by have:=(LMH.out.lr j e).1;have:=hl j hj;omega
  have OWN:=Hid.mk' (hb.entries (by omega) (.slice a1 is.length c1) is OV3.out (by have:=QO.out.1;omega) (fun e=>nR _ e (by obtain ⟨_,_,_,_,_,_,_,_,_,b,_⟩:=hb;exact b.rb)) nR)
  have HLH:=Hid.mk' hl
  have M123:Hid (nI<=n/\nE<=n/\nT<=n):=⟨m1,m2,m3⟩
  clear L3 hb h3 g3 hl nR m1 m2 m3
  go_wp2_with fail
  refine Calls.mono OWN.out ?_
  rintro e w4 ⟨rfl,bk4,o4⟩
  go_wp2
  go_ret
  exact ⟨rfl,LMH.out.booked G3.out (fun j hj=>Nat.le_of_lt (HLH.out j hj)) ⟨_,_,_,by have:=M123.out;omega,by have:=M123.out;omega,by have:=M123.out;omega,bk4⟩ o4 HG.out⟩
 ·skip
  have hzn:(z !=0)=true:=by simpa using hz0
  go_enter func62,ntmps62
  go_wp2_with fail
  refine wp_region_held_drew (S:=fun w'=>At w' bw (LC bp bq bk)/\At w' w.heap.size (AC 15 sh k m x y pl sp t)) (by kernel_rfl) (⟨AW.out.drew,AX.out.drew⟩) (fun hHeld=>?_)
  refine aL 0 ?_
  simp only[aF]
  refine aL 1 ?_
  simp only[aF]
  refine aL 2 ?_
  simp only[aF]
  refine aW 3 rfl (by intro w hSw;have S0:=hSw.1.c 0 _ rfl;go_simp;try with_reducible rfl) ?_
  simp only[aF]
  refine aL 4 ?_
  simp only[aF]
  refine aW 5 rfl (by intro w hSw;have S1:=hSw.2.c 1 _ rfl;go_simp;try with_reducible rfl) ?_
  simp only[aF]
  refine aU 6 (f:=15) (args:=#[.pointer (some ⟨bp,0,none⟩),.int .i64 sh]) (by kernel_rfl) (by rfl) (by rfl) (by go_simp) ?_
  refine Calls.mono (QX.out _ (aA G0.out)) ?_
  rintro e w1 ⟨v1,rfl,ov1,nil1,g1⟩
  have G1:=Hid.mk' ((aA G0.out).trans g1)
  have hS:At w1 bw (LC bp bq bk)/\At w1 w.heap.size (AC 15 sh k m x y pl sp t):=⟨hHeld.1.grown g1,hHeld.2.grown g1⟩
  have zv:=G0.out.size
  obtain ⟨a1,c1,rfl⟩:=aH ov1
  have OV1:=Hid.mk' ov1
  have NIL1:=Hid.mk' nil1
  clear g1 ov1 nil1
  clear hHeld
  have hHeld:=hS
  refine ⟨_,rfl,hHeld,?_⟩
  simp only[aF]
  refine aL 7 ?_
  simp only[aF]
  refine aL 8 ?_
  simp only[aF]
  refine aL 9 ?_
  simp only[aF]
  refine aL 10 ?_
  simp only[aF]
  refine aL 11 ?_
  simp only[aF]
  refine wpAnyH_done (by kernel_rfl) ?_ _
  have HH:=Hid.mk' hHeld
  clear hHeld hS
  have H1:=HH
  clear HH
  go_wp2_with fail
  refine wp_region_held_drew (S:=fun w'=>At w' bw (LC bp bq bk)/\At w' w.heap.size (AC 15 sh k m x y pl sp t)) (by kernel_rfl) (⟨H1.out.1.drew,H1.out.2.drew⟩) (fun hHeld=>?_)
  refine aL 0 ?_
  simp only[aF]
  refine aL 1 ?_
  simp only[aF]
  refine aL 2 ?_
  simp only[aF]
  refine aW 3 rfl (by intro w hSw;have S0:=hSw.1.c 1 _ rfl;go_simp;try with_reducible rfl) ?_
  simp only[aF]
  refine aL 4 ?_
  simp only[aF]
  refine aW 5 rfl (by intro w hSw;have S1:=hSw.2.c 1 _ rfl;go_simp;try with_reducible rfl) ?_
  simp only[aF]
  refine aU 6 (f:=111) (args:=#[.pointer (some ⟨bq,0,none⟩),.int .i64 sh]) (by kernel_rfl) (by rfl) (by rfl) (by go_simp) ?_
  refine Calls.mono (QY.out _ (aA G1.out)) ?_
  rintro e w2 ⟨v2,rfl,ov2,g2⟩
  have G12:Hid (w1.grownBy w2 none):=(aA (aD _ _)).trans g2
  have G2:=Hid.mk' (G1.out.trans G12.out)
  have hS:At w2 bw (LC bp bq bk)/\At w2 w.heap.size (AC 15 sh k m x y pl sp t):=⟨hHeld.1.grown g2,hHeld.2.grown g2⟩
  obtain ⟨a2,c2,rfl⟩:=aH ov2
  have OV2:=Hid.mk' ov2
  clear g2 ov2
  clear hHeld
  have hHeld:=hS
  refine ⟨_,rfl,hHeld,?_⟩
  simp only[aF]
  refine aL 7 ?_
  simp only[aF]
  refine aL 8 ?_
  simp only[aF]
  refine aL 9 ?_
  simp only[aF]
  refine aL 10 ?_
  simp only[aF]
  refine aL 11 ?_
  simp only[aF]
  refine wpAnyH_done (by kernel_rfl) ?_ _
  have HH:=Hid.mk' hHeld
  clear hHeld hS
  go_wp2_with fail
  refine Calls.mono (lA _ _ is _ (Lies.of_own (aO OV1.out G12.out)) (Lies.of_own OV2.out) (by have:=QO.out.1;omega) QO.out.2) ?_
  rintro e w3 ⟨rfl,g3⟩
  have G3:=Hid.mk' (G2.out.trans g3)
  have OV3:=Hid.mk' (aO (aO OV1.out G12.out) g3)
  have h3:=HH.out.1.grown g3
  have x2:=h3.c 2 _ rfl
  have L3:=LMH.out.grown G3.out
  obtain ⟨nI,nE,nT,m1,m2,m3,hb⟩:=L3.bo
  have zz:w.heap.size<(w.alloc (.cells #[.int .i64 15,.int .i64 sh,.int .i64 k,.int .i64 m,.int .i64 x,.int .i64 y,.float .f32 pl,.float .f32 sp,.string t] 35)).drew.heap.size:=by simp
  have hl:∀j,Value.ownBlock (.slice a1 is.length c1)=some j->w.heap.size<j:=fun j hj=>by have h1:=(OV3.out.lt j hj).1;omega
  have nR:∀j,Value.ownBlock (.slice a1 is.length c1)=some j->¬R j:=fun j hj e=>by have:=(LMH.out.lr j e).1;have:=hl j hj;omega
  have OWN:=Hid.mk' (hb.entries (by omega) (.slice a1 is.length c1) is OV3.out (by have:=QO.out.1;omega) (fun e=>nR _ e (by obtain ⟨_,_,_,_,_,_,_,_,_,b,_⟩:=hb;exact b.rb)) nR)
  have HLH:=Hid.mk' hl
  have M123:Hid (nI<=n/\nE<=n/\nT<=n):=⟨m1,m2,m3⟩
  clear L3 hb h3 g3 hl nR m1 m2 m3
  have e1:=NIL1.out hz0
  injection e1 with e1 e2 e3
  subst e1 e3
  generalize hL:is.length=L at *
  obtain rfl:L=0:=by omega
  go_wp2_with fail
  refine Calls.mono OWN.out ?_
  rintro e w4 ⟨rfl,bk4,o4⟩
  go_wp2
  go_ret
  exact ⟨rfl,LMH.out.booked G3.out (fun j hj=>Nat.le_of_lt (HLH.out j hj)) ⟨_,_,_,by have:=M123.out;omega,by have:=M123.out;omega,by have:=M123.out;omega,bk4⟩ o4 HG.out⟩
theorem aBr (bw n:Nat)(G:Nat->Prop)(sh k m x y:Int)(pl sp:Nat)(t:ByteArray)(w:World)(h:LI w bw G n)(hn:n<=9000000):
  Calls prog 62 #[.pointer (some ⟨bw,0,none⟩),.agg #[.int .i64 17,.int .i64 sh,.int .i64 k,.int .i64 m,.int .i64 x,.int .i64 y,.float .f32 pl,.float .f32 sp,.string t]] w fun e w'=>e=.returned (.bool true)/\LIn w w' bw G (n+4):=by
 obtain ⟨bp,bq,bk,A,D,R,p,lm,hG⟩:=h
 have g0:=World.grownBy_alloc w (.cells #[.int .i64 17,.int .i64 sh,.int .i64 k,.int .i64 m,.int .i64 x,.int .i64 y,.float .f32 pl,.float .f32 sp,.string t] 35) none
 have LMH:=Hid.mk' lm
 have HG:=Hid.mk' hG
 have G0:=Hid.mk' g0
 have AX:=Hid.mk' (At.new w [.int .i64 17,.int .i64 sh,.int .i64 k,.int .i64 m,.int .i64 x,.int .i64 y,.float .f32 pl,.float .f32 sp,.string t] 35)
 have AW:=Hid.mk' (lm.lw.grown g0)
 have bwl:=lm.lw.lt
 clear lm g0 hG
 have QX:=Hid.mk' fun W (gW:w.grownBy W none)=>aDZ (LMH.out.pw.grown gW) sh
 have QY:=Hid.mk' fun W (gW:w.grownBy W none)=>aEa (LMH.out.ds.grown gW) sh
 have QO:=Hid.mk' (aEb LMH.out.ds sh)
 have nnl:=aIw
 obtain ⟨z,hz⟩:∃z,flZ sh=z:=⟨_,rfl⟩
 rw[hz] at QX QY
 obtain ⟨is,his⟩:∃is,p.flT sh=is:=⟨_,rfl⟩
 rw[his] at QX QY QO
 have hzz:(z !=z)=false:=by simp
 clear hz his
 by_cases hz0:z=0
 ·skip
  have hzn:(z !=0)=false:=by simpa using hz0
  go_enter func62,ntmps62
  go_wp2_with fail
  refine wp_region_held_drew (S:=fun w'=>At w' bw (LC bp bq bk)/\At w' w.heap.size (AC 17 sh k m x y pl sp t)) (by kernel_rfl) (⟨AW.out.drew,AX.out.drew⟩) (fun hHeld=>?_)
  refine aL 0 ?_
  simp only[aF]
  refine aL 1 ?_
  simp only[aF]
  refine aL 2 ?_
  simp only[aF]
  refine aW 3 rfl (by intro w hSw;have S0:=hSw.1.c 0 _ rfl;go_simp;try with_reducible rfl) ?_
  simp only[aF]
  refine aL 4 ?_
  simp only[aF]
  refine aW 5 rfl (by intro w hSw;have S1:=hSw.2.c 1 _ rfl;go_simp;try with_reducible rfl) ?_
  simp only[aF]
  refine aU 6 (f:=114) (args:=#[.pointer (some ⟨bp,0,none⟩),.int .i64 sh]) (by kernel_rfl) (by rfl) (by rfl) (by go_simp) ?_
  refine Calls.mono (QX.out _ (aA G0.out)) ?_
  rintro e w1 ⟨v1,rfl,ov1,nil1,g1⟩
  have G1:=Hid.mk' ((aA G0.out).trans g1)
  have hS:At w1 bw (LC bp bq bk)/\At w1 w.heap.size (AC 17 sh k m x y pl sp t):=⟨hHeld.1.grown g1,hHeld.2.grown g1⟩
  have zv:=G0.out.size
  obtain ⟨a1,c1,rfl⟩:=aH ov1
  have OV1:=Hid.mk' ov1
  have NIL1:=Hid.mk' nil1
  clear g1 ov1 nil1
  clear hHeld
  have hHeld:=hS
  refine ⟨_,rfl,hHeld,?_⟩
  simp only[aF]
  refine aL 7 ?_
  simp only[aF]
  refine aL 8 ?_
  simp only[aF]
  refine aL 9 ?_
  simp only[aF]
  refine aL 10 ?_
  simp only[aF]
  refine aL 11 ?_
  simp only[aF]
  refine wpAnyH_done (by kernel_rfl) ?_ _
  have HH:=Hid.mk' hHeld
  clear hHeld hS
  have H1:=HH
  clear HH
  go_wp2_with fail
  refine wp_region_held_drew (S:=fun w'=>At w' bw (LC bp bq bk)/\At w' w.heap.size (AC 17 sh k m x y pl sp t)) (by kernel_rfl) (⟨H1.out.1.drew,H1.out.2.drew⟩) (fun hHeld=>?_)
  refine aL 0 ?_
  simp only[aF]
  refine aL 1 ?_
  simp only[aF]
  refine aL 2 ?_
  simp only[aF]
  refine aW 3 rfl (by intro w hSw;have S0:=hSw.1.c 1 _ rfl;go_simp;try with_reducible rfl) ?_
  simp only[aF]
  refine aL 4 ?_
  simp only[aF]
  refine aW 5 rfl (by intro w hSw;have S1:=hSw.2.c 1 _ rfl;go_simp;try with_reducible rfl) ?_
  simp only[aF]
  refine aU 6 (f:=115) (args:=#[.pointer (some ⟨bq,0,none⟩),.int .i64 sh]) (by kernel_rfl) (by rfl) (by rfl) (by go_simp) ?_
  refine Calls.mono (QY.out _ (aA G1.out)) ?_
  rintro e w2 ⟨v2,rfl,ov2,g2⟩
  have G12:Hid (w1.grownBy w2 none):=(aA (aD _ _)).trans g2
  have G2:=Hid.mk' (G1.out.trans G12.out)
  have hS:At w2 bw (LC bp bq bk)/\At w2 w.heap.size (AC 17 sh k m x y pl sp t):=⟨hHeld.1.grown g2,hHeld.2.grown g2⟩
  obtain ⟨a2,c2,rfl⟩:=aH ov2
  have OV2:=Hid.mk' ov2
  clear g2 ov2
  clear hHeld
  have hHeld:=hS
  refine ⟨_,rfl,hHeld,?_⟩
  simp only[aF]
  refine aL 7 ?_
  simp only[aF]
  refine aL 8 ?_
  simp only[aF]
  refine aL 9 ?_
  simp only[aF]
  refine aL 10 ?_
  simp only[aF]
  refine aL 11 ?_
  simp only[aF]
  refine wpAnyH_done (by kernel_rfl) ?_ _
  have HH:=Hid.mk' hHeld
  clear hHeld hS
  go_wp2_with fail
  refine Calls.mono (nJ _ _ is _ (aO OV1.out G12.out) OV2.out (by have:=QO.out;omega)) ?_
  rintro e w3 ⟨rfl,g3⟩
  have G3:=Hid.mk' (G2.out.trans g3)
  have OV3:=Hid.mk' (aO (aO OV1.out G12.out) g3)
  have h3:=HH.out.1.grown g3
  have x2:=h3.c 2 _ rfl
  have L3:=LMH.out.grown G3.out
  obtain ⟨nI,nE,nT,m1,m2,m3,hb⟩:=L3.bo
  have zz:w.heap.size<(w.alloc (.cells #[.int .i64 17,.int .i64 sh,.int .i64 k,.int .i64 m,.int .i64 x,.int .i64 y,.float .f32 pl,.float .f32 sp,.string t] 35)).drew.heap.size:=by simp
  have hl:∀j,Value.ownBlock (.slice a1 is.length c1)=some j->w.heap.size<j:=fun j hj=>by have h1:=(OV3.out.lt j hj).1;omega
  have nR:∀j,Value.ownBlock (.slice a1 is.length c1)=some j->¬R j:=fun j hj e=>by have:=(LMH.out.lr j e).1;have:=hl j hj;omega
  have OWN:=Hid.mk' (hb.textsL (by omega) (.slice a1 is.length c1) is OV3.out (by have:=QO.out;omega) (fun e=>nR _ e (by obtain ⟨_,_,_,_,_,_,_,_,_,b,_⟩:=hb;exact b.rb)) nR)
  have HLH:=Hid.mk' hl
  have M123:Hid (nI<=n/\nE<=n/\nT<=n):=⟨m1,m2,m3⟩
  clear L3 hb h3 g3 hl nR m1 m2 m3
  go_wp2_with fail
  refine Calls.mono OWN.out ?_
  rintro e w4 ⟨rfl,bk4,o4⟩
  go_wp2
  go_ret
  exact ⟨rfl,LMH.out.booked G3.out (fun j hj=>Nat.le_of_lt (HLH.out j hj)) ⟨_,_,_,by have:=M123.out;omega,by have:=M123.out;omega,by have:=M123.out;omega,bk4⟩ o4 HG.out⟩
 ·skip
  have hzn:(z !=0)=true:=by simpa using hz0
  go_enter func62,ntmps62
  go_wp2_with fail
  refine wp_region_held_drew (S:=fun w'=>At w' bw (LC bp bq bk)/\At w' w.heap.size (AC 17 sh k m x y pl sp t)) (by kernel_rfl) (⟨AW.out.drew,AX.out.drew⟩) (fun hHeld=>?_)
  refine aL 0 ?_
  simp only[aF]
  refine aL 1 ?_
  simp only[aF]
  refine aL 2 ?_
  simp only[aF]
  refine aW 3 rfl (by intro w hSw;have S0:=hSw.1.c 0 _ rfl;go_simp;try with_reducible rfl) ?_
  simp only[aF]
  refine aL 4 ?_
  simp only[aF]
  refine aW 5 rfl (by intro w hSw;have S1:=hSw.2.c 1 _ rfl;go_simp;try with_reducible rfl) ?_
  simp only[aF]
  refine aU 6 (f:=114) (args:=#[.pointer (some ⟨bp,0,none⟩),.int .i64 sh]) (by kernel_rfl) (by rfl) (by rfl) (by go_simp) ?_
  refine Calls.mono (QX.out _ (aA G0.out)) ?_
  rintro e w1 ⟨v1,rfl,ov1,nil1,g1⟩
  have G1:=Hid.mk' ((aA G0.out).trans g1)
  have hS:At w1 bw (LC bp bq bk)/\At w1 w.heap.size (AC 17 sh k m x y pl sp t):=⟨hHeld.1.grown g1,hHeld.2.grown g1⟩
  have zv:=G0.out.size
  obtain ⟨a1,c1,rfl⟩:=aH ov1
  have OV1:=Hid.mk' ov1
  have NIL1:=Hid.mk' nil1
  clear g1 ov1 nil1
  clear hHeld
  have hHeld:=hS
  refine ⟨_,rfl,hHeld,?_⟩
  simp only[aF]
  refine aL 7 ?_
  simp only[aF]
  refine aL 8 ?_
  simp only[aF]
  refine aL 9 ?_
  simp only[aF]
  refine aL 10 ?_
  simp only[aF]
  refine aL 11 ?_
  simp only[aF]
  refine wpAnyH_done (by kernel_rfl) ?_ _
  have HH:=Hid.mk' hHeld
  clear hHeld hS
  have H1:=HH
  clear HH
  go_wp2_with fail
  refine wp_region_held_drew (S:=fun w'=>At w' bw (LC bp bq bk)/\At w' w.heap.size (AC 17 sh k m x y pl sp t)) (by kernel_rfl) (⟨H1.out.1.drew,H1.out.2.drew⟩) (fun hHeld=>?_)
  refine aL 0 ?_
  simp only[aF]
  refine aL 1 ?_
  simp only[aF]
  refine aL 2 ?_
  simp only[aF]
  refine aW 3 rfl (by intro w hSw;have S0:=hSw.1.c 1 _ rfl;go_simp;try with_reducible rfl) ?_
  simp only[aF]
  refine aL 4 ?_
  simp only[aF]
  refine aW 5 rfl (by intro w hSw;have S1:=hSw.2.c 1 _ rfl;go_simp;try with_reducible rfl) ?_
  simp only[aF]
  refine aU 6 (f:=115) (args:=#[.pointer (some ⟨bq,0,none⟩),.int .i64 sh]) (by kernel_rfl) (by rfl) (by rfl) (by go_simp) ?_
  refine Calls.mono (QY.out _ (aA G1.out)) ?_
  rintro e w2 ⟨v2,rfl,ov2,g2⟩
  have G12:Hid (w1.grownBy w2 none):=(aA (aD _ _)).trans g2
  have G2:=Hid.mk' (G1.out.trans G12.out)
  have hS:At w2 bw (LC bp bq bk)/\At w2 w.heap.size (AC 17 sh k m x y pl sp t):=⟨hHeld.1.grown g2,hHeld.2.grown g2⟩
  obtain ⟨a2,c2,rfl⟩:=aH ov2
  have OV2:=Hid.mk' ov2
  clear g2 ov2
  clear hHeld
  have hHeld:=hS
  refine ⟨_,rfl,hHeld,?_⟩
  simp only[aF]
  refine aL 7 ?_
  simp only[aF]
  refine aL 8 ?_
  simp only[aF]
  refine aL 9 ?_
  simp only[aF]
  refine aL 10 ?_
  simp only[aF]
  refine aL 11 ?_
  simp only[aF]
  refine wpAnyH_done (by kernel_rfl) ?_ _
  have HH:=Hid.mk' hHeld
  clear hHeld hS
  go_wp2_with fail
  refine Calls.mono (nJ _ _ is _ (aO OV1.out G12.out) OV2.out (by have:=QO.out;omega)) ?_
  rintro e w3 ⟨rfl,g3⟩
  have G3:=Hid.mk' (G2.out.trans g3)
  have OV3:=Hid.mk' (aO (aO OV1.out G12.out) g3)
  have h3:=HH.out.1.grown g3
  have x2:=h3.c 2 _ rfl
  have L3:=LMH.out.grown G3.out
  obtain ⟨nI,nE,nT,m1,m2,m3,hb⟩:=L3.bo
  have zz:w.heap.size<(w.alloc (.cells #[.int .i64 17,.int .i64 sh,.int .i64 k,.int .i64 m,.int .i64 x,.int .i64 y,.float .f32 pl,.float .f32 sp,.string t] 35)).drew.heap.size:=by simp
  have hl:∀j,Value.ownBlock (.slice a1 is.length c1)=some j->w.heap.size<j:=fun j hj=>by have h1:=(OV3.out.lt j hj).1;omega
  have nR:∀j,Value.ownBlock (.slice a1 is.length c1)=some j->¬R j:=fun j hj e=>by have:=(LMH.out.lr j e).1;have:=hl j hj;omega
  have OWN:=Hid.mk' (hb.textsL (by omega) (.slice a1 is.length c1) is OV3.out (by have:=QO.out;omega) (fun e=>nR _ e (by obtain ⟨_,_,_,_,_,_,_,_,_,b,_⟩:=hb;exact b.rb)) nR)
  have HLH:=Hid.mk' hl
  have M123:Hid (nI<=n/\nE<=n/\nT<=n):=⟨m1,m2,m3⟩
  clear L3 hb h3 g3 hl nR m1 m2 m3
  have e1:=NIL1.out hz0
  injection e1 with e1 e2 e3
  subst e1 e3
  generalize hL:is.length=L at *
  obtain rfl:L=0:=by omega
  go_wp2_with fail
  refine Calls.mono OWN.out ?_
  rintro e w4 ⟨rfl,bk4,o4⟩
  go_wp2
  go_ret
  exact ⟨rfl,LMH.out.booked G3.out (fun j hj=>Nat.le_of_lt (HLH.out j hj)) ⟨_,_,_,by have:=M123.out;omega,by have:=M123.out;omega,by have:=M123.out;omega,bk4⟩ o4 HG.out⟩
theorem aGO (bw n:Nat)(G:Nat->Prop)(sh k m x y:Int)(pl sp:Nat)(t:ByteArray)(w:World)(h:LI w bw G n)(hn:n<=9000000):
  Calls prog 62 #[.pointer (some ⟨bw,0,none⟩),.agg #[.int .i64 18,.int .i64 sh,.int .i64 k,.int .i64 m,.int .i64 x,.int .i64 y,.float .f32 pl,.float .f32 sp,.string t]] w fun e w'=>e=.returned (.bool true)/\LIn w w' bw G (n+4):=by
 obtain ⟨bp,bq,bk,A,D,R,p,lm,hG⟩:=h
 have g0:=World.grownBy_alloc w (.cells #[.int .i64 18,.int .i64 sh,.int .i64 k,.int .i64 m,.int .i64 x,.int .i64 y,.float .f32 pl,.float .f32 sp,.string t] 35) none
 have LMH:=Hid.mk' lm
 have HG:=Hid.mk' hG
 have G0:=Hid.mk' g0
 have AX:=Hid.mk' (At.new w [.int .i64 18,.int .i64 sh,.int .i64 k,.int .i64 m,.int .i64 x,.int .i64 y,.float .f32 pl,.float .f32 sp,.string t] 35)
 have AW:=Hid.mk' (lm.lw.grown g0)
 have bwl:=lm.lw.lt
 clear lm g0 hG
 have QX:=Hid.mk' fun W (gW:w.grownBy W none)=>aIx (LMH.out.pw.grown gW) sh k
 have QY:=Hid.mk' fun W (gW:w.grownBy W none)=>aIy (LMH.out.ds.grown gW) sh k
 generalize p.fileT sh k=T at *
 generalize zM sh k=z at *
 have hzz:(z==z)=true:=by simp
 have hn':=hn
 clear hn
 go_enter func62,ntmps62
 go_wp2_with fail
 refine wp_region_held_drew (S:=fun w'=>At w' bw (LC bp bq bk)/\At w' w.heap.size (AC 18 sh k m x y pl sp t)) (by kernel_rfl) (⟨AW.out.drew,AX.out.drew⟩) (fun hHeld=>?_)
 refine aL 0 ?_
 simp only[aF]
 refine aL 1 ?_
 simp only[aF]
 refine aL 2 ?_
 simp only[aF]
 refine aW 3 rfl (by intro w hSw;have S0:=hSw.1.c 0 _ rfl;go_simp;try with_reducible rfl) ?_
 simp only[aF]
 refine aL 4 ?_
 simp only[aF]
 refine aW 5 rfl (by intro w hSw;have S1:=hSw.2.c 1 _ rfl;go_simp;try with_reducible rfl) ?_
 simp only[aF]
 refine aL 6 ?_
 simp only[aF]
 refine aW 7 rfl (by intro w hSw;have S2:=hSw.2.c 2 _ rfl;go_simp;try with_reducible rfl) ?_
 simp only[aF]
 refine aU 8 (f:=118) (args:=#[.pointer (some ⟨bp,0,none⟩),.int .i64 sh,.int .i64 k]) (by kernel_rfl) (by rfl) (by rfl) (by go_simp) ?_
 refine Calls.mono (QX.out _ (aA G0.out)) ?_
 rintro e w1 ⟨rfl,rfl⟩
 have hS:=hHeld
 clear hHeld
 have hHeld:=hS
 refine ⟨_,rfl,hHeld,?_⟩
 simp only[aF]
 refine aL 9 ?_
 simp only[aF]
 refine aL 10 ?_
 simp only[aF]
 refine aL 11 ?_
 simp only[aF]
 refine aL 12 ?_
 simp only[aF]
 refine aL 13 ?_
 simp only[aF]
 refine wpAnyH_done (by kernel_rfl) ?_ _
 have HH:=Hid.mk' hHeld
 clear hHeld hS
 have H1:=HH
 clear HH
 go_wp2_with fail
 refine wp_region_held_drew (S:=fun w'=>At w' bw (LC bp bq bk)/\At w' w.heap.size (AC 18 sh k m x y pl sp t)) (by kernel_rfl) (⟨H1.out.1.drew,H1.out.2.drew⟩) (fun hHeld=>?_)
 refine aL 0 ?_
 simp only[aF]
 refine aL 1 ?_
 simp only[aF]
 refine aL 2 ?_
 simp only[aF]
 refine aW 3 rfl (by intro w hSw;have S0:=hSw.1.c 1 _ rfl;go_simp;try with_reducible rfl) ?_
 simp only[aF]
 refine aL 4 ?_
 simp only[aF]
 refine aW 5 rfl (by intro w hSw;have S1:=hSw.2.c 1 _ rfl;go_simp;try with_reducible rfl) ?_
 simp only[aF]
 refine aL 6 ?_
 simp only[aF]
 refine aW 7 rfl (by intro w hSw;have S2:=hSw.2.c 2 _ rfl;go_simp;try with_reducible rfl) ?_
 simp only[aF]
 refine aU 8 (f:=119) (args:=#[.pointer (some ⟨bq,0,none⟩),.int .i64 sh,.int .i64 k]) (by kernel_rfl) (by rfl) (by rfl) (by go_simp) ?_
 refine Calls.mono (QY.out _ (aA (aA G0.out))) ?_
 rintro e w2 ⟨rfl,rfl⟩
 have hS:=hHeld
 clear hHeld
 have hHeld:=hS
 refine ⟨_,rfl,hHeld,?_⟩
 simp only[aF]
 refine aL 9 ?_
 simp only[aF]
 refine aL 10 ?_
 simp only[aF]
 refine aL 11 ?_
 simp only[aF]
 refine aL 12 ?_
 simp only[aF]
 refine aL 13 ?_
 simp only[aF]
 refine wpAnyH_done (by kernel_rfl) ?_ _
 have HH:=Hid.mk' hHeld
 clear hHeld hS
 go_wp2
 go_ret
 exact ⟨rfl,(LMH.out.li HG.out (aA (aA G0.out))).mono (by omega)⟩
theorem aGP (bw n:Nat)(G:Nat->Prop)(K sh k m x y:Int)(pl sp:Nat)(t:ByteArray)(w:World)(h:LI w bw G n)(hK:∀c:Int,14<=c->c<=18->K≠c):
  Calls prog 62 #[.pointer (some ⟨bw,0,none⟩),.agg #[.int .i64 K,.int .i64 sh,.int .i64 k,.int .i64 m,.int .i64 x,.int .i64 y,.float .f32 pl,.float .f32 sp,.string t]] w fun e w'=>e=.returned (.bool true)/\LIn w w' bw G (n+4):=by
 obtain ⟨bp,bq,bk,A,D,R,p,lm,hG⟩:=h
 have g0:=World.grownBy_alloc w (.cells #[.int .i64 K,.int .i64 sh,.int .i64 k,.int .i64 m,.int .i64 x,.int .i64 y,.float .f32 pl,.float .f32 sp,.string t] 35) none
 have LMH:=Hid.mk' lm
 have HG:=Hid.mk' hG
 have G0:=Hid.mk' g0
 have AX:=Hid.mk' (At.new w [.int .i64 K,.int .i64 sh,.int .i64 k,.int .i64 m,.int .i64 x,.int .i64 y,.float .f32 pl,.float .f32 sp,.string t] 35)
 have AW:=Hid.mk' (lm.lw.grown g0)
 have bwl:=lm.lw.lt
 clear lm g0 hG
 have e14:(K==14)=false:=by have:=hK 14 (by omega) (by omega);simpa using this
 have e15:(K==15)=false:=by have:=hK 15 (by omega) (by omega);simpa using this
 have e16:(K==16)=false:=by have:=hK 16 (by omega) (by omega);simpa using this
 have e17:(K==17)=false:=by have:=hK 17 (by omega) (by omega);simpa using this
 have e18:(K==18)=false:=by have:=hK 18 (by omega) (by omega);simpa using this
 clear hK
 go_enter func62,ntmps62
 go_wp2
 go_ret
 exact ⟨rfl,(LMH.out.li HG.out G0.out).mono (by omega)⟩
theorem aEe (bw n:Nat)(G:Nat->Prop)(sh k m x y:Int)(pl sp:Nat)(t:ByteArray)(w:World)(h:LI w bw G n):
  Calls prog 62 #[.pointer (some ⟨bw,0,none⟩),.agg #[.int .i64 16,.int .i64 sh,.int .i64 k,.int .i64 m,.int .i64 x,.int .i64 y,.float .f32 pl,.float .f32 sp,.string t]] w fun e w'=>e=.returned (.bool true)/\LIn w w' bw G (n+4):=by
 obtain ⟨bp,bq,bk,A,D,R,p,lm,hG⟩:=h
 have g0:=World.grownBy_alloc w (.cells #[.int .i64 16,.int .i64 sh,.int .i64 k,.int .i64 m,.int .i64 x,.int .i64 y,.float .f32 pl,.float .f32 sp,.string t] 35) none
 have LMH:=Hid.mk' lm
 have HG:=Hid.mk' hG
 have G0:=Hid.mk' g0
 have AX:=Hid.mk' (At.new w [.int .i64 16,.int .i64 sh,.int .i64 k,.int .i64 m,.int .i64 x,.int .i64 y,.float .f32 pl,.float .f32 sp,.string t] 35)
 have AW:=Hid.mk' (lm.lw.grown g0)
 have bwl:=lm.lw.lt
 clear lm g0 hG
 have QX:=Hid.mk' fun W (gW:w.grownBy W none)=>aGw (LMH.out.pw.grown gW) sh
 have QY:=Hid.mk' fun W (gW:w.grownBy W none)=>aGM (LMH.out.ds.grown gW) sh
 obtain ⟨z,hz⟩:∃z,p.upE sh=z:=⟨_,rfl⟩
 obtain ⟨mm,hmm⟩:∃mm,p.marks sh=mm:=⟨_,rfl⟩
 rw[hz,hmm] at QX QY
 obtain ⟨v0,v1,v2,v3,v4⟩:=mm
 unfold mkV at QX QY
 simp only at QX QY
 have hzz:(z==z)=true:=by simp
 clear hz hmm
 go_enter func62,ntmps62
 go_wp2_with fail
 refine wp_region_held_drew (S:=fun w'=>At w' bw (LC bp bq bk)/\At w' w.heap.size (AC 16 sh k m x y pl sp t)/\True) (by kernel_rfl) (⟨AW.out.drew,AX.out.drew,trivial⟩) (fun hHeld=>?_)
 refine aL 0 ?_
 simp only[aF]
 refine aL 1 ?_
 simp only[aF]
 refine aL 2 ?_
 simp only[aF]
 refine aW 3 rfl (by intro w hSw;have S0:=hSw.1.c 0 _ rfl;go_simp;try with_reducible rfl) ?_
 simp only[aF]
 refine aL 4 ?_
 simp only[aF]
 refine aW 5 rfl (by intro w hSw;have S1:=hSw.2.1.c 1 _ rfl;go_simp;try with_reducible rfl) ?_
 simp only[aF]
 refine mO 6 10 (f:=16) (args:=#[.pointer (some ⟨bp,0,none⟩),.int .i64 sh]) (by kernel_rfl) (by rfl) (by rfl) (by go_simp) (by rfl) (by rfl) ?_ ?_
 ·skip
  refine Calls.mono (QX.out _ (aA G0.out)) ?_
  rintro e w1 ⟨rfl,g1⟩
  have hS:At w1 bw (LC bp bq bk)/\At w1 w.heap.size (AC 16 sh k m x y pl sp t)/\True:=⟨hHeld.1.grown g1,hHeld.2.1.grown g1,trivial⟩
  have GG:Hid (w.grownBy w1 none):=(aA G0.out).trans g1
  clear hHeld
  have hHeld:=hS
  refine ⟨_,rfl,hHeld,?_⟩
  simp only[aF]
  refine aL 7 ?_
  simp only[aF]
  refine aL 8 ?_
  simp only[aF]
  refine aL 9 ?_
  simp only[aF]
  refine eP 10 (by kernel_rfl) (by rfl) (by rfl) ?_
  intro K hK
  go_simp
  refine hK _ _ ⟨hHeld.1.alloc _,hHeld.2.1.alloc _,trivial⟩ ?_
  clear hK K
  refine eP 11 (by kernel_rfl) (by rfl) (by rfl) ?_
  intro K hK
  go_simp
  refine hK _ _ ⟨hHeld.1.alloc _,hHeld.2.1.alloc _,trivial⟩ ?_
  clear hK K
  replace hHeld:At (w1.alloc (.cells #[.int .i64 v0,.int .i64 v1,.int .i64 v2,.int .i64 v3,.int .i64 v4] 44)) bw [.pointer (some ⟨bp,0,none⟩),.pointer (some ⟨bq,0,none⟩),.pointer (some ⟨bk,0,none⟩)]/\At (w1.alloc (.cells #[.int .i64 v0,.int .i64 v1,.int .i64 v2,.int .i64 v3,.int .i64 v4] 44)) w.heap.size [.int .i64 16,.int .i64 sh,.int .i64 k,.int .i64 m,.int .i64 x,.int .i64 y,.float .f32 pl,.float .f32 sp,.string t]/\True:=⟨hHeld.1.alloc _,hHeld.2.1.alloc _,trivial⟩
  refine aL 12 ?_
  simp only[aF]
  refine wpAnyH_done (by kernel_rfl) ?_ _
  have XA1:Hid (At (w1.alloc (.cells #[.int .i64 v0,.int .i64 v1,.int .i64 v2,.int .i64 v3,.int .i64 v4] 44)) w1.heap.size [.int .i64 v0,.int .i64 v1,.int .i64 v2,.int .i64 v3,.int .i64 v4]):=Hid.mk' (At.new w1 [.int .i64 v0,.int .i64 v1,.int .i64 v2,.int .i64 v3,.int .i64 v4] 44)
  have GV1:Hid (w.grownBy (w1.alloc (.cells #[.int .i64 v0,.int .i64 v1,.int .i64 v2,.int .i64 v3,.int .i64 v4] 44)) none):=aG GG.out _
  have HA1:=Hid.mk' hHeld
  have xl1:w.heap.size<w1.heap.size:=by have h1:=(aA G0.out).size;have h2:=g1.size;simp at h1 h2;omega
  have xv1:=XA1.out.lt
  clear hHeld hS GG g1
  generalize (w1.alloc (.cells #[.int .i64 v0,.int .i64 v1,.int .i64 v2,.int .i64 v3,.int .i64 v4] 44))=V1 at *
  generalize w1.heap.size=X1 at *
  go_wp2_with fail
  refine wp_region_held_drew (S:=fun w'=>At w' bw (LC bp bq bk)/\At w' w.heap.size (AC 16 sh k m x y pl sp t)/\At w' X1 [.int .i64 v0,.int .i64 v1,.int .i64 v2,.int .i64 v3,.int .i64 v4]) (by kernel_rfl) (⟨HA1.out.1.drew,HA1.out.2.1.drew,XA1.out.drew⟩) (fun hHeld=>?_)
  refine aL 0 ?_
  simp only[aF]
  refine aL 1 ?_
  simp only[aF]
  refine aL 2 ?_
  simp only[aF]
  refine aW 3 rfl (by intro w hSw;have S0:=hSw.1.c 1 _ rfl;go_simp;try with_reducible rfl) ?_
  simp only[aF]
  refine aL 4 ?_
  simp only[aF]
  refine aW 5 rfl (by intro w hSw;have S1:=hSw.2.1.c 1 _ rfl;go_simp;try with_reducible rfl) ?_
  simp only[aF]
  refine mO 6 10 (f:=113) (args:=#[.pointer (some ⟨bq,0,none⟩),.int .i64 sh]) (by kernel_rfl) (by rfl) (by rfl) (by go_simp) (by rfl) (by rfl) ?_ ?_
  ·skip
   refine Calls.mono (QY.out _ (aA GV1.out)) ?_
   rintro e w2 ⟨rfl,g2⟩
   have hS:At w2 bw (LC bp bq bk)/\At w2 w.heap.size (AC 16 sh k m x y pl sp t)/\At w2 X1 [.int .i64 v0,.int .i64 v1,.int .i64 v2,.int .i64 v3,.int .i64 v4]:=⟨hHeld.1.grown g2,hHeld.2.1.grown g2,hHeld.2.2.grown g2⟩
   have GG:Hid (w.grownBy w2 none):=(aA GV1.out).trans g2
   clear hHeld
   have hHeld:=hS
   refine ⟨_,rfl,hHeld,?_⟩
   simp only[aF]
   refine aL 7 ?_
   simp only[aF]
   refine aL 8 ?_
   simp only[aF]
   refine aL 9 ?_
   simp only[aF]
   refine eP 10 (by kernel_rfl) (by rfl) (by rfl) ?_
   intro K hK
   go_simp
   refine hK _ _ ⟨hHeld.1.alloc _,hHeld.2.1.alloc _,hHeld.2.2.alloc _⟩ ?_
   clear hK K
   refine eP 11 (by kernel_rfl) (by rfl) (by rfl) ?_
   intro K hK
   go_simp
   refine hK _ _ ⟨hHeld.1.alloc _,hHeld.2.1.alloc _,hHeld.2.2.alloc _⟩ ?_
   clear hK K
   replace hHeld:At (w2.alloc (.cells #[.int .i64 v0,.int .i64 v1,.int .i64 v2,.int .i64 v3,.int .i64 v4] 44)) bw [.pointer (some ⟨bp,0,none⟩),.pointer (some ⟨bq,0,none⟩),.pointer (some ⟨bk,0,none⟩)]/\At (w2.alloc (.cells #[.int .i64 v0,.int .i64 v1,.int .i64 v2,.int .i64 v3,.int .i64 v4] 44)) w.heap.size [.int .i64 16,.int .i64 sh,.int .i64 k,.int .i64 m,.int .i64 x,.int .i64 y,.float .f32 pl,.float .f32 sp,.string t]/\At (w2.alloc (.cells #[.int .i64 v0,.int .i64 v1,.int .i64 v2,.int .i64 v3,.int .i64 v4] 44)) X1 [.int .i64 v0,.int .i64 v1,.int .i64 v2,.int .i64 v3,.int .i64 v4]:=⟨hHeld.1.alloc _,hHeld.2.1.alloc _,hHeld.2.2.alloc _⟩
   refine aL 12 ?_
   simp only[aF]
   refine wpAnyH_done (by kernel_rfl) ?_ _
   have XA2:Hid (At (w2.alloc (.cells #[.int .i64 v0,.int .i64 v1,.int .i64 v2,.int .i64 v3,.int .i64 v4] 44)) w2.heap.size [.int .i64 v0,.int .i64 v1,.int .i64 v2,.int .i64 v3,.int .i64 v4]):=Hid.mk' (At.new w2 [.int .i64 v0,.int .i64 v1,.int .i64 v2,.int .i64 v3,.int .i64 v4] 44)
   have GV2:Hid (w.grownBy (w2.alloc (.cells #[.int .i64 v0,.int .i64 v1,.int .i64 v2,.int .i64 v3,.int .i64 v4] 44)) none):=aG GG.out _
   have HA2:=Hid.mk' hHeld
   have xl2:w.heap.size<w2.heap.size:=by have h1:=(aA GV1.out).size;have h2:=g2.size;simp at h1 h2;omega
   have xv2:=XA2.out.lt
   clear hHeld hS GG g2
   generalize (w2.alloc (.cells #[.int .i64 v0,.int .i64 v1,.int .i64 v2,.int .i64 v3,.int .i64 v4] 44))=V2 at *
   generalize w2.heap.size=X2 at *
   have c0:=HA2.out.2.2.c 0 _ rfl
   have c1:=HA2.out.2.2.c 1 _ rfl
   have c2:=HA2.out.2.2.c 2 _ rfl
   have c3:=HA2.out.2.2.c 3 _ rfl
   have c4:=HA2.out.2.2.c 4 _ rfl
   have d0:=XA2.out.c 0 _ rfl
   have d1:=XA2.out.c 1 _ rfl
   have d2:=XA2.out.c 2 _ rfl
   have d3:=XA2.out.c 3 _ rfl
   have d4:=XA2.out.c 4 _ rfl
   go_wp2
   go_ret
   exact ⟨rfl,(LMH.out.li HG.out GV2.out).mono (by omega)⟩
  ·skip
   intro K hK
   go_simp
   refine hK _ _ ⟨hHeld.1.alloc _,hHeld.2.1.alloc _,hHeld.2.2.alloc _⟩ ?_
   clear hK K
   replace hHeld:At (V1.drew.alloc (.cells #[.int .i64 0,.int .i64 0,.int .i64 0,.int .i64 0,.int .i64 0] 44)) bw [.pointer (some ⟨bp,0,none⟩),.pointer (some ⟨bq,0,none⟩),.pointer (some ⟨bk,0,none⟩)]/\At (V1.drew.alloc (.cells #[.int .i64 0,.int .i64 0,.int .i64 0,.int .i64 0,.int .i64 0] 44)) w.heap.size [.int .i64 16,.int .i64 sh,.int .i64 k,.int .i64 m,.int .i64 x,.int .i64 y,.float .f32 pl,.float .f32 sp,.string t]/\At (V1.drew.alloc (.cells #[.int .i64 0,.int .i64 0,.int .i64 0,.int .i64 0,.int .i64 0] 44)) X1 [.int .i64 v0,.int .i64 v1,.int .i64 v2,.int .i64 v3,.int .i64 v4]:=⟨hHeld.1.alloc _,hHeld.2.1.alloc _,hHeld.2.2.alloc _⟩
   refine aU 6 (f:=113) (args:=#[.pointer (some ⟨bq,0,none⟩),.int .i64 sh]) (by kernel_rfl) (by rfl) (by rfl) (by go_simp) ?_
   refine Calls.mono (QY.out _ (aG (aA GV1.out) _)) ?_
   rintro e w2 ⟨rfl,g2⟩
   have hS:At w2 bw (LC bp bq bk)/\At w2 w.heap.size (AC 16 sh k m x y pl sp t)/\At w2 X1 [.int .i64 v0,.int .i64 v1,.int .i64 v2,.int .i64 v3,.int .i64 v4]:=⟨hHeld.1.grown g2,hHeld.2.1.grown g2,hHeld.2.2.grown g2⟩
   have GG:Hid (w.grownBy w2 none):=(aG (aA GV1.out) _).trans g2
   have XB:At w2 V1.heap.size [.int .i64 0,.int .i64 0,.int .i64 0,.int .i64 0,.int .i64 0]:=by
    have:=(At.new V1.drew [.int .i64 0,.int .i64 0,.int .i64 0,.int .i64 0,.int .i64 0] 44).grown g2
    simpa using this
   have zz:=(aA GV1.out).size
   clear hHeld
   have hHeld:=hS
   refine ⟨_,rfl,hHeld,?_⟩
   simp only[aF]
   refine aL 7 ?_
   simp only[aF]
   refine aL 8 ?_
   simp only[aF]
   refine aL 9 ?_
   simp only[aF]
   refine eP 11 (by kernel_rfl) (by rfl) (by rfl) ?_
   intro K hK
   have xf:=XB.f
   have xc0:=XB.c 0 _ rfl
   have xc1:=XB.c 1 _ rfl
   have xc2:=XB.c 2 _ rfl
   have xc3:=XB.c 3 _ rfl
   have xc4:=XB.c 4 _ rfl
   have PXL:=XB.all [.int .i64 v0,.int .i64 v1,.int .i64 v2,.int .i64 v3,.int .i64 v4] rfl
   have POL:=cM V1.heap.size [.int .i64 v0,.int .i64 v1,.int .i64 v2,.int .i64 v3,.int .i64 v4] w2 0
   simp only[lH,Nat.reduceAdd] at PXL POL
   go_simp
   have hS2:At ((((((w2.setCell ⟨V1.heap.size,0,none⟩ (.int .i64 v0)).setCell ⟨V1.heap.size,1,none⟩ (.int .i64 v1)).setCell ⟨V1.heap.size,2,none⟩ (.int .i64 v2)).setCell ⟨V1.heap.size,3,none⟩ (.int .i64 v3)).setCell ⟨V1.heap.size,4,none⟩ (.int .i64 v4))) bw [.pointer (some ⟨bp,0,none⟩),.pointer (some ⟨bq,0,none⟩),.pointer (some ⟨bk,0,none⟩)]/\At ((((((w2.setCell ⟨V1.heap.size,0,none⟩ (.int .i64 v0)).setCell ⟨V1.heap.size,1,none⟩ (.int .i64 v1)).setCell ⟨V1.heap.size,2,none⟩ (.int .i64 v2)).setCell ⟨V1.heap.size,3,none⟩ (.int .i64 v3)).setCell ⟨V1.heap.size,4,none⟩ (.int .i64 v4))) w.heap.size [.int .i64 16,.int .i64 sh,.int .i64 k,.int .i64 m,.int .i64 x,.int .i64 y,.float .f32 pl,.float .f32 sp,.string t]/\At ((((((w2.setCell ⟨V1.heap.size,0,none⟩ (.int .i64 v0)).setCell ⟨V1.heap.size,1,none⟩ (.int .i64 v1)).setCell ⟨V1.heap.size,2,none⟩ (.int .i64 v2)).setCell ⟨V1.heap.size,3,none⟩ (.int .i64 v3)).setCell ⟨V1.heap.size,4,none⟩ (.int .i64 v4))) X1 [.int .i64 v0,.int .i64 v1,.int .i64 v2,.int .i64 v3,.int .i64 v4]:=⟨hHeld.1.only POL (fun e=>by simp at zz;omega),hHeld.2.1.only POL (fun e=>by simp at zz;omega),hHeld.2.2.only POL (fun e=>by simp at zz;omega)⟩
   refine hK _ _ hS2 ?_
   clear hK K
   clear hHeld
   have hHeld:=hS2
   refine aL 12 ?_
   simp only[aF]
   refine wpAnyH_done (by kernel_rfl) ?_ _
   have XA2:Hid (At ((((((w2.setCell ⟨V1.heap.size,0,none⟩ (.int .i64 v0)).setCell ⟨V1.heap.size,1,none⟩ (.int .i64 v1)).setCell ⟨V1.heap.size,2,none⟩ (.int .i64 v2)).setCell ⟨V1.heap.size,3,none⟩ (.int .i64 v3)).setCell ⟨V1.heap.size,4,none⟩ (.int .i64 v4))) V1.heap.size [.int .i64 v0,.int .i64 v1,.int .i64 v2,.int .i64 v3,.int .i64 v4]):=Hid.mk' PXL
   have GV2:Hid (w.grownBy ((((((w2.setCell ⟨V1.heap.size,0,none⟩ (.int .i64 v0)).setCell ⟨V1.heap.size,1,none⟩ (.int .i64 v1)).setCell ⟨V1.heap.size,2,none⟩ (.int .i64 v2)).setCell ⟨V1.heap.size,3,none⟩ (.int .i64 v3)).setCell ⟨V1.heap.size,4,none⟩ (.int .i64 v4))) none):=Hid.mk' (eI GG.out POL (fun k e=>by simp at zz;omega))
   have HA2:=Hid.mk' hHeld
   have xl2:w.heap.size<V1.heap.size:=by simp at zz;omega
   have xv2:=XA2.out.lt
   clear hHeld hS GG g2 hS2 PXL POL XB xf xc0 xc1 xc2 xc3 xc4 zz
   generalize ((((((w2.setCell ⟨V1.heap.size,0,none⟩ (.int .i64 v0)).setCell ⟨V1.heap.size,1,none⟩ (.int .i64 v1)).setCell ⟨V1.heap.size,2,none⟩ (.int .i64 v2)).setCell ⟨V1.heap.size,3,none⟩ (.int .i64 v3)).setCell ⟨V1.heap.size,4,none⟩ (.int .i64 v4)))=V2 at *
   generalize V1.heap.size=X2 at *
   have c0:=HA2.out.2.2.c 0 _ rfl
   have c1:=HA2.out.2.2.c 1 _ rfl
   have c2:=HA2.out.2.2.c 2 _ rfl
   have c3:=HA2.out.2.2.c 3 _ rfl
   have c4:=HA2.out.2.2.c 4 _ rfl
   have d0:=XA2.out.c 0 _ rfl
   have d1:=XA2.out.c 1 _ rfl
   have d2:=XA2.out.c 2 _ rfl
   have d3:=XA2.out.c 3 _ rfl
   have d4:=XA2.out.c 4 _ rfl
   go_wp2
   go_ret
   exact ⟨rfl,(LMH.out.li HG.out GV2.out).mono (by omega)⟩
 ·skip
  intro K hK
  go_simp
  refine hK _ _ ⟨hHeld.1.alloc _,hHeld.2.1.alloc _,trivial⟩ ?_
  clear hK K
  replace hHeld:At ((w.alloc (.cells #[.int .i64 16,.int .i64 sh,.int .i64 k,.int .i64 m,.int .i64 x,.int .i64 y,.float .f32 pl,.float .f32 sp,.string t] 35)).drew.alloc (.cells #[.int .i64 0,.int .i64 0,.int .i64 0,.int .i64 0,.int .i64 0] 44)) bw [.pointer (some ⟨bp,0,none⟩),.pointer (some ⟨bq,0,none⟩),.pointer (some ⟨bk,0,none⟩)]/\At ((w.alloc (.cells #[.int .i64 16,.int .i64 sh,.int .i64 k,.int .i64 m,.int .i64 x,.int .i64 y,.float .f32 pl,.float .f32 sp,.string t] 35)).drew.alloc (.cells #[.int .i64 0,.int .i64 0,.int .i64 0,.int .i64 0,.int .i64 0] 44)) w.heap.size [.int .i64 16,.int .i64 sh,.int .i64 k,.int .i64 m,.int .i64 x,.int .i64 y,.float .f32 pl,.float .f32 sp,.string t]/\True:=⟨hHeld.1.alloc _,hHeld.2.1.alloc _,trivial⟩
  refine aU 6 (f:=16) (args:=#[.pointer (some ⟨bp,0,none⟩),.int .i64 sh]) (by kernel_rfl) (by rfl) (by rfl) (by go_simp) ?_
  refine Calls.mono (QX.out _ (aG (aA G0.out) _)) ?_
  rintro e w1 ⟨rfl,g1⟩
  have hS:At w1 bw (LC bp bq bk)/\At w1 w.heap.size (AC 16 sh k m x y pl sp t)/\True:=⟨hHeld.1.grown g1,hHeld.2.1.grown g1,trivial⟩
  have GG:Hid (w.grownBy w1 none):=(aG (aA G0.out) _).trans g1
  have XB:At w1 (w.heap.size+1) [.int .i64 0,.int .i64 0,.int .i64 0,.int .i64 0,.int .i64 0]:=by
   have:=(At.new (w.alloc (.cells #[.int .i64 16,.int .i64 sh,.int .i64 k,.int .i64 m,.int .i64 x,.int .i64 y,.float .f32 pl,.float .f32 sp,.string t] 35)).drew [.int .i64 0,.int .i64 0,.int .i64 0,.int .i64 0,.int .i64 0] 44).grown g1
   simpa using this
  have zz:=(aA G0.out).size
  clear hHeld
  have hHeld:=hS
  refine ⟨_,rfl,hHeld,?_⟩
  simp only[aF]
  refine aL 7 ?_
  simp only[aF]
  refine aL 8 ?_
  simp only[aF]
  refine aL 9 ?_
  simp only[aF]
  refine eP 11 (by kernel_rfl) (by rfl) (by rfl) ?_
  intro K hK
  have xf:=XB.f
  have xc0:=XB.c 0 _ rfl
  have xc1:=XB.c 1 _ rfl
  have xc2:=XB.c 2 _ rfl
  have xc3:=XB.c 3 _ rfl
  have xc4:=XB.c 4 _ rfl
  have PXL:=XB.all [.int .i64 v0,.int .i64 v1,.int .i64 v2,.int .i64 v3,.int .i64 v4] rfl
  have POL:=cM (w.heap.size+1) [.int .i64 v0,.int .i64 v1,.int .i64 v2,.int .i64 v3,.int .i64 v4] w1 0
  simp only[lH,Nat.reduceAdd] at PXL POL
  go_simp
  have hS2:At ((((((w1.setCell ⟨(w.heap.size+1),0,none⟩ (.int .i64 v0)).setCell ⟨(w.heap.size+1),1,none⟩ (.int .i64 v1)).setCell ⟨(w.heap.size+1),2,none⟩ (.int .i64 v2)).setCell ⟨(w.heap.size+1),3,none⟩ (.int .i64 v3)).setCell ⟨(w.heap.size+1),4,none⟩ (.int .i64 v4))) bw [.pointer (some ⟨bp,0,none⟩),.pointer (some ⟨bq,0,none⟩),.pointer (some ⟨bk,0,none⟩)]/\At ((((((w1.setCell ⟨(w.heap.size+1),0,none⟩ (.int .i64 v0)).setCell ⟨(w.heap.size+1),1,none⟩ (.int .i64 v1)).setCell ⟨(w.heap.size+1),2,none⟩ (.int .i64 v2)).setCell ⟨(w.heap.size+1),3,none⟩ (.int .i64 v3)).setCell ⟨(w.heap.size+1),4,none⟩ (.int .i64 v4))) w.heap.size [.int .i64 16,.int .i64 sh,.int .i64 k,.int .i64 m,.int .i64 x,.int .i64 y,.float .f32 pl,.float .f32 sp,.string t]/\True:=⟨hHeld.1.only POL (fun e=>by simp at zz;omega),hHeld.2.1.only POL (fun e=>by simp at zz;omega),trivial⟩
  refine hK _ _ hS2 ?_
  clear hK K
  clear hHeld
  have hHeld:=hS2
  refine aL 12 ?_
  simp only[aF]
  refine wpAnyH_done (by kernel_rfl) ?_ _
  have XA1:Hid (At ((((((w1.setCell ⟨(w.heap.size+1),0,none⟩ (.int .i64 v0)).setCell ⟨(w.heap.size+1),1,none⟩ (.int .i64 v1)).setCell ⟨(w.heap.size+1),2,none⟩ (.int .i64 v2)).setCell ⟨(w.heap.size+1),3,none⟩ (.int .i64 v3)).setCell ⟨(w.heap.size+1),4,none⟩ (.int .i64 v4))) (w.heap.size+1) [.int .i64 v0,.int .i64 v1,.int .i64 v2,.int .i64 v3,.int .i64 v4]):=Hid.mk' PXL
  have GV1:Hid (w.grownBy ((((((w1.setCell ⟨(w.heap.size+1),0,none⟩ (.int .i64 v0)).setCell ⟨(w.heap.size+1),1,none⟩ (.int .i64 v1)).setCell ⟨(w.heap.size+1),2,none⟩ (.int .i64 v2)).setCell ⟨(w.heap.size+1),3,none⟩ (.int .i64 v3)).setCell ⟨(w.heap.size+1),4,none⟩ (.int .i64 v4))) none):=Hid.mk' (eI GG.out POL (fun k e=>by simp at zz;omega))
  have HA1:=Hid.mk' hHeld
  have xl1:w.heap.size<(w.heap.size+1):=by simp at zz;omega
  have xv1:=XA1.out.lt
  clear hHeld hS GG g1 hS2 PXL POL XB xf xc0 xc1 xc2 xc3 xc4 zz
  generalize ((((((w1.setCell ⟨(w.heap.size+1),0,none⟩ (.int .i64 v0)).setCell ⟨(w.heap.size+1),1,none⟩ (.int .i64 v1)).setCell ⟨(w.heap.size+1),2,none⟩ (.int .i64 v2)).setCell ⟨(w.heap.size+1),3,none⟩ (.int .i64 v3)).setCell ⟨(w.heap.size+1),4,none⟩ (.int .i64 v4)))=V1 at *
  generalize (w.heap.size+1)=X1 at *
  go_wp2_with fail
  refine wp_region_held_drew (S:=fun w'=>At w' bw (LC bp bq bk)/\At w' w.heap.size (AC 16 sh k m x y pl sp t)/\At w' X1 [.int .i64 v0,.int .i64 v1,.int .i64 v2,.int .i64 v3,.int .i64 v4]) (by kernel_rfl) (⟨HA1.out.1.drew,HA1.out.2.1.drew,XA1.out.drew⟩) (fun hHeld=>?_)
  refine aL 0 ?_
  simp only[aF]
  refine aL 1 ?_
  simp only[aF]
  refine aL 2 ?_
  simp only[aF]
  refine aW 3 rfl (by intro w hSw;have S0:=hSw.1.c 1 _ rfl;go_simp;try with_reducible rfl) ?_
  simp only[aF]
  refine aL 4 ?_
  simp only[aF]
  refine aW 5 rfl (by intro w hSw;have S1:=hSw.2.1.c 1 _ rfl;go_simp;try with_reducible rfl) ?_
  simp only[aF]
  refine mO 6 10 (f:=113) (args:=#[.pointer (some ⟨bq,0,none⟩),.int .i64 sh]) (by kernel_rfl) (by rfl) (by rfl) (by go_simp) (by rfl) (by rfl) ?_ ?_
  ·skip
   refine Calls.mono (QY.out _ (aA GV1.out)) ?_
   rintro e w2 ⟨rfl,g2⟩
   have hS:At w2 bw (LC bp bq bk)/\At w2 w.heap.size (AC 16 sh k m x y pl sp t)/\At w2 X1 [.int .i64 v0,.int .i64 v1,.int .i64 v2,.int .i64 v3,.int .i64 v4]:=⟨hHeld.1.grown g2,hHeld.2.1.grown g2,hHeld.2.2.grown g2⟩
   have GG:Hid (w.grownBy w2 none):=(aA GV1.out).trans g2
   clear hHeld
   have hHeld:=hS
   refine ⟨_,rfl,hHeld,?_⟩
   simp only[aF]
   refine aL 7 ?_
   simp only[aF]
   refine aL 8 ?_
   simp only[aF]
   refine aL 9 ?_
   simp only[aF]
   refine eP 10 (by kernel_rfl) (by rfl) (by rfl) ?_
   intro K hK
   go_simp
   refine hK _ _ ⟨hHeld.1.alloc _,hHeld.2.1.alloc _,hHeld.2.2.alloc _⟩ ?_
   clear hK K
   refine eP 11 (by kernel_rfl) (by rfl) (by rfl) ?_
   intro K hK
   go_simp
   refine hK _ _ ⟨hHeld.1.alloc _,hHeld.2.1.alloc _,hHeld.2.2.alloc _⟩ ?_
   clear hK K
   replace hHeld:At (w2.alloc (.cells #[.int .i64 v0,.int .i64 v1,.int .i64 v2,.int .i64 v3,.int .i64 v4] 44)) bw [.pointer (some ⟨bp,0,none⟩),.pointer (some ⟨bq,0,none⟩),.pointer (some ⟨bk,0,none⟩)]/\At (w2.alloc (.cells #[.int .i64 v0,.int .i64 v1,.int .i64 v2,.int .i64 v3,.int .i64 v4] 44)) w.heap.size [.int .i64 16,.int .i64 sh,.int .i64 k,.int .i64 m,.int .i64 x,.int .i64 y,.float .f32 pl,.float .f32 sp,.string t]/\At (w2.alloc (.cells #[.int .i64 v0,.int .i64 v1,.int .i64 v2,.int .i64 v3,.int .i64 v4] 44)) X1 [.int .i64 v0,.int .i64 v1,.int .i64 v2,.int .i64 v3,.int .i64 v4]:=⟨hHeld.1.alloc _,hHeld.2.1.alloc _,hHeld.2.2.alloc _⟩
   refine aL 12 ?_
   simp only[aF]
   refine wpAnyH_done (by kernel_rfl) ?_ _
   have XA2:Hid (At (w2.alloc (.cells #[.int .i64 v0,.int .i64 v1,.int .i64 v2,.int .i64 v3,.int .i64 v4] 44)) w2.heap.size [.int .i64 v0,.int .i64 v1,.int .i64 v2,.int .i64 v3,.int .i64 v4]):=Hid.mk' (At.new w2 [.int .i64 v0,.int .i64 v1,.int .i64 v2,.int .i64 v3,.int .i64 v4] 44)
   have GV2:Hid (w.grownBy (w2.alloc (.cells #[.int .i64 v0,.int .i64 v1,.int .i64 v2,.int .i64 v3,.int .i64 v4] 44)) none):=aG GG.out _
   have HA2:=Hid.mk' hHeld
   have xl2:w.heap.size<w2.heap.size:=by have h1:=(aA GV1.out).size;have h2:=g2.size;simp at h1 h2;omega
   have xv2:=XA2.out.lt
   clear hHeld hS GG g2
   generalize (w2.alloc (.cells #[.int .i64 v0,.int .i64 v1,.int .i64 v2,.int .i64 v3,.int .i64 v4] 44))=V2 at *
   generalize w2.heap.size=X2 at *
   have c0:=HA2.out.2.2.c 0 _ rfl
   have c1:=HA2.out.2.2.c 1 _ rfl
   have c2:=HA2.out.2.2.c 2 _ rfl
   have c3:=HA2.out.2.2.c 3 _ rfl
   have c4:=HA2.out.2.2.c 4 _ rfl
   have d0:=XA2.out.c 0 _ rfl
   have d1:=XA2.out.c 1 _ rfl
   have d2:=XA2.out.c 2 _ rfl
   have d3:=XA2.out.c 3 _ rfl
   have d4:=XA2.out.c 4 _ rfl
   go_wp2
   go_ret
   exact ⟨rfl,(LMH.out.li HG.out GV2.out).mono (by omega)⟩
  ·skip
   intro K hK
   go_simp
   refine hK _ _ ⟨hHeld.1.alloc _,hHeld.2.1.alloc _,hHeld.2.2.alloc _⟩ ?_
   clear hK K
   replace hHeld:At (V1.drew.alloc (.cells #[.int .i64 0,.int .i64 0,.int .i64 0,.int .i64 0,.int .i64 0] 44)) bw [.pointer (some ⟨bp,0,none⟩),.pointer (some ⟨bq,0,none⟩),.pointer (some ⟨bk,0,none⟩)]/\At (V1.drew.alloc (.cells #[.int .i64 0,.int .i64 0,.int .i64 0,.int .i64 0,.int .i64 0] 44)) w.heap.size [.int .i64 16,.int .i64 sh,.int .i64 k,.int .i64 m,.int .i64 x,.int .i64 y,.float .f32 pl,.float .f32 sp,.string t]/\At (V1.drew.alloc (.cells #[.int .i64 0,.int .i64 0,.int .i64 0,.int .i64 0,.int .i64 0] 44)) X1 [.int .i64 v0,.int .i64 v1,.int .i64 v2,.int .i64 v3,.int .i64 v4]:=⟨hHeld.1.alloc _,hHeld.2.1.alloc _,hHeld.2.2.alloc _⟩
   refine aU 6 (f:=113) (args:=#[.pointer (some ⟨bq,0,none⟩),.int .i64 sh]) (by kernel_rfl) (by rfl) (by rfl) (by go_simp) ?_
   refine Calls.mono (QY.out _ (aG (aA GV1.out) _)) ?_
   rintro e w2 ⟨rfl,g2⟩
   have hS:At w2 bw (LC bp bq bk)/\At w2 w.heap.size (AC 16 sh k m x y pl sp t)/\At w2 X1 [.int .i64 v0,.int .i64 v1,.int .i64 v2,.int .i64 v3,.int .i64 v4]:=⟨hHeld.1.grown g2,hHeld.2.1.grown g2,hHeld.2.2.grown g2⟩
   have GG:Hid (w.grownBy w2 none):=(aG (aA GV1.out) _).trans g2
   have XB:At w2 V1.heap.size [.int .i64 0,.int .i64 0,.int .i64 0,.int .i64 0,.int .i64 0]:=by
    have:=(At.new V1.drew [.int .i64 0,.int .i64 0,.int .i64 0,.int .i64 0,.int .i64 0] 44).grown g2
    simpa using this
   have zz:=(aA GV1.out).size
   clear hHeld
   have hHeld:=hS
   refine ⟨_,rfl,hHeld,?_⟩
   simp only[aF]
   refine aL 7 ?_
   simp only[aF]
   refine aL 8 ?_
   simp only[aF]
   refine aL 9 ?_
   simp only[aF]
   refine eP 11 (by kernel_rfl) (by rfl) (by rfl) ?_
   intro K hK
   have xf:=XB.f
   have xc0:=XB.c 0 _ rfl
   have xc1:=XB.c 1 _ rfl
   have xc2:=XB.c 2 _ rfl
   have xc3:=XB.c 3 _ rfl
   have xc4:=XB.c 4 _ rfl
   have PXL:=XB.all [.int .i64 v0,.int .i64 v1,.int .i64 v2,.int .i64 v3,.int .i64 v4] rfl
   have POL:=cM V1.heap.size [.int .i64 v0,.int .i64 v1,.int .i64 v2,.int .i64 v3,.int .i64 v4] w2 0
   simp only[lH,Nat.reduceAdd] at PXL POL
   go_simp
   have hS2:At ((((((w2.setCell ⟨V1.heap.size,0,none⟩ (.int .i64 v0)).setCell ⟨V1.heap.size,1,none⟩ (.int .i64 v1)).setCell ⟨V1.heap.size,2,none⟩ (.int .i64 v2)).setCell ⟨V1.heap.size,3,none⟩ (.int .i64 v3)).setCell ⟨V1.heap.size,4,none⟩ (.int .i64 v4))) bw [.pointer (some ⟨bp,0,none⟩),.pointer (some ⟨bq,0,none⟩),.pointer (some ⟨bk,0,none⟩)]/\At ((((((w2.setCell ⟨V1.heap.size,0,none⟩ (.int .i64 v0)).setCell ⟨V1.heap.size,1,none⟩ (.int .i64 v1)).setCell ⟨V1.heap.size,2,none⟩ (.int .i64 v2)).setCell ⟨V1.heap.size,3,none⟩ (.int .i64 v3)).setCell ⟨V1.heap.size,4,none⟩ (.int .i64 v4))) w.heap.size [.int .i64 16,.int .i64 sh,.int .i64 k,.int .i64 m,.int .i64 x,.int .i64 y,.float .f32 pl,.float .f32 sp,.string t]/\At ((((((w2.setCell ⟨V1.heap.size,0,none⟩ (.int .i64 v0)).setCell ⟨V1.heap.size,1,none⟩ (.int .i64 v1)).setCell ⟨V1.heap.size,2,none⟩ (.int .i64 v2)).setCell ⟨V1.heap.size,3,none⟩ (.int .i64 v3)).setCell ⟨V1.heap.size,4,none⟩ (.int .i64 v4))) X1 [.int .i64 v0,.int .i64 v1,.int .i64 v2,.int .i64 v3,.int .i64 v4]:=⟨hHeld.1.only POL (fun e=>by simp at zz;omega),hHeld.2.1.only POL (fun e=>by simp at zz;omega),hHeld.2.2.only POL (fun e=>by simp at zz;omega)⟩
   refine hK _ _ hS2 ?_
   clear hK K
   clear hHeld
   have hHeld:=hS2
   refine aL 12 ?_
   simp only[aF]
   refine wpAnyH_done (by kernel_rfl) ?_ _
   have XA2:Hid (At ((((((w2.setCell ⟨V1.heap.size,0,none⟩ (.int .i64 v0)).setCell ⟨V1.heap.size,1,none⟩ (.int .i64 v1)).setCell ⟨V1.heap.size,2,none⟩ (.int .i64 v2)).setCell ⟨V1.heap.size,3,none⟩ (.int .i64 v3)).setCell ⟨V1.heap.size,4,none⟩ (.int .i64 v4))) V1.heap.size [.int .i64 v0,.int .i64 v1,.int .i64 v2,.int .i64 v3,.int .i64 v4]):=Hid.mk' PXL
   have GV2:Hid (w.grownBy ((((((w2.setCell ⟨V1.heap.size,0,none⟩ (.int .i64 v0)).setCell ⟨V1.heap.size,1,none⟩ (.int .i64 v1)).setCell ⟨V1.heap.size,2,none⟩ (.int .i64 v2)).setCell ⟨V1.heap.size,3,none⟩ (.int .i64 v3)).setCell ⟨V1.heap.size,4,none⟩ (.int .i64 v4))) none):=Hid.mk' (eI GG.out POL (fun k e=>by simp at zz;omega))
   have HA2:=Hid.mk' hHeld
   have xl2:w.heap.size<V1.heap.size:=by simp at zz;omega
   have xv2:=XA2.out.lt
   clear hHeld hS GG g2 hS2 PXL POL XB xf xc0 xc1 xc2 xc3 xc4 zz
   generalize ((((((w2.setCell ⟨V1.heap.size,0,none⟩ (.int .i64 v0)).setCell ⟨V1.heap.size,1,none⟩ (.int .i64 v1)).setCell ⟨V1.heap.size,2,none⟩ (.int .i64 v2)).setCell ⟨V1.heap.size,3,none⟩ (.int .i64 v3)).setCell ⟨V1.heap.size,4,none⟩ (.int .i64 v4)))=V2 at *
   generalize V1.heap.size=X2 at *
   have c0:=HA2.out.2.2.c 0 _ rfl
   have c1:=HA2.out.2.2.c 1 _ rfl
   have c2:=HA2.out.2.2.c 2 _ rfl
   have c3:=HA2.out.2.2.c 3 _ rfl
   have c4:=HA2.out.2.2.c 4 _ rfl
   have d0:=XA2.out.c 0 _ rfl
   have d1:=XA2.out.c 1 _ rfl
   have d2:=XA2.out.c 2 _ rfl
   have d3:=XA2.out.c 3 _ rfl
   have d4:=XA2.out.c 4 _ rfl
   go_wp2
   go_ret
   exact ⟨rfl,(LMH.out.li HG.out GV2.out).mono (by omega)⟩
theorem aIz {w w':World}{l:List UInt8}{e:Ending}(h:dH w l e w'):w.grownBy w' none/\∃ai ni ci ao nn co z,e=.returned (.tuple #[.agg #[.int .i64 (cH l).kind,.int .i64 (cH l).seq,.int .i64 (cH l).it.sh,.int .i64 (cH l).it.nu,.float .f32 (cH l).it.pl,.float .f32 (cH l).it.sp,.int .i64 (cH l).mks.g,.int .i64 (cH l).mks.m,.int .i64 (cH l).mks.s,.int .i64 (cH l).mks.a,.int .i64 (cH l).mks.n,.slice ai ni ci,.slice ao nn co],.int .i64 z])/\(z≠0->(cH l).kind=0):=by
 obtain ⟨g,hx⟩:=h
 refine ⟨g,?_⟩
 unfold cH
 rcases hx with ⟨h0,rfl⟩ | ⟨h1,vi,vo,rfl,oi,oo,ap⟩
 ·rw[h0]
  exact ⟨none,0,0,none,0,0,_,rfl,fun _=>rfl⟩
 ·rw[h1]
  obtain ⟨ai,ci,rfl⟩:=aH oi
  obtain ⟨ao,co,rfl⟩:=aH oo
  exact ⟨ai,_,ci,ao,_,co,_,rfl,fun e=>absurd rfl e⟩
theorem aGQ (n:Int)(w:World)(h0:0<=n)(h1:n<=65535):
  Calls prog 104 #[.agg #[.int .i64 8,.int .i64 n,.int .i64 0,.int .i64 0,.float .f32 0,.float .f32 0,.int .i64 0,.int .i64 0,.int .i64 0,.int .i64 0,.int .i64 0,.slice none 0 0,.slice none 0 0]] w fun z w'=>z=.returned (.tuple #[.string (S (jJ n)),.int .i64 0])/\w.grownBy w' none:=by
 have hm:aP (gG n)=true:=by
  show (eC n&&jM bV&&eU (gG n))=true
  have:eC n=true:=by simp[eC];omega
  rw[this];rfl
 exact gS (gG n) (.slice none 0 0) (.slice none 0 0) w (aCo w).1 (aCo w).2 ⟨⟨by show (0:Nat)<_;decide,by show (0:Nat)<_;decide⟩,by simp[gG],by simp[gG]⟩ (by simp[gG]) (by simp[gG]) hm
def Pr.heard (p:Pr)(i:Int)(l:List UInt8):Int×Pr:=if (p.sh i).up=false then (0,p) else (((p.sh i).hear l).1.1,(p.setSh i ((p.sh i).hear l).2).reply i ((p.sh i).hear l).1.2)
theorem tH {y:Pr}{i:Int}(hi:aX i){n:Nat}(hn:n<(y.fl i).length):y.deliver i n=(y.drop i n).2.heard i ((y.fl i).getD n []):=by
 have hk:oI (y.fl i) n:=⟨by omega,by omega⟩
 have hu:¬kN y.f0 y.f1 i n≠0:=by
  intro e
  exact e (by unfold kN eK;rw[if_pos hi,if_pos (show oI (aC y.f0 y.f1 i) n from hk)])
 have ea:lI (y.fl i) n=(y.fl i).getD n []:=by unfold lI;rw[if_pos hk];simp
 have es:(y.drop i n).2.sh i=y.sh i:=rfl
 unfold Pr.deliver Pr.heard
 rw[if_neg hu,ea,es]
theorem kM (p:Pr)(i:Int):p.reply i []=p:=if_pos rfl
theorem zN {p:Pr}{i:Int}(hi:aX i){l:List UInt8}(h:(p.sh i).up=true->(p.sh i).hear l=((0,[]),p.sh i)):p.heard i l=(0,p):=by
 unfold Pr.heard
 by_cases hu:(p.sh i).up=false
 ·rw[if_pos hu]
 ·rw[if_neg hu,h (by simpa using hu)]
  simp only
  rw[kL hi,kM]
theorem aKj {s:Sh}{q:Int}{i:It}(hz:(s.jrn (bE q i)).1=0):(s.jrn (bE q i)).2.ms.n=q:=by
 unfold Sh.jrn at hz ⊢
 split at hz
 ·cases hz
 rename_i c1
 split at hz
 ·cases hz
 rename_i c2
 split at hz
 ·cases hz
 rename_i c3
 rw[if_neg c1,if_neg c2,if_neg c3]
 rfl
theorem aCp {w0 w3 W w7:World}{bq q0 q1:Nat}{cI cO cJ:Int}{r0 r1:Rs}{u0 u1:Value}{p:Pr}{D:Nat->Prop}{i:Int}{t:List UInt8}(O3:Only w0 w3 D)(pg:PG cI cO cJ p.s0 p.s1 r0 r1)(hD:∀j,tG bq q0 q1 u0 u1 j->D j∨w0.heap.size<=j)(o:Only w3 W (fun j=>D j∨w0.heap.size<=j))(ht:t≠[])(n:DXn W w7 bq q0 q1 cI cO cJ r0 r1 u0 u1 (bP p.f0 p.f1 (dU (aC p.f0 p.f1 (1 -i)) t) (1 -i)).1 (bP p.f0 p.f1 (dU (aC p.f0 p.f1 (1 -i)) t) (1 -i)).2):DSn w0 w7 bq D (p.reply i t):=by
 unfold Pr.reply
 rw[if_neg ht]
 exact DSn.trans O3 (DSn.trans o (DX.flown (fun j hj=>.inl (hD j hj)) pg n))
theorem aEf {s:Sh}{i:It}{no:Nat}{cI:Int}(hn:(s.no:Int)=no)(hc:s.cI=cI):s.mayArr i=true↔(cN i.pl=no/\cQ s.th i.sh i.nu=false/\¬cI<=(s.ds.it.length:Int)/\¬(i.sh=no/\s.ms.m<i.nu)):=by
 have len:s.ds.it.length=s.th.length:=(bH s.th).length_eq
 unfold Sh.mayArr
 rw[len,hn,hc]
 simp only[Bool.and_eq_true,decide_eq_true_eq,Bool.not_eq_true',Bool.and_eq_false_imp,decide_eq_false_iff_not]
 constructor
 ·rintro ⟨⟨⟨a,b⟩,c⟩,d⟩
  exact ⟨a,c,d,fun e=>b e.1 e.2⟩
 ·rintro ⟨a,c,d,b⟩
  exact ⟨⟨⟨a,fun e e'=>b ⟨e,e'⟩⟩,c⟩,d⟩
theorem aCq {cI cO cJ:Int}{r0 r1:Rs}{y:Pr}(pg:PG cI cO cJ y.s0 y.s1 r0 r1){i:Int}(hi:aX i)(hu:(y.sh i).up=true):cF r0.up r1.up i=0:=by
 rw[pg.up]
 unfold cF
 rw[if_pos hi,if_pos (by rcases hi with rfl | rfl<;>exact hu)]
theorem wN {w:World}{bq q0 q1:Nat}{cI cO cJ:Int}{r0 r1:Rs}{v0 v1:Value}{y:Pr}{D:Nat->Prop}(h:DX w bq q0 q1 cI cO cJ r0 r1 v0 v1 y.f0 y.f1)(pg:PG cI cO cJ y.s0 y.s1 r0 r1)(hD:∀j,tG bq q0 q1 v0 v1 j->D j)(no:Nat)(hno:no<2)(n:Nat)(hn:n<(y.fl no).length):
  Calls prog 56 #[.pointer (some ⟨bq,0,none⟩),.int .i64 no,.int .i64 n] w fun e w'=>e=.returned (.int .i64 (y.deliver no n).1)/\DSn w w' bq D (y.deliver no n).2:=by
 have hi:aX (no:Int):=by unfold aX;omega
 have U:=Hid.mk' (jK h no n)
 have hu:kN y.f0 y.f1 no n=0:=by
  unfold kN eK
  rw[if_pos hi,if_pos (show oI (aC y.f0 y.f1 no) n from ⟨by omega,by have:n<(aC y.f0 y.f1 no).length:=hn;omega⟩)]
 rw[hu] at U
 obtain ⟨hc,ho,_,_,hx⟩:=h.at hi
 obtain ⟨g,c,hv,hcell,_⟩:=ho.cell (k:=n) hn
 have ck:=h.ry.at_.c _ _ hc
 rw[hv,Int.toNat_natCast] at ck
 rw[tH hi hn]
 have hll:((y.fl no).getD n []).length<=100:=by
  rw[List.getD_eq_getElem?_getD,List.getElem?_eq_getElem hn]
  exact hx _ (List.getElem_mem hn)
 have DR:Hid (∀W,w.grownBy W none->Calls prog 57 #[.pointer (some ⟨bq,0,none⟩),.int .i64 no,.int .i64 n] W fun e w'=>∃u0 u1,e=.returned (.int .i64 0)/\DX w' bq q0 q1 cI cO cJ r0 r1 u0 u1 (y.drop no n).2.f0 (y.drop no n).2.f1/\Only W w' (tG bq q0 q1 v0 v1)/\∀j,tG bq q0 q1 u0 u1 j->tG bq q0 q1 v0 v1 j∨W.heap.size<=j):=Hid.mk' fun W gW=>by
  refine (uL (h.grown gW) no n).mono ?_
  rintro e w' ⟨rfl,u0,u1,a,b,c⟩
  exact ⟨u0,u1,by rw[hu],a,b,c⟩
 have hcell':w.cell? ⟨g,n,none⟩=some (.string (S ((y.fl no).getD n []))):=hcell
 have hm:n<(aC y.f0 y.f1 no).length:=hn
 generalize (y.fl no).getD n []=l at *
 generalize (aC y.f0 y.f1 no).length=m at *
 have pg':PG cI cO cJ (y.drop no n).2.s0 (y.drop no n).2.s1 r0 r1:=pg
 generalize (y.drop no n).2=y1 at *
 have H:=Hid.mk' h
 have HI:=Hid.mk' hi
 have PGH:=Hid.mk' pg'
 have HD:=Hid.mk' hD
 have lt0:Hid (∀j,tG bq q0 q1 v0 v1 j->j<w.heap.size):=Hid.mk' fun j hj=>h.lt hj
 have DC:=Hid.mk' fun W=>nD l W (by omega)
 have n0:(0:Int)<=(n:Int):=by omega
 have n1:(n:Int)<(m:Int):=by omega
 have i0:(0:Int)<=(no:Int):=by omega
 have i1:(no:Int)<2:=by omega
 have hsf:=aK
 clear h pg pg' hD hc ho hx hv hn hm hu hcell hi
 go_enter func56,ntmps56
 go_wp2_with fail
 refine Calls.mono U.out ?_
 rintro e w0 ⟨rfl,rfl⟩
 go_wp2_with fail
 refine Calls.mono (DC.out _) ?_
 intro e w1 dp
 obtain ⟨g1,ai,ni,ci,ao,nn,co,z,rfl,hz⟩:=aIz dp
 have G1:=Hid.mk' g1
 have HZ:=Hid.mk' hz
 clear dp g1 hz
 obtain ⟨P,hP⟩:∃P,cH l=P:=⟨_,rfl⟩
 have HP:=Hid.mk' hP
 rw[hP] at HZ ⊢
 clear hP
 have GB:=Hid.mk' (G1.out.trans (World.grownBy_alloc w1 (.cells #[.int .i64 P.kind,.int .i64 P.seq,.int .i64 P.it.sh,.int .i64 P.it.nu,.float .f32 P.it.pl,.float .f32 P.it.sp,.int .i64 P.mks.g,.int .i64 P.mks.m,.int .i64 P.mks.s,.int .i64 P.mks.a,.int .i64 P.mks.n,.slice ai ni ci,.slice ao nn co] 139) none))
 have AB:=Hid.mk' (At.new w1 [.int .i64 P.kind,.int .i64 P.seq,.int .i64 P.it.sh,.int .i64 P.it.nu,.float .f32 P.it.pl,.float .f32 P.it.sp,.int .i64 P.mks.g,.int .i64 P.mks.m,.int .i64 P.mks.s,.int .i64 P.mks.a,.int .i64 P.mks.n,.slice ai ni ci,.slice ao nn co] 139)
 have zb:=G1.out.size
 go_wp2_with fail
 generalize (w1.alloc (.cells #[.int .i64 P.kind,.int .i64 P.seq,.int .i64 P.it.sh,.int .i64 P.it.nu,.float .f32 P.it.pl,.float .f32 P.it.sp,.int .i64 P.mks.g,.int .i64 P.mks.m,.int .i64 P.mks.s,.int .i64 P.mks.a,.int .i64 P.mks.n,.slice ai ni ci,.slice ao nn co] 139))=wB at *
 generalize w1.heap.size=br at *
 clear G1
 refine Calls.mono (DR.out _ GB.out) ?_
 rintro e w3 ⟨u0,u1,rfl,dx3,o3,b3⟩
 have nb3:¬tG bq q0 q1 v0 v1 br:=fun e=>by have:=lt0.out _ e;omega
 have AR:=Hid.mk' (AB.out.only o3 nb3)
 have O3:Hid (Only w0 w3 D):=((Only.grown GB.out).mono (by simp)).trans (o3.mono (fun j _ e=>.inl (HD.out j e)))
 have B3:Hid (∀j,tG bq q0 q1 u0 u1 j->D j∨w0.heap.size<=j):=Hid.mk' fun j hj=>by
  rcases b3 j hj with e | e
  ·exact .inl (HD.out j e)
  ·exact .inr (Nat.le_trans GB.out.size e)
 have X3:=Hid.mk' dx3
 have D3:Hid (DS w3 bq (fun j=>D j∨w0.heap.size<=j) y1):=⟨cI,cO,cJ,r0,r1,q0,q1,u0,u1,dx3,PGH.out,B3.out⟩
 have NOTHING:Hid (∀W,w3.grownBy W none->y1.heard no l=(0,y1)->Ending.returned (.int .i64 0)=Ending.returned (.int .i64 (y1.heard no l).1)/\DSn w0 W bq D (y1.heard no l).2):=Hid.mk' fun W gW e=>by
  rw[e]
  exact ⟨rfl,DSn.trans O3.out (D3.out.grew gW)⟩
 have e0:=AR.out.c 0 _ rfl
 have p0:w3.cell? ⟨bq,3+no,none⟩=some (.pointer (some ⟨aC q0 q1 no,0,none⟩)):=by
  have:=RY.ptr dx3.ry.at_ HI.out
  rwa [Int.toNat_natCast] at this
 have u0c:=(dx3.ry.at HI.out).1.c 0 _ rfl
 have hup:(aC r0 r1 no).up=(y1.sh no).up:=(PGH.out.at HI.out).1.up
 rw[hup] at u0c
 clear dx3 o3 b3 nb3 AB DR DC U hcell' ck lt0 GB hup
 by_cases hz:z=0
 ·subst hz
  cases hu:(y1.sh no).up
  ·rw[hu] at u0c
   have hN:y1.heard no l=(0,y1):=if_pos hu
   have HN:=Hid.mk' hN
   clear hN hu
   go_wp2
   go_ret
   exact NOTHING.out _ (aD _ _) HN.out
  ·rw[hu] at u0c
   by_cases h7:P.kind=7
   ·have huu:=aCq PGH.out HI.out hu
    have ST:=Hid.mk' (dN bq q0 q1 cI cO cJ y1.s0 y1.s1 r0 r1 no w3 X3.out.ry PGH.out huu)
    have HU:=Hid.mk' hu
    have GD:=Hid.mk' (PGH.out.at HI.out)
    have QB:=Hid.mk' (aIT (show (cH l).kind=7 by rw[HP.out];exact h7))
    have WF:=Hid.mk' (aGg l)
    rw[HP.out] at QB WF
    have HE:Hid (y1.heard no l=(((y1.sh no).hearCross P.seq P.it).1.1,(y1.setSh no ((y1.sh no).hearCross P.seq P.it).2).reply no ((y1.sh no).hearCross P.seq P.it).1.2)):=by
     show _=_
     unfold Pr.heard Sh.hear
     rw[if_neg (by rw[hu];simp),HP.out,if_pos h7]
    have k7:(P.kind !=7)=false:=by simpa using h7
    have k8':(P.kind==8)=false:=by simp;omega
    have NB:Hid (0<=(y1.sh no).ms.n/\(y1.sh no).ms.n<=65535):=by
     obtain ⟨_,_,_,_,_,has,_⟩:=GD.out.1.has hu
     exact ⟨has.mo.n0,has.mo.n1⟩
    have nb:=NB.out
    have w1':IntKind.i64.wrap ((y1.sh no).ms.n+1)=(y1.sh no).ms.n+1:=by simp[IntKind.wrap,IntKind.bits,IntKind.signed];omega
    have w2':wrap64 ((y1.sh no).ms.n+1)=(y1.sh no).ms.n+1:=by simp[wrap64];omega
    have hw:IntKind.i64.wrap (1 -(no:Int))=1 -no:=by simp[IntKind.wrap,IntKind.bits,IntKind.signed];omega
    have q0':=QB.out.2.1
    have q1':=QB.out.2.2.1
    clear hu h7 huu
    go_wp2_with fail
    refine Calls.mono ST.out ?_
    rintro e w4 ⟨bs,vi,vo,rfl,sg⟩
    have SG:=Hid.mk' sg
    have ST4:Hid (At w4 bs (jN (aC y1.s0 y1.s1 no).no vi vo (y1.sh no).ms)):=sg.at_
    have c7:=ST4.out.c 7 _ rfl
    have AR4:=Hid.mk' (AR.out.grown sg.g)
    have a0:=AR4.out.c 0 _ rfl
    have a1:=AR4.out.c 1 _ rfl
    clear sg e0 p0 u0c ST
    by_cases hc:(y1.sh no).ms.n+1<P.seq
    ·have HN:Hid (y1.heard no l=(0,y1)):=by
      show _=_
      rw[HE.out]
      unfold Sh.hearCross
      rw[if_neg (by omega),if_pos (.inl hc)]
      simp only
      rw[kL HI.out,kM]
     generalize (y1.sh no).ms.n=mn at *
     go_wp2_with fail
     go_quiet (fail)
     go_wp2
     go_ret
     exact NOTHING.out _ (aM SG.out.g nq) HN.out
    by_cases hq:P.seq<=(y1.sh no).ms.n
    ·-- seen before
     have H2:Hid (y1.heard no l=(0,y1.reply no (jJ (y1.sh no).ms.n))):=by
      show _=_
      rw[HE.out]
      unfold Sh.hearCross
      rw[if_pos hq]
      simp only
      rw[kL HI.out]
     have hne:(P.seq==(y1.sh no).ms.n+1)=false:=by simp;omega
     have EN:=Hid.mk' fun W=>aGQ (y1.sh no).ms.n W nb.1 nb.2
     have PT:Hid (∀W,w3.grownBy W none->Calls prog 105 #[.pointer (some ⟨bq,0,none⟩),.int .i64 (1 -(no:Int)),.string (S (jJ (y1.sh no).ms.n))] W fun e w'=>e=.returned (.tuple #[])/\DSn w0 w' bq D (y1.heard no l).2):=Hid.mk' fun W gW=>by
      refine (mF (X3.out.grown gW) (gR HI.out) (jJ (y1.sh no).ms.n) (by rw[oZ];omega)).mono ?_
      rintro e w' ⟨rfl,nn⟩
      rw[H2.out]
      exact ⟨rfl,aCp O3.out PGH.out B3.out ((Only.grown gW).mono (by simp)) (aCg _) nn⟩
     generalize jJ (y1.sh no).ms.n=T at *
     generalize (y1.sh no).ms.n=mn at *
     go_wp2_with fail
     go_quiet (fail)
     go_wp2_with fail
     refine Calls.mono (EN.out _) ?_
     rintro e w5 ⟨rfl,g5⟩
     have G5:=Hid.mk' ((aM SG.out.g nq).trans g5)
     clear g5
     go_wp2_with fail
     refine Calls.mono (PT.out _ G5.out) ?_
     rintro e w6 ⟨rfl,d6⟩
     go_wp2
     go_ret
     exact ⟨by rw[H2.out];rfl,d6⟩
    ·have hs:P.seq=(y1.sh no).ms.n+1:=by omega
     have hse:(P.seq==(y1.sh no).ms.n+1)=true:=by simpa using hs
     have SD:=Hid.mk' fun W=>lT P.it.pl W
     obtain ⟨av,cv,hvi⟩:=aH SG.out.it
     have MA:=Hid.mk' (aEf (s:=y1.sh no) (i:=P.it) GD.out.2.1 GD.out.2.2.1)
     have HH:Hid ((y1.sh no).mayArr P.it=false->y1.heard no l=(0,y1)):=Hid.mk' fun hm=>by
      rw[HE.out]
      unfold Sh.hearCross
      rw[if_neg hq,if_pos (.inr hm)]
      simp only
      rw[kL HI.out,kM]
     have DF:=Hid.mk' (aCm (s:=y1.sh no) P.it.sh P.it.nu)
     have il:(y1.sh no).ds.it.length<=16:=by
      obtain ⟨_,_,_,_,_,has,_⟩:=GD.out.1.has HU.out
      have h1:=has.tl
      have h2:=GD.out.1.i1
      have h3:(((y1.sh no).ds.it.length:Nat):Int)<=(aC y1.s0 y1.s1 no).cI:=h1
      omega
     have no_of:Hid (∀X:Prop,(X->¬((cN P.it.pl=no/\cQ (y1.sh no).th P.it.sh P.it.nu=false/\¬cI<=((y1.sh no).ds.it.length:Int)/\¬(P.it.sh=no/\(y1.sh no).ms.m<P.it.nu))))->X->y1.heard no l=(0,y1)):=Hid.mk' fun X h x=>HH.out (by
      cases hm:(y1.sh no).mayArr P.it
      ·rfl
      ·exact absurd (MA.out.1 hm) (h x))
     have QH:Hid (¬P.seq<=(y1.sh no).ms.n/\¬(y1.sh no).ms.n+1<P.seq/\P.seq=(y1.sh no).ms.n+1):=⟨hq,hc,hs⟩
     clear hs nb
     go_wp2_with fail
     go_quiet (fail)
     have GQ:=Hid.mk' (aM SG.out.g nq)
     have ARq:=Hid.mk' (AR4.out.drewN nq)
     have STq:=Hid.mk' (ST4.out.drewN nq)
     have IQ:Hid (OwnI w3.heap.size (w4.drewN nq) vi (y1.sh no).ds.it):=aO SG.out.it (aM (aD _ _) nq)
     have CQ:Hid ((w4.drewN nq).cell? ⟨bq,0,none⟩=some (.int .i64 cI)):=(X3.out.grown GQ.out).ry.at_.c 0 _ rfl
     clear a0 a1 c7
     generalize w4.drewN nq=wq at *
     have b1:=ARq.out.c 1 _ rfl
     have b7:=STq.out.c 7 _ rfl
     have FD:Hid (∀W,wq.grownBy W none->Calls prog 100 #[.pointer (some ⟨bs,0,none⟩),.agg #[.int .i64 P.it.sh,.int .i64 P.it.nu]] W fun e w'=>e=.returned (.int .i64 (iF (y1.sh no).ds.it P.it.sh P.it.nu))/\W.grownBy w' none):=Hid.mk' fun W gW=>oQ _ _ _ bs _ W ((STq.out.grown gW).c 1 _ rfl) (Lies.of_own (aO IQ.out gW)) (by omega)
     have hvi':vi=.slice av (y1.sh no).ds.it.length cv:=hvi
     clear hvi AR4 ST4 SG
     subst hvi'
     clear IQ
     generalize iF (y1.sh no).ds.it P.it.sh P.it.nu=fx at *
     obtain ⟨il',hil⟩:∃n,(y1.sh no).ds.it.length=n:=⟨_,rfl⟩
     rw[hil] at STq il
     go_wp2_with fail
     clear b1 b7
     by_cases t1:cN P.it.pl=no
     ·rw[t1] at SD
      have t1b:((no:Int) !=(no:Int))=false:=by simp
      by_cases t2:cQ (y1.sh no).th P.it.sh P.it.nu=true
      ·have HN:=Hid.mk' (no_of.out _ (fun x e=>by rw[e.2.1] at x;cases x) t2)
       have fx0:0<=fx:=DF.out.1 t2
       clear t2 DF
       refine wp_region_held_drew (S:=fun w'=>At w' br [.int .i64 P.kind,.int .i64 P.seq,.int .i64 P.it.sh,.int .i64 P.it.nu,.float .f32 P.it.pl,.float .f32 P.it.sp,.int .i64 P.mks.g,.int .i64 P.mks.m,.int .i64 P.mks.s,.int .i64 P.mks.a,.int .i64 P.mks.n,.slice ai ni ci,.slice ao nn co]/\At w' bs (jN (aC y1.s0 y1.s1 no).no (.slice av il' cv) vo (y1.sh no).ms)/\w'.cell? ⟨bq,0,none⟩=some (.int .i64 cI)) (by kernel_rfl) (⟨ARq.out.drew,STq.out.drew,CQ.out⟩) (fun hHeld=>?_)
       refine aL 0 ?_;simp only[aF]
       refine aL 1 ?_;simp only[aF]
       refine aW 2 rfl (by intro w hSw;have S0:=hSw.1.c 4 _ rfl;go_simp;try with_reducible rfl) ?_;simp only[aF]
       refine aL 4 ?_;simp only[aF]
       refine aU 3 (f:=96) (args:=#[.float .f32 P.it.pl]) (by kernel_rfl) (by rfl) (by rfl) (by go_simp) ?_
       refine Calls.mono (SD.out _) ?_
       rintro e w5 ⟨rfl,rfl⟩
       refine ⟨_,rfl,hHeld,?_⟩;simp only[aF]
       refine aL 5 ?_;simp only[aF]
       refine aL 6 ?_;simp only[aF]
       refine aL 7 ?_;simp only[aF]
       refine aL 8 ?_;simp only[aF]
       refine aL 9 ?_;simp only[aF]
       refine aW 10 rfl (by intro w hSw;have S0:=hSw.1.c 2 _ rfl;have S1:=hSw.1.c 3 _ rfl;go_simp;try with_reducible rfl) ?_;simp only[aF]
       refine aU 11 (f:=100) (args:=#[.pointer (some ⟨bs,0,none⟩),.agg #[.int .i64 P.it.sh,.int .i64 P.it.nu]]) (by kernel_rfl) (by rfl) (by rfl) (by go_simp) ?_
       refine Calls.mono (FD.out _ (aA (aD _ _))) ?_
       rintro e w6 ⟨rfl,g6⟩
       have G6:=Hid.mk' g6
       have h6:=And.intro (hHeld.1.grown g6) (And.intro (hHeld.2.1.grown g6) (g6.cell hHeld.2.2 (by simp)))
       clear hHeld g6
       have hHeld:=h6
       clear h6
       refine ⟨_,rfl,hHeld,?_⟩;simp only[aF]
       refine aL 12 ?_;simp only[aF]
       refine aL 13 ?_;simp only[aF]
       refine aL 14 ?_;simp only[aF]
       refine cV 15 ?_;simp only[aF]
       refine cV 16 ?_;simp only[aF]
       refine cV 17 ?_;simp only[aF]
       refine cV 18 ?_;simp only[aF]
       refine cV 19 ?_;simp only[aF]
       refine cV 20 ?_;simp only[aF]
       refine cV 21 ?_;simp only[aF]
       refine cV 22 ?_;simp only[aF]
       refine cV 23 ?_;simp only[aF]
       refine cV 24 ?_;simp only[aF]
       refine cV 25 ?_;simp only[aF]
       refine aL 26 ?_;simp only[aF]
       refine aL 27 ?_;simp only[aF]
       refine cV 28 ?_;simp only[aF]
       refine cV 29 ?_;simp only[aF]
       refine cV 30 ?_;simp only[aF]
       refine cV 31 ?_;simp only[aF]
       refine cV 32 ?_;simp only[aF]
       refine cV 33 ?_;simp only[aF]
       refine cV 34 ?_;simp only[aF]
       refine cV 35 ?_;simp only[aF]
       refine cV 36 ?_;simp only[aF]
       refine cV 37 ?_;simp only[aF]
       refine cV 38 ?_;simp only[aF]
       refine cV 39 ?_;simp only[aF]
       refine cV 40 ?_;simp only[aF]
       refine cV 41 ?_;simp only[aF]
       refine cV 42 ?_;simp only[aF]
       refine cV 43 ?_;simp only[aF]
       refine cV 44 ?_;simp only[aF]
       refine cV 45 ?_;simp only[aF]
       refine aL 46 ?_;simp only[aF]
       refine wpAnyH_done (by kernel_rfl) ?_ _
       clear hHeld
       go_wp2
       go_ret
       exact NOTHING.out _ ((aA GQ.out).trans G6.out) HN.out
      ·have t2f:cQ (y1.sh no).th P.it.sh P.it.nu=false:=by simpa using t2
       have fx0:¬0<=fx:=by have:=DF.out.2 t2f;omega
       by_cases t3:cI<=(il':Int)
       ·have HN:=Hid.mk' (no_of.out _ (fun x e=>by have:=e.2.2.1;omega) t3)
        clear t2 DF
        refine wp_region_held_drew (S:=fun w'=>At w' br [.int .i64 P.kind,.int .i64 P.seq,.int .i64 P.it.sh,.int .i64 P.it.nu,.float .f32 P.it.pl,.float .f32 P.it.sp,.int .i64 P.mks.g,.int .i64 P.mks.m,.int .i64 P.mks.s,.int .i64 P.mks.a,.int .i64 P.mks.n,.slice ai ni ci,.slice ao nn co]/\At w' bs (jN (aC y1.s0 y1.s1 no).no (.slice av il' cv) vo (y1.sh no).ms)/\w'.cell? ⟨bq,0,none⟩=some (.int .i64 cI)) (by kernel_rfl) (⟨ARq.out.drew,STq.out.drew,CQ.out⟩) (fun hHeld=>?_)
        refine aL 0 ?_;simp only[aF]
        refine aL 1 ?_;simp only[aF]
        refine aW 2 rfl (by intro w hSw;have S0:=hSw.1.c 4 _ rfl;go_simp;try with_reducible rfl) ?_;simp only[aF]
        refine aL 4 ?_;simp only[aF]
        refine aU 3 (f:=96) (args:=#[.float .f32 P.it.pl]) (by kernel_rfl) (by rfl) (by rfl) (by go_simp) ?_
        refine Calls.mono (SD.out _) ?_
        rintro e w5 ⟨rfl,rfl⟩
        refine ⟨_,rfl,hHeld,?_⟩;simp only[aF]
        refine aL 5 ?_;simp only[aF]
        refine aL 6 ?_;simp only[aF]
        refine aL 7 ?_;simp only[aF]
        refine aL 8 ?_;simp only[aF]
        refine aL 9 ?_;simp only[aF]
        refine aW 10 rfl (by intro w hSw;have S0:=hSw.1.c 2 _ rfl;have S1:=hSw.1.c 3 _ rfl;go_simp;try with_reducible rfl) ?_;simp only[aF]
        refine aU 11 (f:=100) (args:=#[.pointer (some ⟨bs,0,none⟩),.agg #[.int .i64 P.it.sh,.int .i64 P.it.nu]]) (by kernel_rfl) (by rfl) (by rfl) (by go_simp) ?_
        refine Calls.mono (FD.out _ (aA (aD _ _))) ?_
        rintro e w6 ⟨rfl,g6⟩
        have G6:=Hid.mk' g6
        have h6:=And.intro (hHeld.1.grown g6) (And.intro (hHeld.2.1.grown g6) (g6.cell hHeld.2.2 (by simp)))
        clear hHeld g6
        have hHeld:=h6
        clear h6
        refine ⟨_,rfl,hHeld,?_⟩;simp only[aF]
        refine aL 12 ?_;simp only[aF]
        refine aL 13 ?_;simp only[aF]
        refine aL 14 ?_;simp only[aF]
        refine aL 15 ?_;simp only[aF]
        refine aL 16 ?_;simp only[aF]
        refine aL 17 ?_;simp only[aF]
        refine aW 18 rfl (by intro w hSw;have S0:=hSw.2.1.c 1 _ rfl;go_simp;try with_reducible rfl) ?_;simp only[aF]
        refine aL 19 ?_;simp only[aF]
        refine aL 20 ?_;simp only[aF]
        refine aL 21 ?_;simp only[aF]
        refine aL 22 ?_;simp only[aF]
        refine aL 23 ?_;simp only[aF]
        refine aW 24 rfl (by intro w hSw;have S0:=hSw.2.2;go_simp;try with_reducible rfl) ?_;simp only[aF]
        refine aL 25 ?_;simp only[aF]
        refine aL 26 ?_;simp only[aF]
        refine aL 27 ?_;simp only[aF]
        refine cV 28 ?_;simp only[aF]
        refine cV 29 ?_;simp only[aF]
        refine cV 30 ?_;simp only[aF]
        refine cV 31 ?_;simp only[aF]
        refine cV 32 ?_;simp only[aF]
        refine cV 33 ?_;simp only[aF]
        refine cV 34 ?_;simp only[aF]
        refine cV 35 ?_;simp only[aF]
        refine cV 36 ?_;simp only[aF]
        refine cV 37 ?_;simp only[aF]
        refine cV 38 ?_;simp only[aF]
        refine cV 39 ?_;simp only[aF]
        refine cV 40 ?_;simp only[aF]
        refine cV 41 ?_;simp only[aF]
        refine cV 42 ?_;simp only[aF]
        refine cV 43 ?_;simp only[aF]
        refine cV 44 ?_;simp only[aF]
        refine cV 45 ?_;simp only[aF]
        refine aL 46 ?_;simp only[aF]
        refine wpAnyH_done (by kernel_rfl) ?_ _
        clear hHeld
        go_wp2
        go_ret
        exact NOTHING.out _ ((aA GQ.out).trans G6.out) HN.out
       ·by_cases t4:P.it.sh=no/\(y1.sh no).ms.m<P.it.nu
        ·have HN:=Hid.mk' (no_of.out _ (fun x e=>by have:=e.2.2.2;omega) t4)
         have t4a:(P.it.sh==(no:Int))=true:=by simpa using t4.1
         have t4b:=t4.2
         clear t2 DF t4
         refine wp_region_held_drew (S:=fun w'=>At w' br [.int .i64 P.kind,.int .i64 P.seq,.int .i64 P.it.sh,.int .i64 P.it.nu,.float .f32 P.it.pl,.float .f32 P.it.sp,.int .i64 P.mks.g,.int .i64 P.mks.m,.int .i64 P.mks.s,.int .i64 P.mks.a,.int .i64 P.mks.n,.slice ai ni ci,.slice ao nn co]/\At w' bs (jN (aC y1.s0 y1.s1 no).no (.slice av il' cv) vo (y1.sh no).ms)/\w'.cell? ⟨bq,0,none⟩=some (.int .i64 cI)) (by kernel_rfl) (⟨ARq.out.drew,STq.out.drew,CQ.out⟩) (fun hHeld=>?_)
         refine aL 0 ?_;simp only[aF]
         refine aL 1 ?_;simp only[aF]
         refine aW 2 rfl (by intro w hSw;have S0:=hSw.1.c 4 _ rfl;go_simp;try with_reducible rfl) ?_;simp only[aF]
         refine aL 4 ?_;simp only[aF]
         refine aU 3 (f:=96) (args:=#[.float .f32 P.it.pl]) (by kernel_rfl) (by rfl) (by rfl) (by go_simp) ?_
         refine Calls.mono (SD.out _) ?_
         rintro e w5 ⟨rfl,rfl⟩
         refine ⟨_,rfl,hHeld,?_⟩;simp only[aF]
         refine aL 5 ?_;simp only[aF]
         refine aL 6 ?_;simp only[aF]
         refine aL 7 ?_;simp only[aF]
         refine aL 8 ?_;simp only[aF]
         refine aL 9 ?_;simp only[aF]
         refine aW 10 rfl (by intro w hSw;have S0:=hSw.1.c 2 _ rfl;have S1:=hSw.1.c 3 _ rfl;go_simp;try with_reducible rfl) ?_;simp only[aF]
         refine aU 11 (f:=100) (args:=#[.pointer (some ⟨bs,0,none⟩),.agg #[.int .i64 P.it.sh,.int .i64 P.it.nu]]) (by kernel_rfl) (by rfl) (by rfl) (by go_simp) ?_
         refine Calls.mono (FD.out _ (aA (aD _ _))) ?_
         rintro e w6 ⟨rfl,g6⟩
         have G6:=Hid.mk' g6
         have h6:=And.intro (hHeld.1.grown g6) (And.intro (hHeld.2.1.grown g6) (g6.cell hHeld.2.2 (by simp)))
         clear hHeld g6
         have hHeld:=h6
         clear h6
         refine ⟨_,rfl,hHeld,?_⟩;simp only[aF]
         refine aL 12 ?_;simp only[aF]
         refine aL 13 ?_;simp only[aF]
         refine aL 14 ?_;simp only[aF]
         refine aL 15 ?_;simp only[aF]
         refine aL 16 ?_;simp only[aF]
         refine aL 17 ?_;simp only[aF]
         refine aW 18 rfl (by intro w hSw;have S0:=hSw.2.1.c 1 _ rfl;go_simp;try with_reducible rfl) ?_;simp only[aF]
         refine aL 19 ?_;simp only[aF]
         refine aL 20 ?_;simp only[aF]
         refine aL 21 ?_;simp only[aF]
         refine aL 22 ?_;simp only[aF]
         refine aL 23 ?_;simp only[aF]
         refine aW 24 rfl (by intro w hSw;have S0:=hSw.2.2;go_simp;try with_reducible rfl) ?_;simp only[aF]
         refine aL 25 ?_;simp only[aF]
         refine aL 26 ?_;simp only[aF]
         refine aL 27 ?_;simp only[aF]
         refine aL 28 ?_;simp only[aF]
         refine aL 29 ?_;simp only[aF]
         refine aL 30 ?_;simp only[aF]
         refine aW 31 rfl (by intro w hSw;have S0:=hSw.1.c 2 _ rfl;go_simp;try with_reducible rfl) ?_;simp only[aF]
         refine aL 32 ?_;simp only[aF]
         refine aL 33 ?_;simp only[aF]
         refine aL 34 ?_;simp only[aF]
         refine aL 35 ?_;simp only[aF]
         refine aL 36 ?_;simp only[aF]
         refine aL 37 ?_;simp only[aF]
         refine aW 38 rfl (by intro w hSw;have S0:=hSw.1.c 3 _ rfl;go_simp;try with_reducible rfl) ?_;simp only[aF]
         refine aL 39 ?_;simp only[aF]
         refine aL 40 ?_;simp only[aF]
         refine aL 41 ?_;simp only[aF]
         refine aL 42 ?_;simp only[aF]
         refine aW 43 rfl (by intro w hSw;have S0:=hSw.2.1.c 4 _ rfl;go_simp;try with_reducible rfl) ?_;simp only[aF]
         refine aL 44 ?_;simp only[aF]
         refine aL 45 ?_;simp only[aF]
         refine aL 46 ?_;simp only[aF]
         refine wpAnyH_done (by kernel_rfl) ?_ _
         clear hHeld
         go_wp2
         go_ret
         exact NOTHING.out _ ((aA GQ.out).trans G6.out) HN.out
        ·have may:(y1.sh no).mayArr P.it=true:=MA.out.2 ⟨t1,t2f,by omega,by omega⟩
         have hsq:=QH.out.2.2
         have AG:=Hid.mk' (aGo GD.out.1 HU.out (i:=P.it) (by have:P.seq=(aC y1.s0 y1.s1 no).ms.n+1:=hsq;omega) QB.out.2.2.2 WF.out (aDK may))
         have HX:Hid ((y1.sh no).hearCross P.seq P.it=if ((y1.sh no).jrn (bE P.seq P.it)).1=0 then ((0,jJ ((y1.sh no).jrn (bE P.seq P.it)).2.ms.n),((y1.sh no).jrn (bE P.seq P.it)).2) else ((((y1.sh no).jrn (bE P.seq P.it)).1,[]),((y1.sh no).jrn (bE P.seq P.it)).2)):=by
          show _=_
          unfold Sh.hearCross
          rw[if_neg (by have:=QH.out.1;omega),if_neg (fun e=>by rcases e with e | e;(have:=QH.out.2.1;omega);(rw[may] at e;cases e))]
          rfl
         have J0:Hid (((y1.sh no).jrn (bE P.seq P.it)).1=0->y1.heard no l=(0,(y1.setSh no ((y1.sh no).jrn (bE P.seq P.it)).2).reply no (jJ P.seq))):=Hid.mk' fun hj=>by
          rw[HE.out,HX.out,if_pos hj]
          simp only
          rw[aKj hj]
         have J1:Hid (¬((y1.sh no).jrn (bE P.seq P.it)).1=0->y1.heard no l=(((y1.sh no).jrn (bE P.seq P.it)).1,y1.setSh no ((y1.sh no).jrn (bE P.seq P.it)).2)):=Hid.mk' fun hj=>by
          rw[HE.out,HX.out,if_neg hj]
          simp only
          rw[kM]
         have AG':Hid (((aC r0 r1 no).jrn (aC y1.s0 y1.s1 no).cJ (bE P.seq P.it)).1=((y1.sh no).jrn (bE P.seq P.it)).1/\Good ((y1.sh no).jrn (bE P.seq P.it)).2 ((aC r0 r1 no).jrn (aC y1.s0 y1.s1 no).cJ (bE P.seq P.it)).2):=by
          have:=AG.out
          rw[show (aC y1.s0 y1.s1 no).ms.n+1=P.seq from hsq.symm] at this
          exact this
         have PG5:=Hid.mk' (PGH.out.set HI.out AG'.out.2 (kX _ _))
         have EF:Hid ((y1.setSh no ((y1.sh no).jrn (bE P.seq P.it)).2).f0=y1.f0/\(y1.setSh no ((y1.sh no).jrn (bE P.seq P.it)).2).f1=y1.f1):=by
          rcases HI.out with e | e<;>rw[e]<;>exact ⟨rfl,rfl⟩
         have pq:aC q0 q1 no=q0∨aC q0 q1 no=q1:=by
          rcases HI.out with e | e<;>rw[e]
          ·exact .inl rfl
          ·exact .inr rfl
         have PD:Hid (∀j,j=aC q0 q1 no->D j∨w0.heap.size<=j):=Hid.mk' fun j hj=>B3.out j (.inl (.inr (by rcases pq with e | e<;>rw[e] at hj;exact .inl hj;exact .inr hj)))
         have nbr:¬br=aC q0 q1 no:=fun e=>by have:=H.out.lt (j:=br) (.inl (.inr (by rcases pq with e' | e'<;>rw[e'] at e;exact .inl e;exact .inr e)));omega
         have JR:Hid (∀W,w3.grownBy W none->Calls prog 98 #[.pointer (some ⟨bq,0,none⟩),.int .i64 no,.agg #[.int .i64 4,.int .i64 P.seq,.int .i64 P.it.sh,.int .i64 P.it.nu,.float .f32 P.it.pl,.float .f32 P.it.sp,.int .i64 0,.int .i64 0,.int .i64 0,.int .i64 0,.int .i64 0,.slice none 0 0,.slice none 0 0]] W fun e w'=>e=.returned (.int .i64 ((y1.sh no).jrn (bE P.seq P.it)).1)/\(y1.heard no l=(((y1.sh no).jrn (bE P.seq P.it)).1,y1.setSh no ((y1.sh no).jrn (bE P.seq P.it)).2)->DSn w0 w' bq D (y1.setSh no ((y1.sh no).jrn (bE P.seq P.it)).2))/\DX w' bq q0 q1 cI cO cJ (nG r0 r1 ((aC r0 r1 no).jrn (aC y1.s0 y1.s1 no).cJ (bE P.seq P.it)).2 no).1 (nG r0 r1 ((aC r0 r1 no).jrn (aC y1.s0 y1.s1 no).cJ (bE P.seq P.it)).2 no).2 u0 u1 y1.f0 y1.f1/\Only W w' (fun j=>j=aC q0 q1 no)):=Hid.mk' fun W gW=>by
          obtain ⟨g,hn,e1,e2,e3⟩:=GD.out
          have hW:=X3.out.grown gW
          refine (fZ bq q0 q1 cI cO cJ _ _ no (aC r0 r1 no) (bE P.seq P.it) W hW.ry.at_ (hW.ry.at HI.out).1 HI.out g.rok g.kb (by rw[g.rct];exact g.ct) (by have:=g.j1;rw[<- e3];omega) (yZ QB.out.2.1 QB.out.2.2.1 QB.out.2.2.2 WF.out) ⟨rfl,rfl⟩ (hW.ry.at HI.out).2).mono ?_
          rintro e w2 ⟨rfl,a2,o2⟩
          have ej:(aC r0 r1 no).jrn cJ (bE P.seq P.it)=(aC r0 r1 no).jrn (aC y1.s0 y1.s1 no).cJ (bE P.seq P.it):=by rw[e3]
          rw[ej] at a2 ⊢
          exact ⟨by rw[AG'.out.1],fun _=>DSn.trans O3.out (DSn.grown gW (hW.ds B3.out PGH.out HI.out a2 o2 AG'.out.2 (kX _ _))),hW.turn HI.out a2 o2,o2⟩
         have EN:=Hid.mk' fun W=>aGQ P.seq W (by omega) q1'
         have PT:Hid (∀W,DX W bq q0 q1 cI cO cJ (nG r0 r1 ((aC r0 r1 no).jrn (aC y1.s0 y1.s1 no).cJ (bE P.seq P.it)).2 no).1 (nG r0 r1 ((aC r0 r1 no).jrn (aC y1.s0 y1.s1 no).cJ (bE P.seq P.it)).2 no).2 u0 u1 y1.f0 y1.f1->Only w3 W (fun j=>D j∨w0.heap.size<=j)->y1.heard no l=(0,(y1.setSh no ((y1.sh no).jrn (bE P.seq P.it)).2).reply no (jJ P.seq))->Calls prog 105 #[.pointer (some ⟨bq,0,none⟩),.int .i64 (1 -(no:Int)),.string (S (jJ P.seq))] W fun e w'=>e=.returned (.tuple #[])/\DSn w0 w' bq D ((y1.setSh no ((y1.sh no).jrn (bE P.seq P.it)).2).reply no (jJ P.seq))):=Hid.mk' fun W hW oW _=>by
          refine (mF hW (gR HI.out) (jJ P.seq) (by rw[oZ];omega)).mono ?_
          rintro e w' ⟨rfl,nn⟩
          exact ⟨rfl,aCp O3.out PG5.out B3.out oW (aCg _) (by rw[EF.out.1,EF.out.2];exact nn)⟩
         clear may AG HX AG' PG5 EF pq t2 DF no_of HH MA hsq
         generalize hT:jJ P.seq=T at *
         clear hT
         by_cases t5:P.it.sh=no
         ·have t5a:(P.it.sh==(no:Int))=true:=by simpa using t5
          have t5b:¬(y1.sh no).ms.m<P.it.nu:=fun e=>t4 ⟨t5,e⟩
          clear t4 t5
          refine wp_region_held_drew (S:=fun w'=>At w' br [.int .i64 P.kind,.int .i64 P.seq,.int .i64 P.it.sh,.int .i64 P.it.nu,.float .f32 P.it.pl,.float .f32 P.it.sp,.int .i64 P.mks.g,.int .i64 P.mks.m,.int .i64 P.mks.s,.int .i64 P.mks.a,.int .i64 P.mks.n,.slice ai ni ci,.slice ao nn co]/\At w' bs (jN (aC y1.s0 y1.s1 no).no (.slice av il' cv) vo (y1.sh no).ms)/\w'.cell? ⟨bq,0,none⟩=some (.int .i64 cI)) (by kernel_rfl) (⟨ARq.out.drew,STq.out.drew,CQ.out⟩) (fun hHeld=>?_)
          refine aL 0 ?_;simp only[aF]
          refine aL 1 ?_;simp only[aF]
          refine aW 2 rfl (by intro w hSw;have S0:=hSw.1.c 4 _ rfl;go_simp;try with_reducible rfl) ?_;simp only[aF]
          refine aL 4 ?_;simp only[aF]
          refine aU 3 (f:=96) (args:=#[.float .f32 P.it.pl]) (by kernel_rfl) (by rfl) (by rfl) (by go_simp) ?_
          refine Calls.mono (SD.out _) ?_
          rintro e w5 ⟨rfl,rfl⟩
          refine ⟨_,rfl,hHeld,?_⟩;simp only[aF]
          refine aL 5 ?_;simp only[aF]
          refine aL 6 ?_;simp only[aF]
          refine aL 7 ?_;simp only[aF]
          refine aL 8 ?_;simp only[aF]
          refine aL 9 ?_;simp only[aF]
          refine aW 10 rfl (by intro w hSw;have S0:=hSw.1.c 2 _ rfl;have S1:=hSw.1.c 3 _ rfl;go_simp;try with_reducible rfl) ?_;simp only[aF]
          refine aU 11 (f:=100) (args:=#[.pointer (some ⟨bs,0,none⟩),.agg #[.int .i64 P.it.sh,.int .i64 P.it.nu]]) (by kernel_rfl) (by rfl) (by rfl) (by go_simp) ?_
          refine Calls.mono (FD.out _ (aA (aD _ _))) ?_
          rintro e w6 ⟨rfl,g6⟩
          have G6:=Hid.mk' g6
          have h6:=And.intro (hHeld.1.grown g6) (And.intro (hHeld.2.1.grown g6) (g6.cell hHeld.2.2 (by simp)))
          clear hHeld g6
          have hHeld:=h6
          clear h6
          refine ⟨_,rfl,hHeld,?_⟩;simp only[aF]
          refine aL 12 ?_;simp only[aF]
          refine aL 13 ?_;simp only[aF]
          refine aL 14 ?_;simp only[aF]
          refine aL 15 ?_;simp only[aF]
          refine aL 16 ?_;simp only[aF]
          refine aL 17 ?_;simp only[aF]
          refine aW 18 rfl (by intro w hSw;have S0:=hSw.2.1.c 1 _ rfl;go_simp;try with_reducible rfl) ?_;simp only[aF]
          refine aL 19 ?_;simp only[aF]
          refine aL 20 ?_;simp only[aF]
          refine aL 21 ?_;simp only[aF]
          refine aL 22 ?_;simp only[aF]
          refine aL 23 ?_;simp only[aF]
          refine aW 24 rfl (by intro w hSw;have S0:=hSw.2.2;go_simp;try with_reducible rfl) ?_;simp only[aF]
          refine aL 25 ?_;simp only[aF]
          refine aL 26 ?_;simp only[aF]
          refine aL 27 ?_;simp only[aF]
          refine aL 28 ?_;simp only[aF]
          refine aL 29 ?_;simp only[aF]
          refine aL 30 ?_;simp only[aF]
          refine aW 31 rfl (by intro w hSw;have S0:=hSw.1.c 2 _ rfl;go_simp;try with_reducible rfl) ?_;simp only[aF]
          refine aL 32 ?_;simp only[aF]
          refine aL 33 ?_;simp only[aF]
          refine aL 34 ?_;simp only[aF]
          refine aL 35 ?_;simp only[aF]
          refine aL 36 ?_;simp only[aF]
          refine aL 37 ?_;simp only[aF]
          refine aW 38 rfl (by intro w hSw;have S0:=hSw.1.c 3 _ rfl;go_simp;try with_reducible rfl) ?_;simp only[aF]
          refine aL 39 ?_;simp only[aF]
          refine aL 40 ?_;simp only[aF]
          refine aL 41 ?_;simp only[aF]
          refine aL 42 ?_;simp only[aF]
          refine aW 43 rfl (by intro w hSw;have S0:=hSw.2.1.c 4 _ rfl;go_simp;try with_reducible rfl) ?_;simp only[aF]
          refine aL 44 ?_;simp only[aF]
          refine aL 45 ?_;simp only[aF]
          refine aL 46 ?_;simp only[aF]
          refine wpAnyH_done (by kernel_rfl) ?_ _
          have z1:=hHeld.1.c 1 _ rfl
          have z2:=hHeld.1.c 2 _ rfl
          have z3:=hHeld.1.c 3 _ rfl
          have z4:=hHeld.1.c 4 _ rfl
          have z5:=hHeld.1.c 5 _ rfl
          go_wp2_with fail
          clear z1 z2 z3 z4 z5
          refine Calls.mono (JR.out _ ((aA GQ.out).trans G6.out)) ?_
          rintro e w7 ⟨rfl,d7,x7,o7⟩
          have A7:=(hHeld.1).only o7 nbr
          have f1:=A7.c 1 _ rfl
          have D7:=Hid.mk' d7
          have X7:=Hid.mk' x7
          have O7:Hid (Only w3 w7 (fun j=>D j∨w0.heap.size<=j)):=((Only.grown ((aA GQ.out).trans G6.out)).mono (by simp)).trans (o7.mono (fun j _ e=>.inl (PD.out j e)))
          clear d7 x7 o7 A7 hHeld
          by_cases hj:((y1.sh no).jrn (bE P.seq P.it)).1=0
          ·have jz:=J0.out hj
           rw[hj]
           clear hj
           go_wp2_with fail
           refine Calls.mono (EN.out _) ?_
           rintro e w8 ⟨rfl,g8⟩
           have P8:=Hid.mk' (PT.out _ (X7.out.grown g8) (O7.out.trans ((Only.grown g8).mono (by simp))) jz)
           clear g8
           go_wp2_with fail
           refine Calls.mono P8.out ?_
           rintro e w9 ⟨rfl,d9⟩
           go_wp2
           go_ret
           exact ⟨by rw[jz];rfl,by rw[jz];exact d9⟩
          ·have jz:=J1.out hj
           have hjb:(((y1.sh no).jrn (bE P.seq P.it)).1 !=0)=true:=by simpa using hj
           have D8:=Hid.mk' (D7.out jz)
           have JZ:=Hid.mk' jz
           clear hj J0 J1 jz
           generalize ((y1.sh no).jrn (bE P.seq P.it)).1=zj at *
           go_wp2
           go_ret
           exact ⟨by rw[JZ.out];rfl,by rw[JZ.out];exact D8.out⟩
         ·have t5a:(P.it.sh==(no:Int))=false:=by simpa using t5
          clear t4 t5
          refine wp_region_held_drew (S:=fun w'=>At w' br [.int .i64 P.kind,.int .i64 P.seq,.int .i64 P.it.sh,.int .i64 P.it.nu,.float .f32 P.it.pl,.float .f32 P.it.sp,.int .i64 P.mks.g,.int .i64 P.mks.m,.int .i64 P.mks.s,.int .i64 P.mks.a,.int .i64 P.mks.n,.slice ai ni ci,.slice ao nn co]/\At w' bs (jN (aC y1.s0 y1.s1 no).no (.slice av il' cv) vo (y1.sh no).ms)/\w'.cell? ⟨bq,0,none⟩=some (.int .i64 cI)) (by kernel_rfl) (⟨ARq.out.drew,STq.out.drew,CQ.out⟩) (fun hHeld=>?_)
          refine aL 0 ?_;simp only[aF]
          refine aL 1 ?_;simp only[aF]
          refine aW 2 rfl (by intro w hSw;have S0:=hSw.1.c 4 _ rfl;go_simp;try with_reducible rfl) ?_;simp only[aF]
          refine aL 4 ?_;simp only[aF]
          refine aU 3 (f:=96) (args:=#[.float .f32 P.it.pl]) (by kernel_rfl) (by rfl) (by rfl) (by go_simp) ?_
          refine Calls.mono (SD.out _) ?_
          rintro e w5 ⟨rfl,rfl⟩
          refine ⟨_,rfl,hHeld,?_⟩;simp only[aF]
          refine aL 5 ?_;simp only[aF]
          refine aL 6 ?_;simp only[aF]
          refine aL 7 ?_;simp only[aF]
          refine aL 8 ?_;simp only[aF]
          refine aL 9 ?_;simp only[aF]
          refine aW 10 rfl (by intro w hSw;have S0:=hSw.1.c 2 _ rfl;have S1:=hSw.1.c 3 _ rfl;go_simp;try with_reducible rfl) ?_;simp only[aF]
          refine aU 11 (f:=100) (args:=#[.pointer (some ⟨bs,0,none⟩),.agg #[.int .i64 P.it.sh,.int .i64 P.it.nu]]) (by kernel_rfl) (by rfl) (by rfl) (by go_simp) ?_
          refine Calls.mono (FD.out _ (aA (aD _ _))) ?_
          rintro e w6 ⟨rfl,g6⟩
          have G6:=Hid.mk' g6
          have h6:=And.intro (hHeld.1.grown g6) (And.intro (hHeld.2.1.grown g6) (g6.cell hHeld.2.2 (by simp)))
          clear hHeld g6
          have hHeld:=h6
          clear h6
          refine ⟨_,rfl,hHeld,?_⟩;simp only[aF]
          refine aL 12 ?_;simp only[aF]
          refine aL 13 ?_;simp only[aF]
          refine aL 14 ?_;simp only[aF]
          refine aL 15 ?_;simp only[aF]
          refine aL 16 ?_;simp only[aF]
          refine aL 17 ?_;simp only[aF]
          refine aW 18 rfl (by intro w hSw;have S0:=hSw.2.1.c 1 _ rfl;go_simp;try with_reducible rfl) ?_;simp only[aF]
          refine aL 19 ?_;simp only[aF]
          refine aL 20 ?_;simp only[aF]
          refine aL 21 ?_;simp only[aF]
          refine aL 22 ?_;simp only[aF]
          refine aL 23 ?_;simp only[aF]
          refine aW 24 rfl (by intro w hSw;have S0:=hSw.2.2;go_simp;try with_reducible rfl) ?_;simp only[aF]
          refine aL 25 ?_;simp only[aF]
          refine aL 26 ?_;simp only[aF]
          refine aL 27 ?_;simp only[aF]
          refine aL 28 ?_;simp only[aF]
          refine aL 29 ?_;simp only[aF]
          refine aL 30 ?_;simp only[aF]
          refine aW 31 rfl (by intro w hSw;have S0:=hSw.1.c 2 _ rfl;go_simp;try with_reducible rfl) ?_;simp only[aF]
          refine aL 32 ?_;simp only[aF]
          refine aL 33 ?_;simp only[aF]
          refine aL 34 ?_;simp only[aF]
          refine cV 35 ?_;simp only[aF]
          refine cV 36 ?_;simp only[aF]
          refine cV 37 ?_;simp only[aF]
          refine cV 38 ?_;simp only[aF]
          refine cV 39 ?_;simp only[aF]
          refine cV 40 ?_;simp only[aF]
          refine cV 41 ?_;simp only[aF]
          refine cV 42 ?_;simp only[aF]
          refine cV 43 ?_;simp only[aF]
          refine cV 44 ?_;simp only[aF]
          refine aL 45 ?_;simp only[aF]
          refine aL 46 ?_;simp only[aF]
          refine wpAnyH_done (by kernel_rfl) ?_ _
          have z1:=hHeld.1.c 1 _ rfl
          have z2:=hHeld.1.c 2 _ rfl
          have z3:=hHeld.1.c 3 _ rfl
          have z4:=hHeld.1.c 4 _ rfl
          have z5:=hHeld.1.c 5 _ rfl
          go_wp2_with fail
          clear z1 z2 z3 z4 z5
          refine Calls.mono (JR.out _ ((aA GQ.out).trans G6.out)) ?_
          rintro e w7 ⟨rfl,d7,x7,o7⟩
          have A7:=(hHeld.1).only o7 nbr
          have f1:=A7.c 1 _ rfl
          have D7:=Hid.mk' d7
          have X7:=Hid.mk' x7
          have O7:Hid (Only w3 w7 (fun j=>D j∨w0.heap.size<=j)):=((Only.grown ((aA GQ.out).trans G6.out)).mono (by simp)).trans (o7.mono (fun j _ e=>.inl (PD.out j e)))
          clear d7 x7 o7 A7 hHeld
          by_cases hj:((y1.sh no).jrn (bE P.seq P.it)).1=0
          ·have jz:=J0.out hj
           rw[hj]
           clear hj
           go_wp2_with fail
           refine Calls.mono (EN.out _) ?_
           rintro e w8 ⟨rfl,g8⟩
           have P8:=Hid.mk' (PT.out _ (X7.out.grown g8) (O7.out.trans ((Only.grown g8).mono (by simp))) jz)
           clear g8
           go_wp2_with fail
           refine Calls.mono P8.out ?_
           rintro e w9 ⟨rfl,d9⟩
           go_wp2
           go_ret
           exact ⟨by rw[jz];rfl,by rw[jz];exact d9⟩
          ·have jz:=J1.out hj
           have hjb:(((y1.sh no).jrn (bE P.seq P.it)).1 !=0)=true:=by simpa using hj
           have D8:=Hid.mk' (D7.out jz)
           have JZ:=Hid.mk' jz
           clear hj J0 J1 jz
           generalize ((y1.sh no).jrn (bE P.seq P.it)).1=zj at *
           go_wp2
           go_ret
           exact ⟨by rw[JZ.out];rfl,by rw[JZ.out];exact D8.out⟩
     ·have HN:=Hid.mk' (no_of.out _ (fun x e=>x e.1) t1)
      have t1b:(cN P.it.pl !=(no:Int))=true:=by simpa using t1
      clear t1
      generalize cN P.it.pl=sd at *
      refine wp_region_held_drew (S:=fun w'=>At w' br [.int .i64 P.kind,.int .i64 P.seq,.int .i64 P.it.sh,.int .i64 P.it.nu,.float .f32 P.it.pl,.float .f32 P.it.sp,.int .i64 P.mks.g,.int .i64 P.mks.m,.int .i64 P.mks.s,.int .i64 P.mks.a,.int .i64 P.mks.n,.slice ai ni ci,.slice ao nn co]/\At w' bs (jN (aC y1.s0 y1.s1 no).no (.slice av il' cv) vo (y1.sh no).ms)/\w'.cell? ⟨bq,0,none⟩=some (.int .i64 cI)) (by kernel_rfl) (⟨ARq.out.drew,STq.out.drew,CQ.out⟩) (fun hHeld=>?_)
      refine aL 0 ?_;simp only[aF]
      refine aL 1 ?_;simp only[aF]
      refine aW 2 rfl (by intro w hSw;have S0:=hSw.1.c 4 _ rfl;go_simp;try with_reducible rfl) ?_;simp only[aF]
      refine aL 4 ?_;simp only[aF]
      refine aU 3 (f:=96) (args:=#[.float .f32 P.it.pl]) (by kernel_rfl) (by rfl) (by rfl) (by go_simp) ?_
      refine Calls.mono (SD.out _) ?_
      rintro e w5 ⟨rfl,rfl⟩
      refine ⟨_,rfl,hHeld,?_⟩;simp only[aF]
      refine aL 5 ?_;simp only[aF]
      refine aL 6 ?_;simp only[aF]
      refine cV 7 ?_;simp only[aF]
      refine cV 8 ?_;simp only[aF]
      refine cV 9 ?_;simp only[aF]
      refine cV 10 ?_;simp only[aF]
      refine cV 11 ?_;simp only[aF]
      refine cV 12 ?_;simp only[aF]
      refine aL 13 ?_;simp only[aF]
      refine aL 14 ?_;simp only[aF]
      refine cV 15 ?_;simp only[aF]
      refine cV 16 ?_;simp only[aF]
      refine cV 17 ?_;simp only[aF]
      refine cV 18 ?_;simp only[aF]
      refine cV 19 ?_;simp only[aF]
      refine cV 20 ?_;simp only[aF]
      refine cV 21 ?_;simp only[aF]
      refine cV 22 ?_;simp only[aF]
      refine cV 23 ?_;simp only[aF]
      refine cV 24 ?_;simp only[aF]
      refine cV 25 ?_;simp only[aF]
      refine aL 26 ?_;simp only[aF]
      refine aL 27 ?_;simp only[aF]
      refine cV 28 ?_;simp only[aF]
      refine cV 29 ?_;simp only[aF]
      refine cV 30 ?_;simp only[aF]
      refine cV 31 ?_;simp only[aF]
      refine cV 32 ?_;simp only[aF]
      refine cV 33 ?_;simp only[aF]
      refine cV 34 ?_;simp only[aF]
      refine cV 35 ?_;simp only[aF]
      refine cV 36 ?_;simp only[aF]
      refine cV 37 ?_;simp only[aF]
      refine cV 38 ?_;simp only[aF]
      refine cV 39 ?_;simp only[aF]
      refine cV 40 ?_;simp only[aF]
      refine cV 41 ?_;simp only[aF]
      refine cV 42 ?_;simp only[aF]
      refine cV 43 ?_;simp only[aF]
      refine cV 44 ?_;simp only[aF]
      refine cV 45 ?_;simp only[aF]
      refine aL 46 ?_;simp only[aF]
      refine wpAnyH_done (by kernel_rfl) ?_ _
      clear hHeld
      go_wp2
      go_ret
      exact NOTHING.out _ (aA GQ.out) HN.out
   ·by_cases h8:P.kind=8
    ·have huu:=aCq PGH.out HI.out hu
     have ST:=Hid.mk' (dN bq q0 q1 cI cO cJ y1.s0 y1.s1 r0 r1 no w3 X3.out.ry PGH.out huu)
     have HU:=Hid.mk' hu
     have GD:=Hid.mk' (PGH.out.at HI.out)
     have QB:=Hid.mk' (aIU (show (cH l).kind=8 by rw[HP.out];exact h8))
     rw[HP.out] at QB
     have HE:Hid (y1.heard no l=(((y1.sh no).hearAck P.seq).1,y1.setSh no ((y1.sh no).hearAck P.seq).2)):=by
      show _=_
      unfold Pr.heard Sh.hear
      rw[if_neg (by rw[hu];simp),HP.out,if_neg h7,if_pos h8]
      simp only
      rw[kM]
     have k7:(P.kind !=7)=true:=by simpa using h7
     have k8:(P.kind !=8)=false:=by simpa using h8
     have k8':(P.kind==8)=true:=by simpa using h8
     clear hu h7 h8 huu
     go_wp2_with fail
     refine Calls.mono ST.out ?_
     rintro e w4 ⟨bs,vi,vo,rfl,sg⟩
     have SG:=Hid.mk' sg
     have c5:=sg.at_.c 5 _ rfl
     have c6:=sg.at_.c 6 _ rfl
     have a0:=(AR.out.grown sg.g).c 0 _ rfl
     have a1:=(AR.out.grown sg.g).c 1 _ rfl
     have ES:Hid ((aC y1.s0 y1.s1 no).ds.ms=(y1.sh no).ms):=rfl
     rw[ES.out] at c5 c6
     clear sg e0 p0 u0c
     by_cases hc:P.seq<=(y1.sh no).ms.a∨(y1.sh no).ms.s<P.seq
     ·have HN:Hid (y1.heard no l=(0,y1)):=by
       show _=_
       rw[HE.out]
       unfold Sh.hearAck
       rw[if_pos hc]
       simp only
       rw[kL HI.out]
      rcases Classical.em (P.seq<=(y1.sh no).ms.a) with d1 | d1
      ·clear hc
       generalize (y1.sh no).ms.a=ma at *
       generalize (y1.sh no).ms.s=ms at *
       go_wp2_with fail
       go_quiet (fail)
       go_wp2
       go_ret
       exact NOTHING.out _ (aM SG.out.g nq) HN.out
      ·have d2:(y1.sh no).ms.s<P.seq:=by omega
       clear hc
       generalize (y1.sh no).ms.a=ma at *
       generalize (y1.sh no).ms.s=ms at *
       go_wp2_with fail
       go_quiet (fail)
       go_wp2
       go_ret
       exact NOTHING.out _ (aM SG.out.g nq) HN.out
     ·have d1:¬P.seq<=(y1.sh no).ms.a:=fun e=>hc (.inl e)
      have d2:¬(y1.sh no).ms.s<P.seq:=fun e=>hc (.inr e)
      have AG:=Hid.mk' (aAY GD.out.1 HU.out (q:=P.seq) (by have:¬P.seq<=(aC y1.s0 y1.s1 no).ms.a:=d1;omega) (by have:¬(aC y1.s0 y1.s1 no).ms.s<P.seq:=d2;omega))
      have H2:Hid ((y1.sh no).hearAck P.seq=(y1.sh no).jrn (dM P.seq)):=if_neg hc
      have JR:Hid (∀W,w3.grownBy W none->Calls prog 98 #[.pointer (some ⟨bq,0,none⟩),.int .i64 no,.agg #[.int .i64 5,.int .i64 P.seq,.int .i64 0,.int .i64 0,.float .f32 0,.float .f32 0,.int .i64 0,.int .i64 0,.int .i64 0,.int .i64 0,.int .i64 0,.slice none 0 0,.slice none 0 0]] W fun e w'=>e=.returned (.int .i64 (y1.heard no l).1)/\DSn w0 w' bq D (y1.heard no l).2):=Hid.mk' fun W gW=>by
       obtain ⟨g,hn,e1,e2,e3⟩:=GD.out
       have hW:=X3.out.grown gW
       refine (fZ bq q0 q1 cI cO cJ _ _ no (aC r0 r1 no) (dM P.seq) W hW.ry.at_ (hW.ry.at HI.out).1 HI.out g.rok g.kb (by rw[g.rct];exact g.ct) (by have:=g.j1;rw[<- e3];omega) (sP QB.out.2.1 QB.out.2.2) ⟨rfl,rfl⟩ (hW.ry.at HI.out).2).mono ?_
       rintro e w2 ⟨rfl,a2,o2⟩
       rw[<- e3] at a2 ⊢
       rw[HE.out,H2.out]
       exact ⟨by rw[AG.out.1];rfl,DSn.trans O3.out (DSn.grown gW (hW.ds B3.out PGH.out HI.out a2 o2 AG.out.2 (kX _ _)))⟩
      clear hc AG H2
      generalize (y1.sh no).ms.a=ma at *
      generalize (y1.sh no).ms.s=ms at *
      go_wp2_with fail
      go_quiet (fail)
      go_wp2_with fail
      refine Calls.mono (JR.out _ (aM SG.out.g nq)) ?_
      rintro e w5 ⟨rfl,d5⟩
      go_wp2
      go_ret
      exact ⟨rfl,d5⟩
    ·have hN:y1.heard no l=(0,y1):=zN HI.out (fun _=>by unfold Sh.hear;rw[HP.out,if_neg h7,if_neg h8])
     have HN:=Hid.mk' hN
     have k7:(P.kind !=7)=true:=by simpa using h7
     have k8:(P.kind !=8)=true:=by simpa using h8
     clear hN hu h7 h8
     go_wp2
     go_ret
     exact NOTHING.out _ (aD _ _) HN.out
 ·have hN:y1.heard no l=(0,y1):=zN HI.out (fun _=>by unfold Sh.hear;rw[HP.out,HZ.out hz,if_neg (by decide),if_neg (by decide)])
  have HN:=Hid.mk' hN
  have kz:(z !=0)=true:=by simpa using hz
  clear hN hz
  go_wp2
  go_ret
  exact NOTHING.out _ (aD _ _) HN.out
theorem aBs {w:World}{bq:Nat}{D:Nat->Prop}{y:Pr}(h:DS w bq D y)(i k:Int):Calls prog 56 #[.pointer (some ⟨bq,0,none⟩),.int .i64 i,.int .i64 k] w fun e w'=>e=.returned (.int .i64 (y.deliver i k).1)/\DSn w w' bq D (y.deliver i k).2:=by
 have h0:=h
 obtain ⟨cI,cO,cJ,r0,r1,q0,q1,v0,v1,hx,pg,hD⟩:=h
 by_cases hu:kN y.f0 y.f1 i k=0
 ·obtain ⟨hi,hk⟩:=aCn hu
  obtain ⟨n,rfl⟩:∃n:Nat,k=n:=⟨k.toNat,by have:=hk.1;omega⟩
  obtain ⟨no,rfl⟩:∃n:Nat,i=n:=⟨i.toNat,by unfold aX at hi;omega⟩
  exact wN hx pg hD no (by unfold aX at hi;omega) n (by have:=hk.2;show n<(aC y.f0 y.f1 no).length;omega)
 ·have E:Hid (y.deliver i k=(kN y.f0 y.f1 i k,y)):=if_pos hu
  rw[E.out]
  have U:=Hid.mk' (jK hx i k)
  have cb:(kN y.f0 y.f1 i k !=0)=true:=by simpa using hu
  have H0:=Hid.mk' h0
  generalize kN y.f0 y.f1 i k=z at *
  clear hu hx pg hD h0 E
  go_enter func56,ntmps56
  go_wp2_with fail
  refine Calls.mono U.out ?_
  rintro e w1 ⟨rfl,rfl⟩
  go_wp2
  go_ret
  exact ⟨rfl,H0.out.same⟩
theorem zO (bw n:Nat)(G:Nat->Prop)(sh k m x y:Int)(pl sp:Nat)(t:ByteArray)(w:World)(h:LI w bw G n):
  Calls prog 22 #[.pointer (some ⟨bw,0,none⟩),.agg #[.int .i64 9,.int .i64 sh,.int .i64 k,.int .i64 m,.int .i64 x,.int .i64 y,.float .f32 pl,.float .f32 sp,.string t]] w fun e w'=>e=.returned (.bool true)/\LIn w w' bw G n:=by
 obtain ⟨bp,bq,bk,A,D,R,p,h,hG⟩:=h
 have BX:Hid (∀W,w.grownBy W none->Calls prog 30 #[.pointer (some ⟨bp,0,none⟩),.int .i64 sh,.int .i64 k] W fun e w1=>e=.returned (.int .i64 (p.deliver sh k).1)/\PN W w1 bp A (p.deliver sh k).2):=Hid.mk' fun W gW=>aBd (h.pw.grown gW) h.ds.gd sh k
 have BY:Hid (∀W,DS W bq D p->Calls prog 56 #[.pointer (some ⟨bq,0,none⟩),.int .i64 sh,.int .i64 k] W fun e w2=>e=.returned (.int .i64 (p.deliver sh k).1)/\DSn W w2 bq D (p.deliver sh k).2):=Hid.mk' fun W hd=>aBs hd sh k
 obtain ⟨G0,AX,AW,H,HG⟩:=dI h hG [.int .i64 9,.int .i64 sh,.int .i64 k,.int .i64 m,.int .i64 x,.int .i64 y,.float .f32 pl,.float .f32 sp,.string t]
 clear h hG
 generalize (p.deliver sh k).1=z at *
 generalize (p.deliver sh k).2=p' at *
 go_enter func22,ntmps22
 go_wp2_with fail
 refine wp_region_held_drew (S:=fun w'=>At w' bw (LC bp bq bk)/\At w' w.heap.size (AC 9 sh k m x y pl sp t)) (by kernel_rfl) (⟨AW.out.drew,AX.out.drew⟩) (fun hHeld=>?_)
 refine aL 0 ?_;simp only[aF]
 refine aL 1 ?_;simp only[aF]
 refine aL 2 ?_;simp only[aF]
 refine aW 3 rfl (by intro w hSw;have S0:=hSw.1.c 0 _ rfl;go_simp;try with_reducible rfl) ?_;simp only[aF]
 refine aL 4 ?_;simp only[aF]
 refine aW 5 rfl (by intro w hSw;have S1:=hSw.2.c 1 _ rfl;go_simp;try with_reducible rfl) ?_;simp only[aF]
 refine aL 6 ?_;simp only[aF]
 refine aW 7 rfl (by intro w hSw;have S2:=hSw.2.c 2 _ rfl;go_simp;try with_reducible rfl) ?_;simp only[aF]
 refine aU 8 (f:=30) (args:=#[.pointer (some ⟨bp,0,none⟩),.int .i64 sh,.int .i64 k]) (by kernel_rfl) (by rfl) (by rfl) (by go_simp) ?_
 refine Calls.mono (BX.out _ (aA G0.out)) ?_
 rintro e w1 ⟨rfl,n1⟩
 have h1:=H.out.held1 n1 hHeld
 have N1:=Hid.mk' n1
 clear hHeld n1
 have hHeld:=h1
 refine ⟨_,rfl,hHeld,?_⟩;simp only[aF]
 refine aL 9 ?_;simp only[aF]
 refine wpAnyH_done (by kernel_rfl) ?_ _
 have H1:=Hid.mk' hHeld
 clear hHeld h1
 go_wp2_with fail
 refine wp_region_held_drew (S:=fun w'=>At w' bw (LC bp bq bk)/\At w' w.heap.size (AC 9 sh k m x y pl sp t)) (by kernel_rfl) (⟨H1.out.1.drew,H1.out.2.drew⟩) (fun hHeld=>?_)
 refine aL 0 ?_;simp only[aF]
 refine aL 1 ?_;simp only[aF]
 refine aL 2 ?_;simp only[aF]
 refine aW 3 rfl (by intro w hSw;have S0:=hSw.1.c 1 _ rfl;go_simp;try with_reducible rfl) ?_;simp only[aF]
 refine aL 4 ?_;simp only[aF]
 refine aW 5 rfl (by intro w hSw;have S1:=hSw.2.c 1 _ rfl;go_simp;try with_reducible rfl) ?_;simp only[aF]
 refine aL 6 ?_;simp only[aF]
 refine aW 7 rfl (by intro w hSw;have S2:=hSw.2.c 2 _ rfl;go_simp;try with_reducible rfl) ?_;simp only[aF]
 refine aU 8 (f:=56) (args:=#[.pointer (some ⟨bq,0,none⟩),.int .i64 sh,.int .i64 k]) (by kernel_rfl) (by rfl) (by rfl) (by go_simp) ?_
 refine Calls.mono (BY.out _ (H.out.ds1 (aA G0.out) N1.out (aA (aD _ _)))) ?_
 rintro e w2 ⟨rfl,n2⟩
 have h2:=H.out.held2 n2 hHeld
 have N2:=Hid.mk' n2
 clear hHeld n2
 have hHeld:=h2
 refine ⟨_,rfl,hHeld,?_⟩;simp only[aF]
 refine aL 9 ?_;simp only[aF]
 refine wpAnyH_done (by kernel_rfl) ?_ _
 clear hHeld h2
 have hzz:(z==z)=true:=by simp
 go_wp2
 go_ret
 exact ⟨rfl,H.out.both (aA G0.out) N1.out (aA (aD _ _)) N2.out HG.out⟩
end Go.Proofs.YtammnaafdhhjaaaGreat
