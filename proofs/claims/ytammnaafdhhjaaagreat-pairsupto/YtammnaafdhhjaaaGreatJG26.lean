import Derived.Test.YtammnaafdhhjaaaGreatJG22
set_option maxHeartbeats 16000000
set_option maxRecDepth 100000
namespace Go.Proofs.YtammnaafdhhjaaaGreat
open Go.RowKit Go.Proofs.Tryz
theorem Came.base {B B':Nat}{w:World}{v:Value}{rs:List Rw}(h:Came B w v rs)(hB:B'<=B):Came B' w v rs:=
 ⟨bP h.row hB,fun r hr=>bP (h.oi r hr) hB,fun r hr=>bP (h.oo r hr) hB,h.io,h.pw,h.out⟩
theorem Came.only {B:Nat}{w w':World}{v:Value}{rs:List Rw}{A:Nat->Prop}(h:Came B w v rs)(o:Only w w' A)(hA:∀j,B<=j->¬A j):Came B w' v rs:=
 ⟨o.own h.row (fun j hj=>hA j (h.row.lt j hj).1),fun r hr=>o.own (h.oi r hr) (fun j hj=>hA j ((h.oi r hr).lt j hj).1),fun r hr=>o.own (h.oo r hr) (fun j hj=>hA j ((h.oo r hr).lt j hj).1),h.io,h.pw,h.out⟩
theorem kW (rs:List Rw)(k j:Nat)(hk:k<rs.length)(hj:j<13):(rs.flatMap Rw.cells)[13 * k+j]?=rs[k].cells[j]?:=by
 induction rs generalizing k with
 | nil=>simp at hk
 | cons a t ih=>
  rw[List.flatMap_cons]
  cases k with
  | zero=>rw[List.getElem?_append_left (by simp[Rw.cells];omega)];simp
  | succ k=>
   rw[List.getElem?_append_right (by simp[Rw.cells];omega)]
   have:=ih k (by simp at hk;omega)
   simp only[List.getElem_cons_succ]
   rw[<- this]
   congr 1
   simp[Rw.cells]
   omega
def Leg:Sh->List Rc->Prop
 | _,[]=>True
 | s,r::l=>DoOk s r/\Leg (s.doR r) l
theorem Leg.at:∀{s:Sh} {l:List Rc} {k:Nat} (_:Leg s l) (hk:k<l.length),DoOk ((l.take k).foldl Sh.doR s) l[k]
 | s,r::l,0,h,_=>h.1
 | s,r::l,k+1,h,hk=>Leg.at (l:=l) (k:=k) h.2 (by simpa using hk)
structure Jnl (s:Sh)(rs:List Rc):Prop where
 pos:0<rs.length
 base:∀h:0<rs.length,(rs[0]).kind=6/\(rs[0]).items.length<=1000/\∀x∈(rs[0]).items,bD x.sh/\bD x.nu
 leg:∀h:0<rs.length,Leg (s.doR rs[0]) rs.tail
 len:rs.length<=1000000
theorem Jnl.at {s:Sh}{rs:List Rc}(h:Jnl s rs){k:Nat}(h0:0<k)(hk:k<rs.length):DoOk ((rs.take k).foldl Sh.doR s) rs[k]:=by
 cases rs with
 | nil=>simp at hk
 | cons r l=>
  obtain ⟨m,rfl⟩:∃m,k=m+1:=⟨k -1,by omega⟩
  exact Leg.at (h.leg (by simp)) (by simpa using hk)
structure Ro (w wr:World)(b bd:Nat)(s:Sh)(v:Value)(rs:List Rw)(k:Nat):Prop where
 row:wr.ownsRow w.heap.size 139 13 v rs.length (rs.flatMap Rw.cells)
 dk:At wr bd s.dk.cells
 on:Only w wr (fun j=>j=b∨j=bd)
 z:k=0->At wr b (s.cells bd (.map none) (.slice none 0 0))/\Came w.heap.size wr v rs
 p:0<k->∃bm ov,HS wr w.heap.size b (((rs.map Rw.p).take k).foldl Sh.doR s) bd bm ov/\w.heap.size<=bm/\v.ownBlock≠some bm/\(∀j,ov.ownBlock=some j->v.ownBlock≠some j)
theorem Ro.first {w wr w':World}{b bd:Nat}{s:Sh}{v:Value}{rs:List Rw}(hb:b<w.heap.size)(hne:bd≠b)(h:Ro w wr b bd s v rs 0)(hk:0<rs.length){ob:Obj}
  {bm:Nat} (hs:HS w' w.heap.size b (s.doR (rs[0]).p) bd bm (rs[0]).vo) (o:Only (wr.alloc ob) w' (fun j=>j=b)) (hm:(wr.alloc ob).heap.size<=bm):Ro w w' b bd s v rs 1:=by
 have o1:Only wr w' (fun j=>j=b):=((Only.grown (World.grownBy_alloc wr ob none)).mono (by simp)).trans (o.mono (fun _ _ e=>.inl e))
 have vl:=h.row.lt
 have zz:wr.heap.size<(wr.alloc ob).heap.size:=by simp
 refine ⟨o1.own h.row (fun j hj e=>by have:=(vl j hj).1;omega),h.dk.only o1 hne,h.on.trans (o1.mono (fun _ _ e=>.inl (.inl e))),by simp,fun _=>⟨bm,(rs[0]).vo,?_,?_,fun e=>?_,fun j hj=>(h.z rfl).2.out _ (List.getElem_mem hk) j (.inr hj)⟩⟩
 ·have e:((rs.map Rw.p).take 1).foldl Sh.doR s=s.doR (rs[0]).p:=by
   cases rs with
   | nil=>simp at hk
   | cons a t=>rfl
  rw[e]
  exact hs
 ·have:=h.on.size;omega
 ·have:=(vl bm e).2;omega
theorem Ro.next {w wr w':World}{b bd bm:Nat}{s:Sh}{v ov ov':Value}{rs:List Rw}{k:Nat}(hb:b<w.heap.size)(hd:bd<w.heap.size)(hne:bd≠b)(h:Ro w wr b bd s v rs k)(hk:k<rs.length){ob:Obj}
  (h0:HS wr w.heap.size b (((rs.map Rw.p).take k).foldl Sh.doR s) bd bm ov) (hbm:w.heap.size<=bm) (hvb:v.ownBlock≠some bm) (hvo:∀j,ov.ownBlock=some j->v.ownBlock≠some j)
  (hs:HS w' w.heap.size b ((((rs.map Rw.p).take k).foldl Sh.doR s).doR (rs[k]).p) bd bm ov') (o:Only (wr.alloc ob) w' (HS.foot b bm ov)) (hv:∀j,ov'.ownBlock=some j->ov.ownBlock=some j∨(wr.alloc ob).heap.size<=j):Ro w w' b bd s v rs (k+1):=by
 have o1:Only wr w' (HS.foot b bm ov):=((Only.grown (World.grownBy_alloc wr ob none)).mono (by simp)).trans (o.mono (fun _ _ e=>.inl e))
 have vl:=h.row.lt
 have ol:=h0.ob.lt
 have zz:wr.heap.size<(wr.alloc ob).heap.size:=by simp
 refine ⟨o1.own h.row (fun j hj e=>?_),h.dk.only o1 (fun e=>?_),h.on.trans (o1.mono (fun j _ e=>?_)),by omega,fun _=>⟨bm,ov',?_,hbm,hvb,fun j hj=>?_⟩⟩
 ·have:=(vl j hj).1
  rcases e with e | e | e
  ·omega
  ·exact hvb (by rw[<- e];exact hj)
  ·exact hvo j e hj
 ·rcases e with e | e | e
  ·exact hne e
  ·omega
  ·have:=(ol bd e).1;omega
 ·rcases e with e | e | e
  ·exact .inl (.inl e)
  ·exact .inr (by omega)
  ·exact .inr (ol j e).1
 ·have hk':k<(rs.map Rw.p).length:=by simpa using hk
  rw[List.take_succ_eq_append_getElem hk',List.foldl_append]
  simpa using hs
 ·rcases hv j hj with e | e
  ·exact hvo j e
  ·intro e'
   have:=(vl j e').2
   omega
theorem aAS (b:Nat)(s:Sh)(F:Nat->Prop)(w:World)(h:PS w b s F)(hu:s.up=true):
  Calls prog 43 #[.pointer (some ⟨b,0,none⟩)] w fun e w'=>e=.returned (.int .i64 2)/\w'=w:=by
 obtain ⟨bd,mv,ov,h1,_⟩:=h.cells
 have c5:=h1.c 5 _ rfl
 rw[hu] at c5
 clear h1
 go_enter func43,ntmps43
 go_wp2
 go_ret
 exact ⟨rfl,rfl⟩
theorem aDt (b bd:Nat)(s:Sh)(w:World)(h:At w b (s.cells bd (.map none) (.slice none 0 0)))(hd:At w bd s.dk.cells)(ok:s.dk.Ok)(hne:bd≠b)(hu:s.up=false)(hg:¬bA (aR s.dk.f0)<bA (aR s.dk.f1))(hj:Jnl ({s with ct:=0}.on (s.dk.shorten 0 (bK s.dk.f0).2)) (aR s.dk.f0)):
  Calls prog 43 #[.pointer (some ⟨b,0,none⟩)] w fun e w'=>e=.returned (.int .i64 0)/\∃bm ov,HS w' w.heap.size b {(aR s.dk.f0).foldl Sh.doR ({s with ct:=0}.on (s.dk.shorten 0 (bK s.dk.f0).2)) with up:=true} bd bm ov/\At w' bd (s.dk.shorten 0 (bK s.dk.f0).2).cells/\w.heap.size<=bm/\Only w w' (fun j=>j=b∨j=bd):=by
 have H:=Hid.mk' h
 have OK:=Hid.mk' ok
 have JJ:=Hid.mk' hj
 have HG:=Hid.mk' (decide_eq_false hg)
 clear hg
 have hbl:=h.lt
 have hdl:=hd.lt
 have hsf:=aK
 have c5:=h.c 5 _ rfl
 have c4:=h.c 4 _ rfl
 have c6:=h.c 6 _ rfl
 have f6:=h.f 6
 rw[hu] at c5
 have A1:=Hid.mk' (h.put 6 (.int .i64 0) (by simp[Sh.cells]))
 have O1:=Hid.mk' (Only.set w b 6 (.int .i64 0))
 have D1:=Hid.mk' (hd.only O1.out hne)
 have a4:=A1.out.c 4 _ rfl
 have l0:=ok.b0
 have l1:=ok.b1
 clear h hd ok hj
 go_enter func43,ntmps43
 go_wp2_with fail
 refine Calls.mono (eI bd s.dk 0 _ D1.out (by omega)) ?_
 rintro e w1 ⟨rfl,rfl⟩
 go_wp2_with fail
 refine Calls.mono (jT s.dk.f0 _ (by omega)) ?_
 rintro e w2 ⟨v0,rs0,rfl,q0,e0,g2⟩
 have Q0:=Hid.mk' q0
 have E0:=Hid.mk' e0
 have G2:=Hid.mk' g2
 have b4:=(A1.out.grown g2).c 4 _ rfl
 clear q0 e0 g2
 go_wp2_with fail
 refine Calls.mono (eI bd s.dk 1 _ (D1.out.grown G2.out) (by omega)) ?_
 rintro e w3 ⟨rfl,rfl⟩
 go_wp2_with fail
 refine Calls.mono (jT s.dk.f1 _ (by omega)) ?_
 rintro e w4 ⟨v1,rs1,rfl,q1,e1,g4⟩
 have Q1:=Hid.mk' q1
 have E1:=Hid.mk' e1
 have G4:=Hid.mk' g4
 have Q0':=Hid.mk' (Q0.out.grown g4)
 clear q1 e1 g4
 obtain ⟨a0,n0,rfl⟩:=aJ Q0.out.row
 obtain ⟨a1,n1,rfl⟩:=aJ Q1.out.row
 have lr0:rs0.length<=1000000:=by have:=gQ s.dk.f0;rw[<- E0.out] at this;simp at this;omega
 have lr1:rs1.length<=1000000:=by have:=gQ s.dk.f1;rw[<- E1.out] at this;simp at this;omega
 go_wp2_with fail
 refine Calls.mono (fX _ _ rs1 _ Q1.out.row lr1) ?_
 rintro e w5 ⟨rfl,rfl⟩
 go_wp2_with fail
 refine Calls.mono (fX _ _ rs0 _ Q0'.out.row lr0) ?_
 rintro e w6 ⟨rfl,rfl⟩
 rw[E0.out,E1.out]
 have hg':=HG.out
 have A6:=Hid.mk' ((A1.out.grown G2.out).grown G4.out)
 have D6:=Hid.mk' ((D1.out.grown G2.out).grown G4.out)
 have O6:=Hid.mk' (((O1.out.mono (A':=fun j=>j=b) (fun _ _ e=>e)).trans ((Only.grown (G2.out.trans G4.out)).mono (by simp))))
 have A7:=A6
 have O7:=O6
 have D7:=D6
 have Q7:=Hid.mk' (Q0'.out.base (B':=w.heap.size) (by simp))
 have E7:=E0
 clear E0 E1 Q0 Q0' Q1 A6 D6 A1 D1 lr1
 go_wp2_with fail
 have A8:At w6.drew b (({s with ct:=0}:Sh).cells bd (.map none) (.slice none 0 0)):=A7.out.drew
 refine wp_region_held_drew (S:=fun w'=>At w' b (({s with ct:=0}:Sh).cells bd (.map none) (.slice none 0 0))) (by kernel_rfl) (A8) (fun hHeld=>?_)
 refine aN 0 ?_
 simp only[aF]
 refine aN 1 ?_
 simp only[aF]
 refine aN 2 ?_
 simp only[aF]
 refine bV 3 (fun _ h=>h.c 4 _ rfl) ?_
 simp only[aF]
 refine aN 4 ?_
 simp only[aF]
 refine aN 5 ?_
 simp only[aF]
 refine aN 6 ?_
 simp only[aF]
 refine bV 7 (fun _ h=>h.c 6 _ rfl) ?_
 simp only[aF]
 refine aN 8 ?_
 simp only[aF]
 refine aX 9 (f:=88) (args:=#[.pointer (some ⟨bd,0,none⟩),.int .i64 0,.int .i64 (bK s.dk.f0).2]) (by kernel_rfl) (by rfl) (by rfl) (by go_simp) ?_
 refine Calls.mono (kB bd s.dk 0 (bK s.dk.f0).2 _ D7.out.drew (by omega) (lW s.dk.f0) l0) ?_
 rintro e w8 ⟨rfl,d8,o8⟩
 have A9:=A8.only o8 (fun e=>hne e.symm)
 clear hHeld
 have hHeld:=A9
 refine ⟨_,rfl,hHeld,?_⟩
 simp only[aF]
 refine wpAnyH_done (by kernel_rfl) ?_ _
 have o9:Only w6 w8 (fun j=>j=bd):=((Only.refl w6 (fun j=>j=bd)).drew).trans (o8.mono (fun _ _ e=>.inl e))
 have C9:=Q7.out.only o9 (fun j hj e=>by omega)
 have RO:=Hid.mk' (show Ro w w8 b bd ({s with ct:=0}.on (s.dk.shorten 0 (bK s.dk.f0).2)) (.slice a0 rs0.length n0) rs0 0 from ⟨C9.row,d8,(O7.out.mono (fun _ _ e=>.inl e)).trans (o9.mono (fun _ _ e=>.inl (.inr e))),fun _=>⟨A9,C9⟩,by omega⟩)
 have SL:Hid (∀r∈rs0,(∃a k m,r.vi=.slice a k m)/\(∃a k m,r.vo=.slice a k m)):=Hid.mk' fun r hr=>by
  obtain ⟨x,y,h1⟩:=aJ (C9.oi r hr)
  obtain ⟨x',y',h2⟩:=aJ (C9.oo r hr)
  exact ⟨⟨_,_,_,h1⟩,⟨_,_,_,h2⟩⟩
 have zz:=(O7.out.size)
 clear A7 D7 Q7 O7 A8 A9 C9 d8 o8 o9 hHeld hg' HG c4 c5 c6 f6 a4 b4
 generalize hS0:({s with ct:=0}.on (s.dk.shorten 0 (bK s.dk.f0).2))=s0 at *
 rw[<- E7.out] at JJ
 have hpos:0<rs0.length:=by simpa using JJ.out.pos
 obtain ⟨n,hnn⟩:∃n,rs0.length=n:=⟨_,rfl⟩
 have HNN:=Hid.mk' hnn
 rw[hnn] at RO hpos lr0 ⊢
 clear hnn
 go_wp2_with fail
 go_loopw [56] (fun t wr=>∃k:Nat,k<=n/\t=.int .i64 k/\Ro w wr b bd s0 (.slice a0 n n0) rs0 k) (fun t _=>n -(intOf t).toNat)
 case atStart=>exact ⟨0,by omega,rfl,RO.out⟩
 case round=>
  obtain ⟨k,hk,rfl,hro⟩:=hrel
  have HRO:=Hid.mk' hro
  have zr:=hro.on.size
  clear hro
  by_cases hlt:k<n
  ·have hkl:k<rs0.length:=by rw[HNN.out];exact hlt
   obtain ⟨g,rfl⟩:∃g,a0=some ⟨g,0,none⟩:=by
    rcases HRO.out.row.2 with ⟨h',hn0⟩ | ⟨g,cap,cur,h',_⟩
    ·have:=HNN.out;omega
    ·injection h' with h1 h2 h3
     exact ⟨g,h1⟩
   have hrow:wr.ownsRow w.heap.size 139 13 (.slice (some ⟨g,0,none⟩) n n0) n (rs0.flatMap Rw.cells):=by
    have:=HRO.out.row
    rw[HNN.out] at this
    exact this
   obtain ⟨x,hx⟩:∃x,rs0[k]=x:=⟨_,rfl⟩
   have hxm:x∈rs0:=by rw[<- hx];exact List.getElem_mem hkl
   obtain ⟨⟨xa,xk,xm,hvi⟩,⟨ya,yk,ym,hvo⟩⟩:=SL.out x hxm
   have d:∀j (hj:j<13) u,x.cells[j]?=some u->wr.cell? ⟨g,k * 13+j,none⟩=some u:=fun j hj u hu=>by
    refine (hrow.cellAt (k * 13+j) (by omega)).trans ?_
    rw[Nat.mul_comm k 13,kW rs0 k j hkl hj,hx]
    exact hu
   have d0:=d 0 (by omega) _ rfl
   have d1:=d 1 (by omega) _ rfl
   have d2:=d 2 (by omega) _ rfl
   have d3:=d 3 (by omega) _ rfl
   have d4:=d 4 (by omega) _ rfl
   have d5:=d 5 (by omega) _ rfl
   have d6:=d 6 (by omega) _ rfl
   have d7:=d 7 (by omega) _ rfl
   have d8:=d 8 (by omega) _ rfl
   have d9:=d 9 (by omega) _ rfl
   have d10:=d 10 (by omega) _ rfl
   have d11:=d 11 (by omega) _ rfl
   have d12:=d 12 (by omega) _ rfl
   rw[Nat.add_zero] at d0
   rw[hvi] at d11
   rw[hvo] at d12
   have HX:=Hid.mk' hx
   clear d hx hxm hrow
   have y0:(0:Int)<=(k:Int):=by omega
   have y1:(k:Int)<(n:Int):=by omega
   by_cases hz:k=0
   ·subst hz
    obtain ⟨zA,zC⟩:=HRO.out.z rfl
    have hx0:=HX.out
    have hb0:=JJ.out.base (by simpa using hkl)
    rw[List.getElem_map,hx0] at hb0
    have hx1:x∈rs0:=by rw[<- hx0];exact List.getElem_mem hkl
    have oi:=zC.oi x hx1
    have oo:=zC.oo x hx1
    rw[hvi] at oi
    rw[hvo] at oo
    have ONB:Hid ((Value.slice ya yk ym).ownBlock≠some b):=Hid.mk' fun e=>by have:=(OwnE.lt oo b e).1;omega
    have GA:=Hid.mk' (World.grownBy_alloc wr (.cells #[.int .i64 6,.int .i64 x.p.seq,.int .i64 x.p.it.sh,.int .i64 x.p.it.nu,.float .f32 x.p.it.pl,.float .f32 x.p.it.sp,.int .i64 x.p.mks.g,.int .i64 x.p.mks.m,.int .i64 x.p.mks.s,.int .i64 x.p.mks.a,.int .i64 x.p.mks.n,.slice xa xk xm,.slice ya yk ym] 139) none)
    have DB:=Hid.mk' (rY w.heap.size b bd (.map none) (.slice none 0 0) s0 x.p.seq x.p.it x.p.mks x.p.items x.p.outs (.slice xa xk xm) (.slice ya yk ym) _ (zA.grown GA.out) (jH ((Only.grown GA.out).own oi (by simp))) ((Only.grown GA.out).own oo (by simp)) (Nat.le_trans zr GA.out.size) hb0.2.2 hb0.2.1 ONB.out)
    have hk6:=hb0.1
    rw[hk6] at d0
    clear zA zC oi oo hb0 hx0 hx1
    unfold rv at DB
    go_wp2_with fail
    refine Calls.mono DB.out ?_
    rintro e w3 ⟨rfl,bm,h3,o3,hm3⟩
    have H3:=Hid.mk' h3
    have O3:=Hid.mk' o3
    have M3:=Hid.mk' hm3
    clear h3 o3 hm3
    go_wp2
    refine ⟨⟨1,by omega,by go_num,HRO.out.first hbl hne hkl (bm:=bm) ?_ O3.out M3.out⟩,by simp[intOf];omega⟩
    rw[HX.out,hvo]
    have:s0.doR x.p=s0.doBase x.p.mks x.p.items x.p.outs:=by unfold Sh.doR;rw[if_pos hk6]
    rw[this]
    exact H3.out
   ·obtain ⟨bm,ov,h0,hbm,hvb,hvo'⟩:=HRO.out.p (by omega)
    have hx0:=HX.out
    have dok:=JJ.out.at (k:=k) (by omega) (by simpa using hkl)
    rw[List.getElem_map,hx0] at dok
    have GA:=Hid.mk' (World.grownBy_alloc wr (.cells #[.int .i64 x.p.kind,.int .i64 x.p.seq,.int .i64 x.p.it.sh,.int .i64 x.p.it.nu,.float .f32 x.p.it.pl,.float .f32 x.p.it.sp,.int .i64 x.p.mks.g,.int .i64 x.p.mks.m,.int .i64 x.p.mks.s,.int .i64 x.p.mks.a,.int .i64 x.p.mks.n,.slice xa xk xm,.slice ya yk ym] 139) none)
    have DB:=Hid.mk' (aAJ w.heap.size b bd bm ov _ x.p xa ya xk xm yk ym _ (h0.grown GA.out) dok)
    have HH0:=Hid.mk' h0
    have HVB:=Hid.mk' (And.intro hbm (And.intro hvb hvo'))
    clear h0 hbm hvb hvo' dok hx0
    unfold rv at DB
    go_wp2_with fail
    refine Calls.mono DB.out ?_
    rintro e w3 ⟨rfl,ov3,h3,o3,v3⟩
    have H3:=Hid.mk' h3
    have O3:=Hid.mk' o3
    have V3:=Hid.mk' v3
    clear h3 o3 v3
    go_wp2
    refine ⟨⟨k+1,by omega,by go_num,HRO.out.next hbl hdl hne hkl HH0.out HVB.out.1 HVB.out.2.1 HVB.out.2.2 ?_ O3.out V3.out⟩,by simp[intOf];omega⟩
    rw[HX.out]
    exact H3.out
  ·have hkn:k=n:=by omega
   subst hkn
   obtain ⟨bm,ov,h0,hbm,hvb,hvo'⟩:=HRO.out.p (by omega)
   rw[List.take_of_length_le (by rw[List.length_map,HNN.out];exact Nat.le_refl _),E7.out] at h0
   subst hS0
   have e5:=h0.at_.c 5 _ rfl
   have f5:=h0.at_.f 5
   have A5:=Hid.mk' (h0.at_.put 5 (.bool true) (by simp[Sh.cells]))
   have O5:=Hid.mk' (Only.set wr b 5 (.bool true))
   have HH0:=Hid.mk' h0
   have HBM:=Hid.mk' hbm
   clear h0 hbm hvb hvo'
   go_wp2
   go_ret
   refine ⟨rfl,bm,ov,⟨A5.out,HH0.out.mp.only O5.out HH0.out.n2,O5.out.own HH0.out.ob (fun j hj e=>HH0.out.n1 (by rw[<- e];exact hj)),HH0.out.n1,HH0.out.n2,HH0.out.n3,Nat.le_trans HH0.out.hB O5.out.size⟩,?_,HBM.out,HRO.out.on.trans (O5.out.mono (fun _ _ e=>.inl (.inl e)))⟩
   exact HRO.out.dk.only O5.out hne
theorem aDu (b bd:Nat)(s:Sh)(w:World)(h:At w b (s.cells bd (.map none) (.slice none 0 0)))(hd:At w bd s.dk.cells)(ok:s.dk.Ok)(hne:bd≠b)(hu:s.up=false)(hg:bA (aR s.dk.f0)<bA (aR s.dk.f1))(hj:Jnl ({s with ct:=1}.on (s.dk.shorten 1 (bK s.dk.f1).2)) (aR s.dk.f1)):
  Calls prog 43 #[.pointer (some ⟨b,0,none⟩)] w fun e w'=>e=.returned (.int .i64 0)/\∃bm ov,HS w' w.heap.size b {(aR s.dk.f1).foldl Sh.doR ({s with ct:=1}.on (s.dk.shorten 1 (bK s.dk.f1).2)) with up:=true} bd bm ov/\At w' bd (s.dk.shorten 1 (bK s.dk.f1).2).cells/\w.heap.size<=bm/\Only w w' (fun j=>j=b∨j=bd):=by
 have H:=Hid.mk' h
 have OK:=Hid.mk' ok
 have JJ:=Hid.mk' hj
 have HG:=Hid.mk' (decide_eq_true hg)
 clear hg
 have hbl:=h.lt
 have hdl:=hd.lt
 have hsf:=aK
 have c5:=h.c 5 _ rfl
 have c4:=h.c 4 _ rfl
 have c6:=h.c 6 _ rfl
 have f6:=h.f 6
 rw[hu] at c5
 have A1:=Hid.mk' (h.put 6 (.int .i64 0) (by simp[Sh.cells]))
 have O1:=Hid.mk' (Only.set w b 6 (.int .i64 0))
 have D1:=Hid.mk' (hd.only O1.out hne)
 have a4:=A1.out.c 4 _ rfl
 have l0:=ok.b0
 have l1:=ok.b1
 clear h hd ok hj
 go_enter func43,ntmps43
 go_wp2_with fail
 refine Calls.mono (eI bd s.dk 0 _ D1.out (by omega)) ?_
 rintro e w1 ⟨rfl,rfl⟩
 go_wp2_with fail
 refine Calls.mono (jT s.dk.f0 _ (by omega)) ?_
 rintro e w2 ⟨v0,rs0,rfl,q0,e0,g2⟩
 have Q0:=Hid.mk' q0
 have E0:=Hid.mk' e0
 have G2:=Hid.mk' g2
 have b4:=(A1.out.grown g2).c 4 _ rfl
 clear q0 e0 g2
 go_wp2_with fail
 refine Calls.mono (eI bd s.dk 1 _ (D1.out.grown G2.out) (by omega)) ?_
 rintro e w3 ⟨rfl,rfl⟩
 go_wp2_with fail
 refine Calls.mono (jT s.dk.f1 _ (by omega)) ?_
 rintro e w4 ⟨v1,rs1,rfl,q1,e1,g4⟩
 have Q1:=Hid.mk' q1
 have E1:=Hid.mk' e1
 have G4:=Hid.mk' g4
 have Q0':=Hid.mk' (Q0.out.grown g4)
 clear q1 e1 g4
 obtain ⟨a0,n0,rfl⟩:=aJ Q0.out.row
 obtain ⟨a1,n1,rfl⟩:=aJ Q1.out.row
 have lr0:rs0.length<=1000000:=by have:=gQ s.dk.f0;rw[<- E0.out] at this;simp at this;omega
 have lr1:rs1.length<=1000000:=by have:=gQ s.dk.f1;rw[<- E1.out] at this;simp at this;omega
 go_wp2_with fail
 refine Calls.mono (fX _ _ rs1 _ Q1.out.row lr1) ?_
 rintro e w5 ⟨rfl,rfl⟩
 go_wp2_with fail
 refine Calls.mono (fX _ _ rs0 _ Q0'.out.row lr0) ?_
 rintro e w6 ⟨rfl,rfl⟩
 rw[E0.out,E1.out]
 have hg':=HG.out
 have A6:=Hid.mk' ((A1.out.grown G2.out).grown G4.out)
 have D6:=Hid.mk' ((D1.out.grown G2.out).grown G4.out)
 have O6:=Hid.mk' (((O1.out.mono (A':=fun j=>j=b) (fun _ _ e=>e)).trans ((Only.grown (G2.out.trans G4.out)).mono (by simp))))
 have f66:=A6.out.f 6
 have c66:=A6.out.c 6 _ rfl
 have A7:=Hid.mk' (A6.out.put 6 (.int .i64 1) (by simp[Sh.cells]))
 have O7:=Hid.mk' (O6.out.trans ((Only.set w6 b 6 (.int .i64 1)).mono (fun _ _ e=>.inl e)))
 have D7:=Hid.mk' (D6.out.only (Only.set w6 b 6 (.int .i64 1)) hne)
 have Q7:=Hid.mk' ((Q1.out.base (B':=w.heap.size) (by have:=G2.out.size;simpa using this)).only (Only.set w6 b 6 (.int .i64 1)) (fun j hj e=>by omega))
 have E7:=E1
 clear E0 E1 Q0 Q0' Q1 A6 D6 A1 D1 lr0
 generalize hW:w6.setCell ⟨b,6,none⟩ (.int .i64 1)=W at *
 go_wp2_with fail
 have A8:At W.drew b (({s with ct:=1}:Sh).cells bd (.map none) (.slice none 0 0)):=A7.out.drew
 refine wp_region_held_drew (S:=fun w'=>At w' b (({s with ct:=1}:Sh).cells bd (.map none) (.slice none 0 0))) (by kernel_rfl) (A8) (fun hHeld=>?_)
 refine aN 0 ?_
 simp only[aF]
 refine aN 1 ?_
 simp only[aF]
 refine aN 2 ?_
 simp only[aF]
 refine bV 3 (fun _ h=>h.c 4 _ rfl) ?_
 simp only[aF]
 refine aN 4 ?_
 simp only[aF]
 refine aN 5 ?_
 simp only[aF]
 refine aN 6 ?_
 simp only[aF]
 refine bV 7 (fun _ h=>h.c 6 _ rfl) ?_
 simp only[aF]
 refine aN 8 ?_
 simp only[aF]
 refine aX 9 (f:=88) (args:=#[.pointer (some ⟨bd,0,none⟩),.int .i64 1,.int .i64 (bK s.dk.f1).2]) (by kernel_rfl) (by rfl) (by rfl) (by go_simp) ?_
 refine Calls.mono (kB bd s.dk 1 (bK s.dk.f1).2 _ D7.out.drew (by omega) (lW s.dk.f1) l1) ?_
 rintro e w8 ⟨rfl,d8,o8⟩
 have A9:=A8.only o8 (fun e=>hne e.symm)
 clear hHeld
 have hHeld:=A9
 refine ⟨_,rfl,hHeld,?_⟩
 simp only[aF]
 refine wpAnyH_done (by kernel_rfl) ?_ _
 have o9:Only W w8 (fun j=>j=bd):=((Only.refl W (fun j=>j=bd)).drew).trans (o8.mono (fun _ _ e=>.inl e))
 have C9:=Q7.out.only o9 (fun j hj e=>by omega)
 have RO:=Hid.mk' (show Ro w w8 b bd ({s with ct:=1}.on (s.dk.shorten 1 (bK s.dk.f1).2)) (.slice a1 rs1.length n1) rs1 0 from ⟨C9.row,d8,(O7.out.mono (fun _ _ e=>.inl e)).trans (o9.mono (fun _ _ e=>.inl (.inr e))),fun _=>⟨A9,C9⟩,by omega⟩)
 have SL:Hid (∀r∈rs1,(∃a k m,r.vi=.slice a k m)/\(∃a k m,r.vo=.slice a k m)):=Hid.mk' fun r hr=>by
  obtain ⟨x,y,h1⟩:=aJ (C9.oi r hr)
  obtain ⟨x',y',h2⟩:=aJ (C9.oo r hr)
  exact ⟨⟨_,_,_,h1⟩,⟨_,_,_,h2⟩⟩
 have zz:=(O7.out.size)
 clear A7 D7 Q7 O7 A8 A9 C9 d8 o8 o9 hHeld hg' HG c4 c5 c6 f6 a4 b4
 generalize hS0:({s with ct:=1}.on (s.dk.shorten 1 (bK s.dk.f1).2))=s0 at *
 rw[<- E7.out] at JJ
 have hpos:0<rs1.length:=by simpa using JJ.out.pos
 obtain ⟨n,hnn⟩:∃n,rs1.length=n:=⟨_,rfl⟩
 have HNN:=Hid.mk' hnn
 rw[hnn] at RO hpos lr1 ⊢
 clear hnn
 go_wp2_with fail
 go_loopw [56] (fun t wr=>∃k:Nat,k<=n/\t=.int .i64 k/\Ro w wr b bd s0 (.slice a1 n n1) rs1 k) (fun t _=>n -(intOf t).toNat)
 case atStart=>exact ⟨0,by omega,rfl,RO.out⟩
 case round=>
  obtain ⟨k,hk,rfl,hro⟩:=hrel
  have HRO:=Hid.mk' hro
  have zr:=hro.on.size
  clear hro
  by_cases hlt:k<n
  ·have hkl:k<rs1.length:=by rw[HNN.out];exact hlt
   obtain ⟨g,rfl⟩:∃g,a1=some ⟨g,0,none⟩:=by
    rcases HRO.out.row.2 with ⟨h',hn0⟩ | ⟨g,cap,cur,h',_⟩
    ·have:=HNN.out;omega
    ·injection h' with h1 h2 h3
     exact ⟨g,h1⟩
   have hrow:wr.ownsRow w.heap.size 139 13 (.slice (some ⟨g,0,none⟩) n n1) n (rs1.flatMap Rw.cells):=by
    have:=HRO.out.row
    rw[HNN.out] at this
    exact this
   obtain ⟨x,hx⟩:∃x,rs1[k]=x:=⟨_,rfl⟩
   have hxm:x∈rs1:=by rw[<- hx];exact List.getElem_mem hkl
   obtain ⟨⟨xa,xk,xm,hvi⟩,⟨ya,yk,ym,hvo⟩⟩:=SL.out x hxm
   have d:∀j (hj:j<13) u,x.cells[j]?=some u->wr.cell? ⟨g,k * 13+j,none⟩=some u:=fun j hj u hu=>by
    refine (hrow.cellAt (k * 13+j) (by omega)).trans ?_
    rw[Nat.mul_comm k 13,kW rs1 k j hkl hj,hx]
    exact hu
   have d0:=d 0 (by omega) _ rfl
   have d1:=d 1 (by omega) _ rfl
   have d2:=d 2 (by omega) _ rfl
   have d3:=d 3 (by omega) _ rfl
   have d4:=d 4 (by omega) _ rfl
   have d5:=d 5 (by omega) _ rfl
   have d6:=d 6 (by omega) _ rfl
   have d7:=d 7 (by omega) _ rfl
   have d8:=d 8 (by omega) _ rfl
   have d9:=d 9 (by omega) _ rfl
   have d10:=d 10 (by omega) _ rfl
   have d11:=d 11 (by omega) _ rfl
   have d12:=d 12 (by omega) _ rfl
   rw[Nat.add_zero] at d0
   rw[hvi] at d11
   rw[hvo] at d12
   have HX:=Hid.mk' hx
   clear d hx hxm hrow
   have y0:(0:Int)<=(k:Int):=by omega
   have y1:(k:Int)<(n:Int):=by omega
   by_cases hz:k=0
   ·subst hz
    obtain ⟨zA,zC⟩:=HRO.out.z rfl
    have hx0:=HX.out
    have hb0:=JJ.out.base (by simpa using hkl)
    rw[List.getElem_map,hx0] at hb0
    have hx1:x∈rs1:=by rw[<- hx0];exact List.getElem_mem hkl
    have oi:=zC.oi x hx1
    have oo:=zC.oo x hx1
    rw[hvi] at oi
    rw[hvo] at oo
    have ONB:Hid ((Value.slice ya yk ym).ownBlock≠some b):=Hid.mk' fun e=>by have:=(OwnE.lt oo b e).1;omega
    have GA:=Hid.mk' (World.grownBy_alloc wr (.cells #[.int .i64 6,.int .i64 x.p.seq,.int .i64 x.p.it.sh,.int .i64 x.p.it.nu,.float .f32 x.p.it.pl,.float .f32 x.p.it.sp,.int .i64 x.p.mks.g,.int .i64 x.p.mks.m,.int .i64 x.p.mks.s,.int .i64 x.p.mks.a,.int .i64 x.p.mks.n,.slice xa xk xm,.slice ya yk ym] 139) none)
    have DB:=Hid.mk' (rY w.heap.size b bd (.map none) (.slice none 0 0) s0 x.p.seq x.p.it x.p.mks x.p.items x.p.outs (.slice xa xk xm) (.slice ya yk ym) _ (zA.grown GA.out) (jH ((Only.grown GA.out).own oi (by simp))) ((Only.grown GA.out).own oo (by simp)) (Nat.le_trans zr GA.out.size) hb0.2.2 hb0.2.1 ONB.out)
    have hk6:=hb0.1
    rw[hk6] at d0
    clear zA zC oi oo hb0 hx0 hx1
    unfold rv at DB
    go_wp2_with fail
    refine Calls.mono DB.out ?_
    rintro e w3 ⟨rfl,bm,h3,o3,hm3⟩
    have H3:=Hid.mk' h3
    have O3:=Hid.mk' o3
    have M3:=Hid.mk' hm3
    clear h3 o3 hm3
    go_wp2
    refine ⟨⟨1,by omega,by go_num,HRO.out.first hbl hne hkl (bm:=bm) ?_ O3.out M3.out⟩,by simp[intOf];omega⟩
    rw[HX.out,hvo]
    have:s0.doR x.p=s0.doBase x.p.mks x.p.items x.p.outs:=by unfold Sh.doR;rw[if_pos hk6]
    rw[this]
    exact H3.out
   ·obtain ⟨bm,ov,h0,hbm,hvb,hvo'⟩:=HRO.out.p (by omega)
    have hx0:=HX.out
    have dok:=JJ.out.at (k:=k) (by omega) (by simpa using hkl)
    rw[List.getElem_map,hx0] at dok
    have GA:=Hid.mk' (World.grownBy_alloc wr (.cells #[.int .i64 x.p.kind,.int .i64 x.p.seq,.int .i64 x.p.it.sh,.int .i64 x.p.it.nu,.float .f32 x.p.it.pl,.float .f32 x.p.it.sp,.int .i64 x.p.mks.g,.int .i64 x.p.mks.m,.int .i64 x.p.mks.s,.int .i64 x.p.mks.a,.int .i64 x.p.mks.n,.slice xa xk xm,.slice ya yk ym] 139) none)
    have DB:=Hid.mk' (aAJ w.heap.size b bd bm ov _ x.p xa ya xk xm yk ym _ (h0.grown GA.out) dok)
    have HH0:=Hid.mk' h0
    have HVB:=Hid.mk' (And.intro hbm (And.intro hvb hvo'))
    clear h0 hbm hvb hvo' dok hx0
    unfold rv at DB
    go_wp2_with fail
    refine Calls.mono DB.out ?_
    rintro e w3 ⟨rfl,ov3,h3,o3,v3⟩
    have H3:=Hid.mk' h3
    have O3:=Hid.mk' o3
    have V3:=Hid.mk' v3
    clear h3 o3 v3
    go_wp2
    refine ⟨⟨k+1,by omega,by go_num,HRO.out.next hbl hdl hne hkl HH0.out HVB.out.1 HVB.out.2.1 HVB.out.2.2 ?_ O3.out V3.out⟩,by simp[intOf];omega⟩
    rw[HX.out]
    exact H3.out
  ·have hkn:k=n:=by omega
   subst hkn
   obtain ⟨bm,ov,h0,hbm,hvb,hvo'⟩:=HRO.out.p (by omega)
   rw[List.take_of_length_le (by rw[List.length_map,HNN.out];exact Nat.le_refl _),E7.out] at h0
   subst hS0
   have e5:=h0.at_.c 5 _ rfl
   have f5:=h0.at_.f 5
   have A5:=Hid.mk' (h0.at_.put 5 (.bool true) (by simp[Sh.cells]))
   have O5:=Hid.mk' (Only.set wr b 5 (.bool true))
   have HH0:=Hid.mk' h0
   have HBM:=Hid.mk' hbm
   clear h0 hbm hvb hvo'
   go_wp2
   go_ret
   refine ⟨rfl,bm,ov,⟨A5.out,HH0.out.mp.only O5.out HH0.out.n2,O5.out.own HH0.out.ob (fun j hj e=>HH0.out.n1 (by rw[<- e];exact hj)),HH0.out.n1,HH0.out.n2,HH0.out.n3,Nat.le_trans HH0.out.hB O5.out.size⟩,?_,HBM.out,HRO.out.on.trans (O5.out.mono (fun _ _ e=>.inl (.inl e)))⟩
   exact HRO.out.dk.only O5.out hne
def Dk.choice (d:Dk):Nat:=if bA (aR d.f0)<bA (aR d.f1) then 1 else 0
def Sh.begun (s:Sh):Sh:={s with ct:=s.dk.choice}.on (s.dk.shorten s.dk.choice (bK (s.dk.file s.dk.choice)).2)
def Sh.restart (s:Sh):Sh:={(aR (s.dk.file s.dk.choice)).foldl Sh.doR s.begun with up:=true}
theorem vZ (l:List Rc):∀s:Sh,(l.foldl Sh.doR s).up=s.up/\(l.foldl Sh.doR s).dk=s.dk/\(l.foldl Sh.doR s).ct=s.ct/\(l.foldl Sh.doR s).no=s.no/\(l.foldl Sh.doR s).cI=s.cI/\(l.foldl Sh.doR s).cO=s.cO/\(l.foldl Sh.doR s).cJ=s.cJ:=by
 induction l with
 | nil=>intro s;exact ⟨rfl,rfl,rfl,rfl,rfl,rfl,rfl⟩
 | cons x l ih=>
  intro s
  obtain ⟨a1,a2,a3,a4,a5,a6,a7⟩:=ih (s.doR x)
  obtain ⟨b1,b2,b3,b4,b5,b6,b7⟩:=sC s x
  exact ⟨a1.trans b1,a2.trans b2,a3.trans b3,a4.trans b4,a5.trans b5,a6.trans b6,a7.trans b7⟩
theorem Dk.Ok.shorten {d:Dk}(ok:d.Ok)(c k:Nat)(hk:k<=(d.file c).length):(d.shorten c k).Ok:=by
 refine ok.put c _ _ ?_ ?_
 ·rw[List.length_take];omega
 ·rw[List.length_take]
  unfold Dk.file
  split
  ·have:=ok.b0;omega
  ·have:=ok.b1;omega
theorem sJ (b:Nat)(s:Sh)(F:Nat->Prop)(w:World)(h:PS w b s F)(hu:s.up=false)(hj:Jnl s.begun (aR (s.dk.file s.dk.choice))):
  Calls prog 43 #[.pointer (some ⟨b,0,none⟩)] w fun e w'=>e=.returned (.int .i64 0)/\PS w' b s.restart (NX w w' F)/\Only w w' F:=by
 obtain ⟨bd,⟨hu',_⟩ | ⟨_,p⟩⟩:=h
 ·rw[hu] at hu';cases hu'
 have fin:∀(c:Nat),s.dk.choice=c->∀(e:Ending) (w':World),(e=.returned (.int .i64 0)/\∃bm ov,HS w' w.heap.size b {(aR (s.dk.file c)).foldl Sh.doR ({s with ct:=c}.on (s.dk.shorten c (bK (s.dk.file c)).2)) with up:=true} bd bm ov/\At w' bd (s.dk.shorten c (bK (s.dk.file c)).2).cells/\w.heap.size<=bm/\Only w w' (fun j=>j=b∨j=bd))->e=.returned (.int .i64 0)/\PS w' b s.restart (NX w w' F)/\Only w w' F:=by
  rintro c hc e w' ⟨he,bm,ov,h1,h2,h3,o⟩
  have hdk:s.restart.dk=s.dk.shorten c (bK (s.dk.file c)).2:=by
   unfold Sh.restart Sh.begun
   rw[hc]
   exact (vZ _ _).2.1
  have hd:=p.dk.lt
  have ol:=h1.ob.lt
  have h1':HS w' w.heap.size b s.restart bd bm ov:=by
   unfold Sh.restart Sh.begun
   rw[hc]
   exact h1
  refine ⟨he,⟨bd,.inl ⟨rfl,w.heap.size,bm,ov,⟨h1',by rw[hdk];exact h2,by rw[hdk];exact p.ok.shorten c _ (lW _),p.d1,by omega,fun e=>by have:=(ol bd e).1;omega⟩,⟨.inl p.f1,h1.at_.lt⟩,⟨.inl p.f2,h2.lt⟩,⟨.inr h3,h1.mp.lt⟩,fun j hj=>⟨.inr (ol j hj).1,(ol j hj).2⟩⟩⟩,o.mono (fun j _ e=>?_)⟩
  rcases e with rfl | rfl
  ·exact p.f1
  ·exact p.f2
 unfold Sh.begun at hj
 by_cases hg:bA (aR s.dk.f0)<bA (aR s.dk.f1)
 ·have hc:s.dk.choice=1:=if_pos hg
  rw[hc] at hj
  exact (aDu b bd s w p.at_ p.dk p.ok p.d1 hu hg hj).mono (fin 1 hc)
 ·have hc:s.dk.choice=0:=if_neg hg
  rw[hc] at hj
  exact (aDt b bd s w p.at_ p.dk p.ok p.d1 hu hg hj).mono (fin 0 hc)
theorem aBU {x:Nat}(h0:2147483648<=x)(h1:x<4294967296):iB x=x -2147483648:=by
 have h:=mM x h0 h1 default
 have h':(Op.unary UnOp.neg (.float .f32 x)).run prog default=.ok (.float .f32 (iB x)) default:=rfl
 rw[h'] at h
 injection h with h _
 injection h
theorem aBV {x:Nat}(h1:x<2147483648):iB x=x+2147483648:=by
 have h:=nK x h1 default
 have h':(Op.unary UnOp.neg (.float .f32 x)).run prog default=.ok (.float .f32 (iB x)) default:=rfl
 rw[h'] at h
 injection h with h _
 injection h
theorem aHG {x:Nat}(h:x<4294967296):iB x<4294967296:=by
 by_cases h0:2147483648<=x
 ·rw[aBU h0 h];omega
 ·rw[aBV (by omega)];omega
theorem aGa {x:Nat}(h:x<4294967296){s:Bool}{m:Nat}{e:Int}(hr:Ieee.Format.read FloatKind.f32.format x=.number s m e):Ieee.Format.read FloatKind.f32.format (iB x)=.number (!s) m e:=by
 have key:∀a b:Nat,a<2147483648->b=a+2147483648->∀(m:Nat) (e:Int),(Ieee.Format.read FloatKind.f32.format a=.number false m e↔Ieee.Format.read FloatKind.f32.format b=.number true m e)/\(∀s,Ieee.Format.read FloatKind.f32.format a=.number s m e->s=false)/\(∀s,Ieee.Format.read FloatKind.f32.format b=.number s m e->s=true):=by
  rintro a b ha rfl m e
  have hw:(FloatKind.f32.format.signWeight)=2147483648:=by decide+kernel
  have e1:a / 2147483648 % 2=0:=by omega
  have e2:a % 2147483648=a:=by omega
  have e3:(a+2147483648) / 2147483648 % 2=1:=by omega
  have e4:(a+2147483648) % 2147483648=a:=by omega
  unfold Ieee.Format.read
  simp only[hw,e1,e2,e3,e4]
  refine ⟨?_,?_,?_⟩
  ·split
   ·simp
   ·split
    ·simp
    ·split<;>simp
  ·intro s
   split
   ·simp;intro h1 _ _;exact h1
   ·split
    ·simp;intro h1 _ _;exact h1
    ·split<;>simp
  ·intro s
   split
   ·simp;intro h1 _ _;exact h1
   ·split
    ·simp;intro h1 _ _;exact h1
    ·split<;>simp
 by_cases h0:2147483648<=x
 ·rw[aBU h0 h]
  obtain ⟨k1,_,k3⟩:=key (x -2147483648) x (by omega) (by omega) m e
  obtain rfl:=k3 s hr
  exact k1.2 hr
 ·rw[aBV (by omega)]
  obtain ⟨k1,k2,_⟩:=key x (x+2147483648) (by omega) rfl m e
  obtain rfl:=k2 s hr
  exact k1.1 hr
theorem sK (s:Bool)(m k:Nat):Ieee.signed (!s) m k=- Ieee.signed s m k:=by
 cases s<;>simp[Ieee.signed]
theorem aGb {x:Nat}(hx:x<4294967296)(h:aS x=true):aS (iB x)=true:=by
 obtain ⟨s,m,e,hr⟩:=lQ h
 have hr':=aGa hx hr
 simp only[aS,Bool.and_eq_true,Bool.or_eq_true,beq_iff_eq,Ieee.Format.order] at h ⊢
 have e1:Ieee.Format.read FloatKind.f32.format 3296329728=.number true 16384000 (-14):=by decide+kernel
 have e2:Ieee.Format.read FloatKind.f32.format 1148846080=.number false 16384000 (-14):=by decide+kernel
 rw[e1,e2,hr] at h
 rw[e1,e2,hr']
 simp only[Ieee.Datum.order,Option.some.injEq,Int.compare_eq_lt,Int.compare_eq_eq,sK] at h ⊢
 have a1:∀k,Ieee.signed true 16384000 k=- Ieee.signed false 16384000 k:=fun k=>sK false 16384000 k
 rw[a1] at h ⊢
 rw[Int.min_comm e (-14)] at *
 omega
theorem aBW (neg:Bool)(r:Nat)(hr:r<=2139095040):Ieee.Format.word FloatKind.f32.format neg r<4294967296:=by
 show (if neg=true then (2147483648+r) else r)<4294967296
 split<;>omega
theorem aHH {x y:Nat}(hx:aS x=true)(hy:aS y=true):bM x y<4294967296:=by
 obtain ⟨s,m,e,h1⟩:=lQ hx
 obtain ⟨s',m',e',h2⟩:=lQ hy
 have h3:∃a b c,FloatKind.f32.format.add x y=some (Ieee.Format.nearest FloatKind.f32.format a b c):=by
  unfold Ieee.Format.add
  rw[h1,h2]
  exact ⟨_,_,_,rfl⟩
 obtain ⟨a,b,c,h3⟩:=h3
 unfold bM
 rw[h3]
 show Ieee.Format.nearest FloatKind.f32.format a b c<_
 unfold Ieee.Format.nearest
 dsimp only
 split
 ·exact aBW a 0 (by omega)
 ·exact aBW a _ (by
   have hi:(FloatKind.f32.format.infRung)=2139095040:=by decide+kernel
   rw[hi]
   exact Nat.min_le_right _ _)
structure Ds where
 it:List It
 ob:List En
 ms:Mk
def Ds.tickOne (no:Nat)(cO:Int)(a:Ds)(i:It):Ds:=
 if aS (bM i.pl i.sp)=false then {a with it:=a.it++[⟨i.sh,i.nu,i.pl,iB i.sp⟩]}
 else if cK (bM i.pl i.sp)=(no:Int) then {a with it:=a.it++[⟨i.sh,i.nu,bM i.pl i.sp,i.sp⟩]}
 else if (a.ob.length:Int)<cO/\a.ms.s<65535 then ⟨a.it,a.ob++[⟨a.ms.s+1,⟨i.sh,i.nu,bM i.pl i.sp,i.sp⟩⟩],{a.ms with s:=a.ms.s+1}⟩
 else {a with it:=a.it++[i]}
def Ds.tick (no:Nat)(cO:Int)(d:Ds):Ds:=d.it.foldl (Ds.tickOne no cO) ⟨[],d.ob,d.ms⟩
def Ds.doR (no:Nat)(cO:Int)(d:Ds)(r:Rc):Ds:=
 if r.kind=1 then ⟨iH r.it d.it,d.ob,{d.ms with m:=r.it.nu}⟩
 else if r.kind=2 then ⟨eJ d.it r.it.sh r.it.nu,d.ob,d.ms⟩
 else if r.kind=3 then d.tick no cO
 else if r.kind=4 then ⟨iH r.it d.it,d.ob,{d.ms with n:=r.seq}⟩
 else if r.kind=5 then ⟨d.it,bY r.seq d.ob,{d.ms with a:=r.seq}⟩
 else d
def Sh.ds (s:Sh):Ds:=⟨cH s.th,s.ob,s.ms⟩
theorem aGc {l m:List It}(nd:l.Pairwise (fun a b=>¬a.same b))(p:l.Perm m):cH l=cH m:=
 vU (fS nd) (fS (mN p.symm nd)) ((bG l).trans (p.trans (bG m).symm))
theorem aAT {l m:List It}(h:vS m)(p:l.Perm m):cH l=m:=by
 rw[aGc (mN p (h.imp pX)) p,yC h]
theorem yS {l m:List It}(p:l.Perm m)(a b:Int):(eJ l a b).Perm (eJ m a b):=p.filter _
theorem aHI {l:List It}(nd:l.Pairwise (fun a b=>¬a.same b))(a b:Int):cH (eJ l a b)=eJ (cH l) a b:=
 aAT (List.Pairwise.filter _ (fS nd)) (yS (bG l).symm a b)
theorem aBX {l:List It}{i:It}(h:∀x∈l,¬x.same i):dB l i=l++[i]:=by
 unfold dB
 rw[if_neg]
 simp only[List.any_eq_true,decide_eq_true_eq,not_exists,not_and]
 exact fun x hx e1 e2=>h x hx ⟨e1,e2⟩
theorem aBY {l:List It}{i:It}(nd:l.Pairwise (fun a b=>¬a.same b))(h:∀x∈l,¬x.same i):cH (dB l i)=iH i (cH l):=by
 rw[aBX h]
 refine aAT (lV (fS nd) (fun y hy=>h y ((bG l).mem_iff.1 hy))) ?_
 refine List.perm_append_comm.trans ?_
 exact ((bG l).symm.cons i).trans (iW i _).symm
theorem aBZ {p q:List It}{i j:It}{l:List It}(hp:l.Perm (p++i::q))(hs:i.same j)(n1:∀x∈p,¬x.same j)(n2:∀x∈q,¬x.same j):(dB l j).Perm (p++j::q):=by
 unfold dB
 rw[if_pos]
 ·refine (hp.map _).trans ?_
  rw[List.map_append,List.map_cons,if_pos hs]
  rw[List.map_congr_left (f:=fun x=>if x.same j then j else x) (g:=id) (l:=p) (fun x hx=>if_neg (n1 x hx)),List.map_congr_left (f:=fun x=>if x.same j then j else x) (g:=id) (l:=q) (fun x hx=>if_neg (n2 x hx)),List.map_id,List.map_id]
 ·rw[List.any_eq_true]
  exact ⟨i,hp.mem_iff.2 (by simp),decide_eq_true hs⟩
theorem aHJ {p q:List It}{i:It}{l:List It}(hp:l.Perm (p++i::q))(n1:∀x∈p,¬x.same i)(n2:∀x∈q,¬x.same i):(eJ l i.sh i.nu).Perm (p++q):=by
 refine (yS hp i.sh i.nu).trans ?_
 unfold eJ
 rw[List.filter_append,List.filter_cons_of_neg (by simp)]
 rw[List.filter_eq_self.2,List.filter_eq_self.2]
 ·intro x hx
  have:=n2 x hx
  unfold It.same at this
  rw[decide_eq_false this];rfl
 ·intro x hx
  have:=n1 x hx
  unfold It.same at this
  rw[decide_eq_false this];rfl
theorem wA {p q:List It}{i j:It}(hs:i.same j)(h:vS (p++i::q)):vS (p++j::q):=by
 unfold vS at *
 rw[List.pairwise_append,List.pairwise_cons] at *
 obtain ⟨h1,⟨h2,h3⟩,h4⟩:=h
 unfold It.same at hs
 refine ⟨h1,⟨fun x hx=>?_,h3⟩,fun x hx y hy=>?_⟩
 ·have:=h2 x hx
  unfold lt at *
  omega
 ·rcases List.mem_cons.1 hy with rfl | hy
  ·have:=h4 x hx i (.head _)
   unfold lt at *
   omega
  ·exact h4 x hx y (.tail _ hy)
theorem wC {p q:List It}{i:It}(h:vS (p++i::q)):(∀x∈p,¬x.same i)/\(∀x∈q,¬x.same i)/\vS (p++q):=by
 unfold vS at *
 rw[List.pairwise_append,List.pairwise_cons] at *
 obtain ⟨h1,⟨h2,h3⟩,h4⟩:=h
 refine ⟨fun x hx=>pX (h4 x hx i (.head _)),fun x hx e=>pX (h2 x hx) (by unfold It.same at *;omega),h1,h3,fun x hx y hy=>h4 x hx y (.tail _ hy)⟩
theorem kK (no:Nat)(cO:Int):∀(q:List It) (s:Sh) (a:Ds),s.no=no->s.cO=cO->s.th.Perm (a.it++q)->vS (a.it++q)->s.ob=a.ob->s.ms=a.ms→
  (q.foldl Sh.driftOne s).ds=q.foldl (Ds.tickOne no cO) a
 | [],s,a,_,_,hp,ho,h1,h2=>by
  rw[List.append_nil] at hp ho
  show (⟨cH s.th,s.ob,s.ms⟩:Ds)=a
  rw[aAT ho hp,h1,h2]
 | i::q,s,a,hn,hc,hp,ho,h1,h2=>by
  obtain ⟨n1,n2,o2⟩:=wC ho
  have up:=qA s i
  have u1:=up.2.2.2.1.trans hn
  have u2:=up.2.2.2.2.2.1.trans hc
  have e0:∀(j:It),i.same j->(∀x∈a.it,¬x.same j)/\(∀x∈q,¬x.same j):=fun j hj=>⟨fun x hx e=>n1 x hx (by unfold It.same at *;omega),fun x hx e=>n2 x hx (by unfold It.same at *;omega)⟩
  rw[List.foldl_cons,List.foldl_cons]
  by_cases c1:aS (bM i.pl i.sp)=false
  ·have e1:s.driftOne i={s with th:=dB s.th ⟨i.sh,i.nu,i.pl,iB i.sp⟩}:=if_pos c1
   have e2:a.tickOne no cO i={a with it:=a.it++[⟨i.sh,i.nu,i.pl,iB i.sp⟩]}:=if_pos c1
   rw[e1] at u1 u2 ⊢
   rw[e2]
   refine kK no cO q _ _ u1 u2 ?_ ?_ h1 h2
   ·simp only[List.append_assoc,List.singleton_append]
    exact aBZ (i:=i) hp ⟨rfl,rfl⟩ (e0 _ ⟨rfl,rfl⟩).1 (e0 _ ⟨rfl,rfl⟩).2
   ·simp only[List.append_assoc,List.singleton_append]
    exact wA (i:=i) ⟨rfl,rfl⟩ ho
  by_cases c2:cK (bM i.pl i.sp)=(no:Int)
  ·have e1:s.driftOne i={s with th:=dB s.th ⟨i.sh,i.nu,bM i.pl i.sp,i.sp⟩}:=by
    unfold Sh.driftOne
    rw[if_neg c1,hn,if_pos c2]
   have e2:a.tickOne no cO i={a with it:=a.it++[⟨i.sh,i.nu,bM i.pl i.sp,i.sp⟩]}:=by
    unfold Ds.tickOne
    rw[if_neg c1,if_pos c2]
   rw[e1] at u1 u2 ⊢
   rw[e2]
   refine kK no cO q _ _ u1 u2 ?_ ?_ h1 h2
   ·simp only[List.append_assoc,List.singleton_append]
    exact aBZ (i:=i) hp ⟨rfl,rfl⟩ (e0 _ ⟨rfl,rfl⟩).1 (e0 _ ⟨rfl,rfl⟩).2
   ·simp only[List.append_assoc,List.singleton_append]
    exact wA (i:=i) ⟨rfl,rfl⟩ ho
  have c3':s.mayLeave=decide ((a.ob.length:Int)<cO/\a.ms.s<65535):=by unfold Sh.mayLeave;rw[h1,h2,hc];simp
  by_cases c3:(a.ob.length:Int)<cO/\a.ms.s<65535
  ·have e1:s.driftOne i=s.leave ⟨i.sh,i.nu,bM i.pl i.sp,i.sp⟩:=by
    unfold Sh.driftOne
    rw[if_neg c1,hn,if_neg c2,c3',if_pos (decide_eq_true c3)]
   have e2:a.tickOne no cO i=⟨a.it,a.ob++[⟨a.ms.s+1,⟨i.sh,i.nu,bM i.pl i.sp,i.sp⟩⟩],{a.ms with s:=a.ms.s+1}⟩:=by
    unfold Ds.tickOne
    rw[if_neg c1,if_neg c2,if_pos c3]
   rw[e1] at u1 u2 ⊢
   rw[e2]
   refine kK no cO q _ _ u1 u2 ?_ o2 ?_ ?_
   ·exact aHJ (i:=i) hp n1 n2
   ·show s.ob++[⟨s.ms.s+1,_⟩]=_
    rw[h1,h2]
   ·show ({s.ms with s:=s.ms.s+1}:Mk)=_
    rw[h2]
  ·have e1:s.driftOne i=s:=by
    unfold Sh.driftOne
    rw[if_neg c1,hn,if_neg c2,c3',if_neg (by simpa using c3)]
   have e2:a.tickOne no cO i={a with it:=a.it++[i]}:=by
    unfold Ds.tickOne
    rw[if_neg c1,if_neg c2,if_neg c3]
   rw[e1,e2]
   refine kK no cO q _ _ hn hc ?_ ?_ h1 h2
   ·simpa using hp
   ·simpa using ho
theorem aHK {s:Sh}{r:Rc}(nd:s.th.Pairwise (fun a b=>¬a.same b))(hk:r.kind≠6)(hn:r.kind=1∨r.kind=4->∀x∈s.th,¬x.same r.it):(s.doR r).ds=s.ds.doR s.no s.cO r:=by
 unfold Sh.doR Ds.doR
 rw[if_neg hk]
 by_cases k1:r.kind=1
 ·rw[if_pos k1,if_pos k1]
  show (⟨cH (dB s.th r.it),_,_⟩:Ds)=_
  rw[aBY nd (hn (.inl k1))]
  rfl
 rw[if_neg k1,if_neg k1]
 by_cases k2:r.kind=2
 ·rw[if_pos k2,if_pos k2]
  show (⟨cH (eJ s.th _ _),_,_⟩:Ds)=_
  rw[aHI nd]
  rfl
 rw[if_neg k2,if_neg k2]
 by_cases k3:r.kind=3
 ·rw[if_pos k3,if_pos k3]
  exact kK s.no s.cO (cH s.th) s ⟨[],s.ob,s.ms⟩ rfl rfl (bG s.th).symm (fS nd) rfl rfl
 rw[if_neg k3,if_neg k3]
 by_cases k4:r.kind=4
 ·rw[if_pos k4,if_pos k4]
  show (⟨cH (dB s.th r.it),_,_⟩:Ds)=_
  rw[aBY nd (hn (.inr k4))]
  rfl
 rw[if_neg k4,if_neg k4]
 by_cases k5:r.kind=5
 ·rw[if_pos k5,if_pos k5]
  rfl
 rw[if_neg k5,if_neg k5]
structure HasD (no:Nat)(cI cO:Int)(d:Ds):Prop where
 ord:vS d.it
 it:∀x∈d.it,eF x=true/\WfIt x
 tl:(d.it.length:Int)<=cI
 ol:(d.ob.length:Int)<=cO
 en:∀e∈d.ob,eF e.it=true/\WfIt e.it/\e.sq<=d.ms.s
 oc:fD 0 d.ob=true
 mo:MkOk d.ms
 mi:∀x∈d.it,x.sh=(no:Int)->x.nu<=d.ms.m
theorem yT:∀(es:List En) (l:Int) (e:En),fD l es=true->l<e.sq->(∀x∈es,x.sq<e.sq)->eE e.sq=true->eF e.it=true->fD l (es++[e])=true
 | [],l,e,_,h2,_,h4,h5=>by
  show (decide (l<e.sq)&&eE e.sq&&eF e.it&&true)=true
  rw[decide_eq_true h2,h4,h5];rfl
 | x::t,l,e,h1,_,h3,h4,h5=>by
  have h1':(decide (l<x.sq)&&eE x.sq&&eF x.it&&fD x.sq t)=true:=h1
  simp only[Bool.and_eq_true] at h1'
  show (decide (l<x.sq)&&eE x.sq&&eF x.it&&fD x.sq (t++[e]))=true
  rw[h1'.1.1.1,h1'.1.1.2,h1'.1.2,yT t x.sq e h1'.2 (h3 x (.head _)) (fun y hy=>h3 y (.tail _ hy)) h4 h5]
  rfl
theorem HasD.repl {no:Nat}{cI cO:Int}{p q:List It}{i j:It}{ob:List En}{ms:Mk}(h:HasD no cI cO ⟨p++i::q,ob,ms⟩)(hs:i.same j)(hj:eF j=true/\WfIt j):HasD no cI cO ⟨p++j::q,ob,ms⟩:=by
 have key:∀x,x∈p++j::q->x=j∨x∈p++i::q:=fun x hx=>by
  simp only[List.mem_append,List.mem_cons] at hx ⊢
  rcases hx with h | h | h
  ·exact .inr (.inl h)
  ·exact .inl h
  ·exact .inr (.inr (.inr h))
 refine ⟨wA hs h.ord,fun x hx=>?_,by have:=h.tl;simpa using this,h.ol,h.en,h.oc,h.mo,fun x hx e=>?_⟩
 ·rcases key x hx with rfl | hx
  ·exact hj
  ·exact h.it x hx
 ·rcases key x hx with rfl | hx
  ·unfold It.same at hs
   have:i.nu<=ms.m:=h.mi i (by simp) (by omega)
   show x.nu<=ms.m
   omega
  ·exact h.mi x hx e
theorem fI {i:It}(h:eF i=true):pA i.sh i.nu=true/\aS i.pl=true/\aS i.sp=true:=by
 simp only[eF,Bool.and_eq_true] at h
 exact ⟨h.1.1,h.1.2,h.2⟩
theorem HasD.tickOne {no:Nat}{cI cO:Int}{a:Ds}{i:It}{q:List It}(h:HasD no cI cO ⟨a.it++i::q,a.ob,a.ms⟩):HasD no cI cO ⟨(a.tickOne no cO i).it++q,(a.tickOne no cO i).ob,(a.tickOne no cO i).ms⟩:=by
 obtain ⟨hi,wi⟩:=h.it i (by simp)
 obtain ⟨b1,b2,b3⟩:=fI hi
 have al:=aHH b2 b3
 unfold Ds.tickOne
 by_cases c1:aS (bM i.pl i.sp)=false
 ·rw[if_pos c1]
  simp only[List.append_assoc,List.singleton_append]
  exact h.repl (i:=i) ⟨rfl,rfl⟩ ⟨by simp only[eF];rw[b1,b2,aGb wi.s b3];rfl,wi.p,aHG wi.s⟩
 rw[if_neg c1]
 have c1':aS (bM i.pl i.sp)=true:=by simpa using c1
 have hj:eF ⟨i.sh,i.nu,bM i.pl i.sp,i.sp⟩=true/\WfIt ⟨i.sh,i.nu,bM i.pl i.sp,i.sp⟩:=⟨by simp only[eF];rw[b1,c1',b3];rfl,al,wi.s⟩
 by_cases c2:cK (bM i.pl i.sp)=(no:Int)
 ·rw[if_pos c2]
  simp only[List.append_assoc,List.singleton_append]
  exact h.repl (i:=i) ⟨rfl,rfl⟩ hj
 rw[if_neg c2]
 by_cases c3:(a.ob.length:Int)<cO/\a.ms.s<65535
 ·rw[if_pos c3]
  have m0:=h.mo.s0
  have sub:∀x,x∈a.it++q->x∈a.it++i::q:=fun x hx=>by
   simp only[List.mem_append,List.mem_cons] at hx ⊢
   rcases hx with h | h
   ·exact .inl h
   ·exact .inr (.inr h)
  refine ⟨(wC h.ord).2.2,fun x hx=>h.it x (sub x hx),?_,?_,fun e he=>?_,?_,⟨h.mo.g0,h.mo.g1,h.mo.m0,h.mo.m1,?_,?_,h.mo.a0,h.mo.a1,h.mo.n0,h.mo.n1⟩,fun x hx hs=>h.mi x (sub x hx) hs⟩
  ·have:=h.tl
   simp at this ⊢
   omega
  ·show (((a.ob++[_]).length:Nat):Int)<=cO
   rw[List.length_append]
   simp only[List.length_singleton]
   omega
  ·rcases List.mem_append.1 he with he | he
   ·have:=h.en e he
    exact ⟨this.1,this.2.1,by have:=this.2.2;show e.sq<=a.ms.s+1;simp only at this;omega⟩
   ·obtain rfl:=List.mem_singleton.1 he
    exact ⟨hj.1,hj.2,Int.le_refl _⟩
  ·refine yT _ _ _ h.oc (by show (0:Int)<a.ms.s+1;simp only at m0;omega) (fun x hx=>by have:=(h.en x hx).2.2;show x.sq<a.ms.s+1;simp only at this;omega) ?_ hj.1
   show eE (a.ms.s+1)=true
   simp only at m0
   simp[eE];omega
  ·show 0<=a.ms.s+1
   simp only at m0
   omega
  ·show a.ms.s+1<=65535
   omega
 ·rw[if_neg c3]
  simpa using h
theorem HasD.ticks {no:Nat}{cI cO:Int}:∀(q:List It) (a:Ds),HasD no cI cO ⟨a.it++q,a.ob,a.ms⟩->HasD no cI cO (q.foldl (Ds.tickOne no cO) a)
 | [],a,h=>by simpa using h
 | i::q,a,h=>by
  rw[List.foldl_cons]
  exact HasD.ticks q _ h.tickOne
theorem HasD.tick {no:Nat}{cI cO:Int}{d:Ds}(h:HasD no cI cO d):HasD no cI cO (d.tick no cO):=
 HasD.ticks d.it ⟨[],d.ob,d.ms⟩ h
structure DOk (no:Nat)(cI:Int)(d:Ds)(r:Rc):Prop where
 kind:r.kind=1∨r.kind=2∨r.kind=3∨r.kind=4∨r.kind=5
 mint:r.kind=1->r.it.sh=(no:Int)/\r.it.nu=d.ms.m+1/\d.ms.m<65535/\(d.it.length:Int)<cI/\eF r.it=true/\WfIt r.it
 dest:r.kind=2->∃x∈d.it,x.same r.it
 ids:bD r.it.sh/\bD r.it.nu
 arr:r.kind=4->r.seq=d.ms.n+1/\d.ms.n<65535/\(d.it.length:Int)<cI/\eF r.it=true/\WfIt r.it/\(∀x∈d.it,¬x.same r.it)/\(r.it.sh=(no:Int)->r.it.nu<=d.ms.m)
 ack:r.kind=5->d.ms.a<r.seq/\r.seq<=d.ms.s
theorem HasD.none {no:Nat}{cI cO:Int}{d:Ds}{r:Rc}(h:HasD no cI cO d)(ok:DOk no cI d r)(h1:r.kind=1∨r.kind=4):∀x∈d.it,¬x.same r.it:=fun x hx e=>by
 rcases h1 with h1 | h1
 ·obtain ⟨a1,a2,_⟩:=ok.mint h1
  unfold It.same at e
  have:=h.mi x hx (by omega)
  omega
 ·exact (ok.arr h1).2.2.2.2.2.1 x hx e
theorem aDv:∀(es:List En) {l m:Int},fD m es=true->l<=m->fD l es=true
 | [],_,_,_,_=>rfl
 | e::t,l,m,h,hl=>by
  have h':(decide (m<e.sq)&&eE e.sq&&eF e.it&&fD e.sq t)=true:=h
  simp only[Bool.and_eq_true] at h'
  show (decide (l<e.sq)&&eE e.sq&&eF e.it&&fD e.sq t)=true
  have:=of_decide_eq_true h'.1.1.1
  rw[decide_eq_true (by omega:l<e.sq),h'.1.1.2,h'.1.2,h'.2]
  rfl
theorem mB (p:En->Bool):∀(es:List En) {l:Int},fD l es=true->fD l (es.filter p)=true
 | [],_,_=>rfl
 | e::t,l,h=>by
  have h':(decide (l<e.sq)&&eE e.sq&&eF e.it&&fD e.sq t)=true:=h
  simp only[Bool.and_eq_true] at h'
  have hl:=of_decide_eq_true h'.1.1.1
  cases hp:p e
  ·rw[List.filter_cons_of_neg (by simp[hp])]
   exact aDv _ (mB p t h'.2) (by omega)
  ·rw[List.filter_cons_of_pos (by simp[hp])]
   show (decide (l<e.sq)&&eE e.sq&&eF e.it&&fD e.sq (t.filter p))=true
   rw[h'.1.1.1,h'.1.1.2,h'.1.2,mB p t h'.2]
   rfl
theorem aDw {q:Int}{es:List En}{e:En}(h:e∈bY q es):e∈es/\q<e.sq:=by
 obtain ⟨h1,h2⟩:=List.mem_filter.1 h
 refine ⟨h1,?_⟩
 simp only[mS,Bool.not_eq_true',decide_eq_false_iff_not] at h2
 omega
theorem HasD.doR {no:Nat}{cI cO:Int}{d:Ds}{r:Rc}(h:HasD no cI cO d)(ok:DOk no cI d r):HasD no cI cO (d.doR no cO r):=by
 unfold Ds.doR
 have mem:∀x,x∈iH r.it d.it->x=r.it∨x∈d.it:=fun x hx=>by simpa using (iW r.it d.it).mem_iff.1 hx
 have len:=(iW r.it d.it).length_eq
 rcases ok.kind with k | k | k | k | k
 ·rw[if_pos k]
  obtain ⟨a1,a2,a3,a4,a5,a6⟩:=ok.mint k
  have nn:=h.none ok (.inl k)
  have m0:=h.mo.m0
  refine ⟨lV h.ord nn,fun x hx=>?_,?_,h.ol,h.en,h.oc,⟨h.mo.g0,h.mo.g1,?_,?_,h.mo.s0,h.mo.s1,h.mo.a0,h.mo.a1,h.mo.n0,h.mo.n1⟩,fun x hx hs=>?_⟩
  ·rcases mem x hx with rfl | hx
   ·exact ⟨a5,a6⟩
   ·exact h.it x hx
  ·simp only[len,List.length_cons]
   omega
  ·show 0<=r.it.nu
   omega
  ·show r.it.nu<=65535
   omega
  ·show x.nu<=r.it.nu
   rcases mem x hx with rfl | hx
   ·exact Int.le_refl _
   ·have:=h.mi x hx hs
    omega
 ·rw[if_neg (by omega),if_pos k]
  refine ⟨List.Pairwise.filter _ h.ord,fun x hx=>h.it x (List.mem_filter.1 hx).1,?_,h.ol,h.en,h.oc,h.mo,fun x hx hs=>h.mi x (List.mem_filter.1 hx).1 hs⟩
  have:(eJ d.it r.it.sh r.it.nu).length<=d.it.length:=List.length_filter_le ..
  have:=h.tl
  show ((eJ d.it r.it.sh r.it.nu).length:Int)<=cI
  omega
 ·rw[if_neg (by omega),if_neg (by omega),if_pos k]
  exact h.tick
 ·rw[if_neg (by omega),if_neg (by omega),if_neg (by omega),if_pos k]
  obtain ⟨a1,a2,a3,a4,a5,a6,a7⟩:=ok.arr k
  have n0:=h.mo.n0
  refine ⟨lV h.ord a6,fun x hx=>?_,?_,h.ol,h.en,h.oc,⟨h.mo.g0,h.mo.g1,h.mo.m0,h.mo.m1,h.mo.s0,h.mo.s1,h.mo.a0,h.mo.a1,?_,?_⟩,fun x hx hs=>?_⟩
  ·rcases mem x hx with rfl | hx
   ·exact ⟨a4,a5⟩
   ·exact h.it x hx
  ·simp only[len,List.length_cons]
   omega
  ·show 0<=r.seq
   omega
  ·show r.seq<=65535
   omega
  ·rcases mem x hx with rfl | hx
   ·exact a7 hs
   ·exact h.mi x hx hs
 ·rw[if_neg (by omega),if_neg (by omega),if_neg (by omega),if_neg (by omega),if_pos k]
  obtain ⟨a1,a2⟩:=ok.ack k
  have s1:=h.mo.s1
  have a0:=h.mo.a0
  refine ⟨h.ord,h.it,h.tl,?_,fun e he=>h.en e (aDw he).1,mB _ _ h.oc,⟨h.mo.g0,h.mo.g1,h.mo.m0,h.mo.m1,h.mo.s0,h.mo.s1,?_,?_,h.mo.n0,h.mo.n1⟩,h.mi⟩
  ·have:(bY r.seq d.ob).length<=d.ob.length:=List.length_filter_le ..
   have:=h.ol
   show ((bY r.seq d.ob).length:Int)<=cO
   omega
  ·show 0<=r.seq
   omega
  ·show r.seq<=65535
   omega
def fZ (no:Nat)(cO:Int):List Rc->Ds
 | []=>⟨[],[],aZ⟩
 | b::t=>t.foldl (Ds.doR no cO) ⟨b.items,b.outs,b.mks⟩
theorem iX {no:Nat}{cO:Int}{rs:List Rc}(h:0<rs.length)(r:Rc):fZ no cO (rs++[r])=(fZ no cO rs).doR no cO r:=by
 cases rs with
 | nil=>simp at h
 | cons b t=>show (t++[r]).foldl _ _=_;rw[List.foldl_append];rfl
def Rp (no:Nat)(cI cO:Int)(rs:List Rc)(d:Ds):Prop:=
 ∃b t,rs=b::t/\b.kind=6/\HasD no cI cO ⟨b.items,b.outs,b.mks⟩/\d=fZ no cO rs/\∀k (hk:k<t.length),DOk no cI (fZ no cO (b::t.take k)) t[k]
theorem Rp.base {no:Nat}{cI cO:Int}(b:Rc)(hk:b.kind=6)(h:HasD no cI cO ⟨b.items,b.outs,b.mks⟩):Rp no cI cO [b] ⟨b.items,b.outs,b.mks⟩:=
 ⟨b,[],rfl,hk,h,rfl,fun k hk=>by simp at hk⟩
theorem Rp.snoc {no:Nat}{cI cO:Int}{rs:List Rc}{d:Ds}(r:Rc)(h:Rp no cI cO rs d)(ok:DOk no cI d r):Rp no cI cO (rs++[r]) (d.doR no cO r):=by
 obtain ⟨b,t,rfl,h1,h2,rfl,h3⟩:=h
 refine ⟨b,t++[r],rfl,h1,h2,(iX (by simp) r).symm,fun k hk=>?_⟩
 simp only[List.length_append,List.length_singleton] at hk
 by_cases hl:k<t.length
 ·rw[List.take_append_of_le_length (by omega),List.getElem_append_left hl]
  exact h3 k hl
 ·obtain rfl:k=t.length:=by omega
  rw[List.take_left]
  simpa using ok
theorem Rp.ind {no:Nat}{cI cO:Int}{motive:List Rc->Ds->Prop}(base:∀(b:Rc),b.kind=6->HasD no cI cO ⟨b.items,b.outs,b.mks⟩->motive [b] ⟨b.items,b.outs,b.mks⟩)
  (snoc:∀{rs:List Rc} {d:Ds} (r:Rc),Rp no cI cO rs d->DOk no cI d r->motive rs d->motive (rs++[r]) (d.doR no cO r)) {rs:List Rc} {d:Ds} (h:Rp no cI cO rs d):motive rs d:=by
 obtain ⟨b,t,rfl,h1,h2,rfl,h3⟩:=h
 have key:∀n,n<=t.length->Rp no cI cO (b::t.take n) (fZ no cO (b::t.take n))/\motive (b::t.take n) (fZ no cO (b::t.take n)):=by
  intro n
  induction n with
  | zero=>exact fun _=>⟨Rp.base b h1 h2,base b h1 h2⟩
  | succ n ih=>
   intro hn
   obtain ⟨i1,i2⟩:=ih (by omega)
   have e:b::t.take (n+1)=(b::t.take n)++[t[n]]:=by rw[List.take_succ_eq_append_getElem (by omega)];rfl
   rw[e,iX (by simp)]
   exact ⟨Rp.snoc _ i1 (h3 n (by omega)),snoc _ i1 (h3 n (by omega)) i2⟩
 have:=(key t.length (Nat.le_refl _)).2
 rwa [List.take_length] at this
theorem aGd (no:Nat)(cO:Int):∀(q:List It) (a:Ds),(q.foldl (Ds.tickOne no cO) a).ms.g=a.ms.g
 | [],a=>rfl
 | i::q,a=>by
  rw[List.foldl_cons,aGd no cO q]
  unfold Ds.tickOne
  split
  ·rfl
  split
  ·rfl
  split<;>rfl
theorem aJP (no:Nat)(cO:Int)(d:Ds)(r:Rc):(d.doR no cO r).ms.g=d.ms.g:=by
 unfold Ds.doR
 split
 ·rfl
 split
 ·rfl
 split
 ·exact aGd no cO _ _
 split
 ·rfl
 split<;>rfl
theorem Rp.facts {no:Nat}{cI cO:Int}{rs:List Rc}{d:Ds}(h:Rp no cI cO rs d):0<rs.length/\d=fZ no cO rs/\HasD no cI cO d/\bA rs=d.ms.g:=by
 refine Rp.ind (motive:=fun rs d=>0<rs.length/\d=fZ no cO rs/\HasD no cI cO d/\bA rs=d.ms.g) ?_ ?_ h
 ·intro b hk h
  exact ⟨by simp,rfl,h,by show (if b.kind=6 then _ else _)=_;rw[if_pos hk]⟩
 ·intro rs d r h ok ih
  obtain ⟨a1,a2,a3,a4⟩:=ih
  refine ⟨by simp,by rw[iX a1,a2],a3.doR ok,?_⟩
  rw[aJP,<- a4]
  cases rs with
  | nil=>simp at a1
  | cons b t=>rfl
theorem Rp.at {no:Nat}{cI cO:Int}{rs:List Rc}{d:Ds}(h:Rp no cI cO rs d):∀k,0<k->k<rs.length->∃hk:k<rs.length,Rp no cI cO (rs.take k) (fZ no cO (rs.take k))/\DOk no cI (fZ no cO (rs.take k)) rs[k]:=by
 obtain ⟨b,t,rfl,h1,h2,_,h3⟩:=h
 intro k k1 k2
 obtain ⟨m,rfl⟩:∃m,k=m+1:=⟨k -1,by omega⟩
 have hm:m<t.length:=by simpa using k2
 refine ⟨k2,⟨b,t.take m,rfl,h1,h2,rfl,fun i hi=>?_⟩,h3 m hm⟩
 rw[List.length_take] at hi
 rw[List.take_take,Nat.min_eq_left (by omega),List.getElem_take]
 exact h3 i (by omega)
theorem Rp.head {no:Nat}{cI cO:Int}{rs:List Rc}{d:Ds}(h:Rp no cI cO rs d):∃b t,rs=b::t/\b.kind=6/\HasD no cI cO ⟨b.items,b.outs,b.mks⟩:=by
 obtain ⟨b,t,e,h1,h2,_⟩:=h
 exact ⟨b,t,e,h1,h2⟩
theorem yU:∀(is l:List It),(l++is).Pairwise (fun a b=>¬a.same b)->is.foldl dB l=l++is
 | [],l,_=>by simp
 | i::t,l,h=>by
  rw[List.foldl_cons,aBX,yU t (l++[i]) (by simpa using h)]
  ·simp
  ·rw[List.pairwise_append] at h
   exact fun x hx=>h.2.2 x hx i (.head _)
theorem wD {s n:Int}(h:pA s n=true):bD s/\bD n:=by
 have:=jZ h
 unfold bD
 omega
theorem HasD.sh {s:Sh}(h:HasD s.no s.cI s.cO s.ds)(hI:s.cI<=16)(hO:s.cO<=8):DrInv s/\s.th.length<=1000/\(∀x∈s.th,aS x.pl=true/\aS x.sp=true)/\(∀x∈s.th,bD x.sh/\bD x.nu):=by
 have len:s.ds.it.length=s.th.length:=(bG s.th).length_eq
 have mem:∀x∈s.th,x∈s.ds.it:=fun x hx=>(bG s.th).mem_iff.2 hx
 have tl:=h.tl
 have ol:((s.ob.length:Nat):Int)<=s.cO:=h.ol
 refine ⟨⟨by omega,by omega,h.mo.s0,h.mo.s1⟩,by omega,fun x hx=>?_,fun x hx=>?_⟩
 ·exact (fI (h.it x (mem x hx)).1).2
 ·exact wD (fI (h.it x (mem x hx)).1).1
theorem DOk.sh {s:Sh}{r:Rc}(h:HasD s.no s.cI s.cO s.ds)(hI:s.cI<=16)(hO:s.cO<=8)(ok:DOk s.no s.cI s.ds r):DoOk s r:=by
 obtain ⟨a1,a2,a3,_⟩:=h.sh hI hO
 exact ⟨ok.kind,ok.ids,fun _=>⟨a1,a2,a3⟩,fun _=>by have ol:((s.ob.length:Nat):Int)<=s.cO:=h.ol;omega⟩
theorem aGe {s:Sh}{r:Rc}(nd:s.th.Pairwise (fun a b=>¬a.same b))(h:HasD s.no s.cI s.cO s.ds)(ok:DOk s.no s.cI s.ds r):(s.doR r).th.Pairwise (fun a b=>¬a.same b)/\(s.doR r).ds=s.ds.doR s.no s.cO r:=by
 have mem:∀x∈s.th,x∈s.ds.it:=fun x hx=>(bG s.th).mem_iff.2 hx
 have k6:r.kind≠6:=by have:=ok.kind;omega
 have hn:r.kind=1∨r.kind=4->∀x∈s.th,¬x.same r.it:=fun k x hx=>h.none ok k x (mem x hx)
 have db:=aHK nd k6 hn
 refine ⟨?_,db⟩
 have hh:=h.doR ok
 rw[<- db] at hh
 exact mN (bG _).symm (hh.ord.imp pX)
structure DkEq (d e:Dk):Prop where
 f0:e.f0=d.f0
 l0:e.l0=d.l0
 f1:e.f1=d.f1
 l1:e.l1=d.l1
 un:e.un=d.un
 kp:d.un≠0->e.kp=d.kp
theorem DkEq.crash {d e:Dk}(h:DkEq d e)(k x:Int):DkEq (d.crash k) {e.crash k with kp:=x}:=by
 obtain ⟨a,b,c,g,_,_⟩:=h
 unfold Dk.crash
 simp only[a,b,c,g]
 exact ⟨rfl,rfl,rfl,rfl,rfl,fun h=>absurd rfl h⟩
theorem DkEq.act {d e:Dk}(h:DkEq d e)(x:Int):e.act.2=d.act.2/\(d.act.2=true->DkEq d.act.1 e.act.1)/\(d.act.2=false->DkEq d.act.1 {e.act.1 with kp:=x}):=by
 unfold Dk.act
 rw[h.un]
 by_cases h0:d.un=0
 ·rw[if_pos h0,if_pos h0]
  exact ⟨rfl,fun _=>h,fun h=>absurd h (by simp)⟩
 rw[if_neg h0,if_neg h0]
 by_cases h1:d.un=1
 ·rw[if_pos h1,if_pos h1,h.kp h0]
  exact ⟨rfl,fun h=>absurd h (by simp),fun _=>h.crash _ _⟩
 rw[if_neg h1,if_neg h1]
 exact ⟨rfl,fun _=>⟨h.f0,h.l0,h.f1,h.l1,rfl,fun _=>h.kp h0⟩,fun h=>absurd h (by simp)⟩
theorem DkEq.file {d e:Dk}(h:DkEq d e)(c:Nat):e.file c=d.file c:=by
 unfold Dk.file
 rw[h.f0,h.f1]
theorem DkEq.put {d e:Dk}(h:DkEq d e)(c:Nat)(l:List UInt8)(m:Nat):DkEq (d.put c l m) (e.put c l m):=by
 unfold Dk.put
 split
 ·exact ⟨rfl,rfl,h.f1,h.l1,h.un,h.kp⟩
 ·exact ⟨h.f0,h.l0,rfl,rfl,h.un,h.kp⟩
theorem DkEq.append {d e:Dk}(h:DkEq d e)(c:Nat)(p:List UInt8)(x:Int):(e.append c p).2=(d.append c p).2/\((d.append c p).2=true->DkEq (d.append c p).1 (e.append c p).1)/\((d.append c p).2=false->DkEq (d.append c p).1 {(e.append c p).1 with kp:=x}):=by
 unfold Dk.append
 refine DkEq.act ?_ x
 split
 ·exact ⟨by rw[h.f0],h.l0,h.f1,h.l1,h.un,h.kp⟩
 ·exact ⟨h.f0,h.l0,by rw[h.f1],h.l1,h.un,h.kp⟩
theorem DkEq.sync {d e:Dk}(h:DkEq d e)(c:Nat)(x:Int):(e.sync c).2=(d.sync c).2/\((d.sync c).2=true->DkEq (d.sync c).1 (e.sync c).1)/\((d.sync c).2=false->DkEq (d.sync c).1 {(e.sync c).1 with kp:=x}):=by
 obtain ⟨a1,a2,a3⟩:=h.act x
 unfold Dk.sync
 rw[a1]
 cases hc:d.act.2
 ·simp only[Bool.false_eq_true,if_false]
  exact ⟨trivial,fun h=>absurd h (by simp),fun _=>a3 hc⟩
 ·simp only[if_true]
  refine ⟨trivial,fun _=>?_,fun h=>absurd h (by simp)⟩
  have:=a2 hc
  rw[this.file c]
  exact this.put _ _ _
theorem DkEq.cut {d e:Dk}(h:DkEq d e)(c:Nat)(x:Int):(e.cut c).2=(d.cut c).2/\((d.cut c).2=true->DkEq (d.cut c).1 (e.cut c).1)/\((d.cut c).2=false->DkEq (d.cut c).1 {(e.cut c).1 with kp:=x}):=by
 obtain ⟨a1,a2,a3⟩:=h.act x
 unfold Dk.cut
 rw[a1]
 cases hc:d.act.2
 ·simp only[Bool.false_eq_true,if_false]
  exact ⟨trivial,fun h=>absurd h (by simp),fun _=>a3 hc⟩
 ·simp only[if_true]
  exact ⟨trivial,fun _=>(a2 hc).put _ _ _,fun h=>absurd h (by simp)⟩
structure Wh (d:Dk)(c:Nat)(F G:List UInt8):Prop where
 f:d.file c=F
 g:d.file (1 -c)=G
 l0:d.l0=d.f0.length
 l1:d.l1=d.f1.length
theorem take_left (f p:List UInt8)(k:Int):(f++p).take (cD (f++p) f.length k)=f++p.take (min k.toNat p.length)/\cD (f++p) f.length k=(f++p.take (min k.toNat p.length)).length:=by
 have e:cD (f++p) f.length k=f.length+min k.toNat p.length:=by
  unfold cD
  rw[List.length_append,Nat.add_sub_cancel_left]
 rw[e]
 constructor
 ·rw[List.take_append,List.take_of_length_le (Nat.le_add_right ..),Nat.add_sub_cancel_left]
 ·rw[List.length_append,List.length_take]
  omega
theorem oS (f:List UInt8)(k:Int):f.take (cD f f.length k)=f/\cD f f.length k=f.length:=by
 have e:cD f f.length k=f.length:=by unfold cD;omega
 rw[e]
 exact ⟨List.take_length,rfl⟩
theorem Wh.crash {d:Dk}{c:Nat}{F G:List UInt8}(hc:c<2)(h:Wh d c F G)(k:Int):Wh (d.crash k) c F G:=by
 obtain ⟨f0,l0,f1,l1,un,kp⟩:=d
 obtain ⟨hf,hg,h0,h1⟩:=h
 simp only at h0 h1
 subst h0 h1
 have a0:=oS f0 k
 have a1:=oS f1 k
 rcases (by omega:c=0∨c=1) with rfl | rfl<;>simp only[Dk.file] at hf hg<;>simp at hf hg<;>subst hf hg
 all_goals exact ⟨by simp[Dk.file,Dk.crash,a0,a1],by simp[Dk.file,Dk.crash,a0,a1],by simp[Dk.crash,a0,a1],by simp[Dk.crash,a0,a1]⟩
theorem Wh.appended {d:Dk}{c:Nat}{F G:List UInt8}(hc:c<2)(h:Wh d c F G)(p:List UInt8):
  ((d.append c p).2=false->∃j,j<=p.length/\Wh (d.append c p).1 c (F++p.take j) G)∧
  ((d.append c p).2=true->(((d.append c p).1.sync c).2=false->∃j,j<=p.length/\Wh ((d.append c p).1.sync c).1 c (F++p.take j) G)/\(((d.append c p).1.sync c).2=true->Wh ((d.append c p).1.sync c).1 c (F++p) G)):=by
 obtain ⟨f0,l0,f1,l1,un,kp⟩:=d
 obtain ⟨hf,hg,h0,h1⟩:=h
 simp only at h0 h1
 subst h0 h1
 have aa0:=oS f0 kp
 have aa1:=oS f1 kp
 have ab0:=take_left f0 p kp
 have ab1:=take_left f1 p kp
 have mj:min kp.toNat p.length<=p.length:=Nat.min_le_right ..
 rcases (by omega:c=0∨c=1) with rfl | rfl<;>simp only[Dk.file] at hf hg<;>simp at hf hg<;>subst hf hg
 ·by_cases u0:un=0
  ·subst u0
   have e1:(Dk.mk f0 f0.length f1 f1.length 0 kp).append 0 p=(Dk.mk (f0++p) f0.length f1 f1.length 0 kp,true):=rfl
   rw[e1]
   have e2:(Dk.mk (f0++p) f0.length f1 f1.length 0 kp).sync 0=(Dk.mk (f0++p) (f0++p).length f1 f1.length 0 kp,true):=rfl
   simp only[e2]
   exact ⟨fun h=>absurd h (by simp),fun _=>⟨fun h=>absurd h (by simp),fun _=>⟨rfl,rfl,rfl,rfl⟩⟩⟩
  by_cases u1:un=1
  ·subst u1
   have e1:(Dk.mk f0 f0.length f1 f1.length 1 kp).append 0 p=((Dk.mk (f0++p) f0.length f1 f1.length 1 kp).crash kp,false):=rfl
   rw[e1]
   refine ⟨fun _=>⟨_,mj,?_⟩,fun h=>absurd h (by simp)⟩
   exact ⟨ab0.1,aa1.1,by show cD _ _ _=(List.take _ _).length;rw[ab0.1];exact ab0.2,by show cD _ _ _=(List.take _ _).length;rw[aa1.1];exact aa1.2⟩
  have e1:(Dk.mk f0 f0.length f1 f1.length un kp).append 0 p=(Dk.mk (f0++p) f0.length f1 f1.length (un -1) kp,true):=by simp[Dk.append,Dk.act,u0,u1]
  rw[e1]
  refine ⟨fun h=>absurd h (by simp),fun _=>?_⟩
  by_cases u2:un=2
  ·subst u2
   have e2:(Dk.mk (f0++p) f0.length f1 f1.length (2 -1) kp).sync 0=((Dk.mk (f0++p) f0.length f1 f1.length 1 kp).crash kp,false):=rfl
   simp only[e2]
   refine ⟨fun _=>⟨_,mj,?_⟩,fun h=>absurd h (by simp)⟩
   exact ⟨ab0.1,aa1.1,by show cD _ _ _=(List.take _ _).length;rw[ab0.1];exact ab0.2,by show cD _ _ _=(List.take _ _).length;rw[aa1.1];exact aa1.2⟩
  ·have e2:(Dk.mk (f0++p) f0.length f1 f1.length (un -1) kp).sync 0=(Dk.mk (f0++p) (f0++p).length f1 f1.length (un -1 -1) kp,true):=by
    have z0:¬un -1=0:=by omega
    have z1:¬un -1=1:=by omega
    simp[Dk.sync,Dk.act,z0,z1,Dk.put,Dk.file]
   simp only[e2]
   exact ⟨fun h=>absurd h (by simp),fun _=>⟨rfl,rfl,rfl,rfl⟩⟩
 ·by_cases u0:un=0
  ·subst u0
   have e1:(Dk.mk f0 f0.length f1 f1.length 0 kp).append 1 p=(Dk.mk f0 f0.length (f1++p) f1.length 0 kp,true):=rfl
   rw[e1]
   have e2:(Dk.mk f0 f0.length (f1++p) f1.length 0 kp).sync 1=(Dk.mk f0 f0.length (f1++p) (f1++p).length 0 kp,true):=rfl
   simp only[e2]
   exact ⟨fun h=>absurd h (by simp),fun _=>⟨fun h=>absurd h (by simp),fun _=>⟨rfl,rfl,rfl,rfl⟩⟩⟩
  by_cases u1:un=1
  ·subst u1
   have e1:(Dk.mk f0 f0.length f1 f1.length 1 kp).append 1 p=((Dk.mk f0 f0.length (f1++p) f1.length 1 kp).crash kp,false):=rfl
   rw[e1]
   refine ⟨fun _=>⟨_,mj,?_⟩,fun h=>absurd h (by simp)⟩
   exact ⟨ab1.1,aa0.1,by show cD _ _ _=(List.take _ _).length;rw[aa0.1];exact aa0.2,by show cD _ _ _=(List.take _ _).length;rw[ab1.1];exact ab1.2⟩
  have e1:(Dk.mk f0 f0.length f1 f1.length un kp).append 1 p=(Dk.mk f0 f0.length (f1++p) f1.length (un -1) kp,true):=by simp[Dk.append,Dk.act,u0,u1]
  rw[e1]
  refine ⟨fun h=>absurd h (by simp),fun _=>?_⟩
  by_cases u2:un=2
  ·subst u2
   have e2:(Dk.mk f0 f0.length (f1++p) f1.length (2 -1) kp).sync 1=((Dk.mk f0 f0.length (f1++p) f1.length 1 kp).crash kp,false):=rfl
   simp only[e2]
   refine ⟨fun _=>⟨_,mj,?_⟩,fun h=>absurd h (by simp)⟩
   exact ⟨ab1.1,aa0.1,by show cD _ _ _=(List.take _ _).length;rw[aa0.1];exact aa0.2,by show cD _ _ _=(List.take _ _).length;rw[ab1.1];exact ab1.2⟩
  ·have e2:(Dk.mk f0 f0.length (f1++p) f1.length (un -1) kp).sync 1=(Dk.mk f0 f0.length (f1++p) (f1++p).length (un -1 -1) kp,true):=by
    have z0:¬un -1=0:=by omega
    have z1:¬un -1=1:=by omega
    simp[Dk.sync,Dk.act,z0,z1,Dk.put,Dk.file]
   simp only[e2]
   exact ⟨fun h=>absurd h (by simp),fun _=>⟨rfl,rfl,rfl,rfl⟩⟩
theorem Wh.cut {d:Dk}{c:Nat}{F G:List UInt8}(hc:c<2)(h:Wh d c F G):((d.cut c).2=false->Wh (d.cut c).1 c F G)/\((d.cut c).2=true->Wh (d.cut c).1 c [] G):=by
 unfold Dk.cut Dk.act
 by_cases u0:d.un=0
 ·simp only[if_pos u0,if_true]
  refine ⟨fun h=>absurd h (by simp),fun _=>?_⟩
  obtain ⟨hf,hg,h0,h1⟩:=h
  rcases (by omega:c=0∨c=1) with rfl | rfl
  ·exact ⟨rfl,hg,rfl,h1⟩
  ·exact ⟨rfl,hg,h0,rfl⟩
 by_cases u1:d.un=1
 ·simp only[if_neg u0,if_pos u1]
  exact ⟨fun _=>h.crash hc _,fun h=>absurd h (by simp)⟩
 ·simp only[if_neg u0,if_neg u1,if_true]
  refine ⟨fun h=>absurd h (by simp),fun _=>?_⟩
  obtain ⟨hf,hg,h0,h1⟩:=h
  rcases (by omega:c=0∨c=1) with rfl | rfl
  ·exact ⟨rfl,hg,rfl,h1⟩
  ·exact ⟨rfl,hg,h0,rfl⟩
end Go.Proofs.YtammnaafdhhjaaaGreat
