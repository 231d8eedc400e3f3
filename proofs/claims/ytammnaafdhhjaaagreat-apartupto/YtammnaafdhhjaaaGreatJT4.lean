import Derived.Test.YtammnaafdhhjaaaGreatJG27
set_option maxHeartbeats 16000000
set_option maxRecDepth 100000
namespace Go.Proofs.YtammnaafdhhjaaaGreat
open Go.RowKit Go.Proofs.Tryz
structure St (w wr:World)(bs:Nat)(v:Value)(rs:List Rw)(no:Nat)(d:Ds)(vi vo:Value):Prop where
 row:wr.ownsRow w.heap.size 139 13 v rs.length (rs.flatMap Rw.cells)
 at_:At wr bs (kN no vi vo d.ms)
 it:OwnI w.heap.size wr vi d.it
 ob:OwnE w.heap.size wr vo d.ob
 n1:vi.ownBlock≠some bs
 n2:vo.ownBlock≠some bs
 n3:∀j,vi.ownBlock=some j->vo.ownBlock≠some j
 n4:v.ownBlock≠some bs
 n5:∀j,v.ownBlock=some j->vi.ownBlock≠some j
 n6:∀j,v.ownBlock=some j->vo.ownBlock≠some j
 g:w.grownBy wr none
 hb:w.heap.size<=bs
theorem St.step {w wr w':World}{bs:Nat}{v vi vo vi' vo':Value}{rs:List Rw}{no:Nat}{d d':Ds}(h:St w wr bs v rs no d vi vo)(o:Only wr w' (fun j=>j=bs∨vo.ownBlock=some j))(at_:At w' bs (kN no vi' vo' d'.ms))(it:OwnI w.heap.size w' vi' d'.it)(ob:OwnE w.heap.size w' vo' d'.ob)(q1:∀j,vi'.ownBlock=some j->vi.ownBlock=some j∨wr.heap.size<=j)(q2:∀j,vo'.ownBlock=some j->vo.ownBlock=some j∨wr.heap.size<=j)(q3:∀j,vi'.ownBlock=some j->vo'.ownBlock≠some j):St w w' bs v rs no d' vi' vo':=by
 have bl:=h.at_.lt
 have vl:=h.row.lt
 refine ⟨o.own h.row (fun j hj e=>?_),at_,it,ob,fun e=>?_,fun e=>?_,q3,h.n4,fun j hj e=>?_,fun j hj e=>?_,fJ h.g o (fun k e=>?_),h.hb⟩
 ·rcases e with e | e
  ·exact h.n4 (e ▸ hj)
  ·exact h.n6 j hj e
 ·rcases q1 bs e with e | e
  ·exact h.n1 e
  ·omega
 ·rcases q2 bs e with e | e
  ·exact h.n2 e
  ·omega
 ·rcases q1 j e with e | e
  ·exact h.n5 j hj e
  ·have:=(vl j hj).2;omega
 ·rcases q2 j e with e | e
  ·exact h.n6 j hj e
  ·have:=(vl j hj).2;omega
 ·rcases e with e | e
  ·rw[e];exact h.hb
  ·exact (h.ob.lt k e).1
theorem aCh {l:List It}{x y:Int}(h:∃i∈l,i.sh=x/\i.nu=y):∃k:Nat,iG l x y=(k:Int)/\k<l.length/\(vS l->l.take k++l.drop (k+1)=eJ l x y):=by
 unfold iG
 cases hf:l.findIdx? (fun i=>decide (i.sh=x/\i.nu=y)) with
 | none=>
  rw[List.findIdx?_eq_none_iff] at hf
  obtain ⟨i,hi,e⟩:=h
  have:=hf i hi
  simp only[decide_eq_false_iff_not] at this
  exact absurd e this
 | some k=>
  rw[List.findIdx?_eq_some_iff_getElem] at hf
  obtain ⟨hk,h1,h2⟩:=hf
  refine ⟨k,rfl,hk,fun ho=>?_⟩
  have h1':=of_decide_eq_true h1
  have el:l=l.take k++l[k]::l.drop (k+1):=by rw[List.getElem_cons_drop,List.take_append_drop]
  rw[el] at ho
  obtain ⟨n1,n2,_⟩:=wC ho
  have:eJ l x y=eJ (l.take k++l[k]::l.drop (k+1)) x y:=by rw[<- el]
  rw[this]
  unfold eJ
  rw[List.filter_append,List.filter_cons_of_neg (by simp[h1']),List.filter_eq_self.2,List.filter_eq_self.2]
  ·intro z hz
   have:=n2 z hz
   unfold It.same at this
   rw[decide_eq_false (by omega)];rfl
  ·intro z hz
   have:=n1 z hz
   unfold It.same at this
   rw[decide_eq_false (by omega)];rfl
theorem sO (g o j:Nat):(⟨g,o,none⟩:Addr).add j=⟨g,o+j,none⟩:=by unfold Addr.add;split<;>simp_all
theorem oX {w:World}{ops:Array Oper}{rest:List Oper}{o:Oper}{a:Act}{Q:Exit->Act->World->Prop}(hgd:o.guard=none)(s x:Operand)
  (ho:o.op=.call {callee:=.builtin .append,args:=#[s,x],argTypes:=#[37,37]})
  (B:Nat) (v:Value) (l:List It) (hs:a.eval s=v) (hown:OwnI B w v l) (ad:Addr) (q c:Nat) (m:List It) (hq:m.length=q) (hx:a.eval x=.slice (some ad) q c)
  (hnews:∀j u,(m.flatMap It.cells)[j]?=some u->w.cell? (ad.add j)=some u) (hl:l.length+q<=1000000) (hB:B<=w.heap.size)
  (h:∀v' w',OwnI B w' v' (l++m)->w.grownBy w' v.ownBlock->(v'.ownBlock=v.ownBlock∨v'.ownBlock=some w.heap.size)->wpList prog ops Q rest (a.put o.dst v') w'):wpList prog ops Q (o::rest) a w:=by
 obtain ⟨i0,hi,hz0,hz1,hz2⟩:=nW
 subst hq
 refine wpList_append_own_at _ hgd s x 37 ho B 75 i0 _ 4 24 underlying37 hi hz0 hz1 hz2 rfl (by decide) v l.length (l.flatMap It.cells) hs hown ad m.length c (m.flatMap It.cells) hx ?_ hnews ?_ (by unfold maxLen;omega) (by omega) hB ?_
 ·rw[oZ]
 ·intro u hu
  obtain ⟨i,_,hi⟩:=List.mem_flatMap.1 hu
  simp[It.cells] at hi
  rcases hi with rfl | rfl | rfl | rfl<;>rfl
 ·intro v' w' r1 r2 _ r4
  refine h v' w' ?_ r2 r4
  unfold OwnI
  rw[List.length_append,List.flatMap_append]
  exact r1
theorem wI (bp b0 b1:Nat)(cI cO cJ:Int)(f0 f1:Value)(no:Nat)(r:Rs)(w:World)(h:At w bp (ryC cI cO cJ b0 b1 f0 f1))(hr:At w (aC b0 b1 no) r.cells)(hno:no<2)(ok:r.d.Ok)(hct:r.ct<2)(hI:cI<=16)(hO:cO<=8)(rp:Rp no cI cO (aR (r.d.file r.ct)) (fZ no cO (aR (r.d.file r.ct)))):
  Calls prog 97 #[.pointer (some ⟨bp,0,none⟩),.int .i64 no] w fun e w'=>∃bs vi vo,e=.returned (.pointer (some ⟨bs,0,none⟩))/\w.heap.size<=bs/\At w' bs (kN no vi vo (fZ no cO (aR (r.d.file r.ct))).ms)/\OwnI w.heap.size w' vi (fZ no cO (aR (r.d.file r.ct))).it/\OwnE w.heap.size w' vo (fZ no cO (aR (r.d.file r.ct))).ob/\vi.ownBlock≠some bs/\vo.ownBlock≠some bs/\(∀j,vi.ownBlock=some j->vo.ownBlock≠some j)/\w.grownBy w' none:=by
 obtain ⟨b,hb⟩:∃b,aC b0 b1 no=b:=⟨_,rfl⟩
 rw[hb] at hr
 have H:=Hid.mk' h
 have HR:=Hid.mk' hr
 have hsf:=aK
 have rl:(r.d.file r.ct).length<=10000:=by
  unfold Dk.file
  split
  ·exact ok.b0
  ·exact ok.b1
 have cfile:Hid (∀W,At W b r.cells->W.cell? ⟨b,1+r.ct,none⟩=some (.string (S (r.d.file r.ct)))):=Hid.mk' fun W hW=>by
  rcases (by omega:r.ct=0∨r.ct=1) with e | e<;>rw[e]
  ·exact hW.c 1 _ rfl
  ·exact hW.c 2 _ rfl
 have p0:w.cell? ⟨bp,3+no,none⟩=some (.pointer (some ⟨b,0,none⟩)):=by
  rw[<- hb]
  rcases (by omega:no=0∨no=1) with rfl | rfl
  ·exact h.c 3 _ rfl
  ·exact h.c 4 _ rfl
 generalize r.d.file r.ct=T at *
 have RP:=Hid.mk' rp
 have SC:=Hid.mk' fun W=>jX T W (by omega)
 have sl:=gQ T
 have qc0:(0:Int)<=(r.ct:Int):=by omega
 have qc1:(r.ct:Int)<2:=by omega
 have i0:(0:Int)<=(no:Int):=by omega
 have i1:(no:Int)<2:=by omega
 clear h hr ok rp
 generalize hcc:r.ct=ct at *
 go_enter func97,ntmps97
 go_wp2_with fail
 refine wp_region_held_drew (S:=fun w'=>At w' b r.cells/\w'.cell? ⟨b,1+ct,none⟩=some (.string (S T))) (by kernel_rfl) (⟨HR.out.drew,cfile.out _ HR.out.drew⟩) (fun hHeld=>?_)
 refine aN 0 ?_
 simp only[aF]
 refine aN 1 ?_
 simp only[aF]
 refine aN 2 ?_
 simp only[aF]
 refine aN 3 ?_
 simp only[aF]
 refine dG 4 rfl (by intro w hSw;have S5:=hSw.1.c 5 _ rfl;rw[hcc] at S5;go_simp;try with_reducible rfl) ?_
 simp only[aF]
 refine aN 5 ?_
 simp only[aF]
 refine aN 6 ?_
 simp only[aF]
 refine aN 7 ?_
 simp only[aF]
 refine bV 8 (fun _ h=>h.2) ?_
 simp only[aF]
 refine aX 9 (f:=103) (args:=#[.string (S T)]) (by kernel_rfl) (by rfl) (by rfl) (by go_simp) ?_
 refine Calls.mono (SC.out _) ?_
 rintro e w1 ⟨v,rs,rfl,came,hrs,g1⟩
 have G1:Hid (w.grownBy w1 none):=(aA (aD w none)).trans g1
 have h1:=hHeld
 clear hHeld
 have hHeld:At w1 b r.cells/\w1.cell? ⟨b,1+ct,none⟩=some (.string (S T)):=⟨h1.1.grown g1,g1.cell h1.2 (by simp)⟩
 refine ⟨_,rfl,hHeld,?_⟩
 simp only[aF]
 refine aN 10 ?_
 simp only[aF]
 refine aN 11 ?_
 simp only[aF]
 refine aN 12 ?_
 simp only[aF]
 refine aN 13 ?_
 simp only[aF]
 refine aN 14 ?_
 simp only[aF]
 refine wpAnyH_done (by kernel_rfl) ?_ _
 have CM:=Hid.mk' (came.base (B':=w.heap.size) (by simp))
 have HRS:=Hid.mk' hrs
 clear came hrs g1 h1 hHeld p0
 obtain ⟨av,cv,rfl⟩:=aJ CM.out.row
 rw[<- HRS.out] at RP sl
 have hlen:rs.length<=10000:=by have:=sl;simp at this;omega
 have hpos:0<rs.length:=by have:=RP.out.facts.1;simpa using this
 obtain ⟨n,hnn⟩:∃n,rs.length=n:=⟨_,rfl⟩
 have HN:=Hid.mk' hnn
 obtain ⟨gv,rfl⟩:∃g,av=some ⟨g,0,none⟩:=by
  rcases CM.out.row.2 with ⟨h',hn0⟩ | ⟨g,cap,cur,h',_⟩
  ·omega
  ·injection h' with h1 h2 h3
   exact ⟨g,h1⟩
 have RW:Hid (∀wr:World,wr.ownsRow w.heap.size 139 13 (.slice (some ⟨gv,0,none⟩) rs.length cv) rs.length (rs.flatMap Rw.cells)->∀k (hk:k<rs.length),∀j (_:j<13) u,(rs[k]).cells[j]?=some u->wr.cell? ⟨gv,k * 13+j,none⟩=some u):=Hid.mk' fun wr hrow k hk j hj u hu=>by
  refine (hrow.cellAt (k * 13+j) (by omega)).trans ?_
  rw[Nat.mul_comm k 13,kW rs k j hk hj]
  exact hu
 obtain ⟨x0,hx0⟩:∃x0,rs[0]=x0:=⟨_,rfl⟩
 have e0:∀j (_:j<13) u,x0.cells[j]?=some u->w1.cell? ⟨gv,j,none⟩=some u:=fun j hj u hu=>by
  have:=RW.out w1 CM.out.row 0 hpos j hj u (by rw[hx0];exact hu)
  rwa [Nat.zero_mul,Nat.zero_add] at this
 have m0:=CM.out.oi x0 (by rw[<- hx0];exact List.getElem_mem hpos)
 have m1:=CM.out.oo x0 (by rw[<- hx0];exact List.getElem_mem hpos)
 obtain ⟨xa,xm,hvi⟩:=aJ m0
 obtain ⟨ya,ym,hvo⟩:=aJ m1
 have u6:=e0 6 (by omega) _ rfl
 have u7:=e0 7 (by omega) _ rfl
 have u8:=e0 8 (by omega) _ rfl
 have u9:=e0 9 (by omega) _ rfl
 have u10:=e0 10 (by omega) _ rfl
 have u11:=e0 11 (by omega) _ rfl
 have u12:=e0 12 (by omega) _ rfl
 rw[hvi] at u11
 rw[hvo] at u12
 have hpn:0<n:=by omega
 rw[hnn]
 go_wp2_with fail
 refine wp_region_held_drew (S:=fun w'=>w'.cell? ⟨gv,6,none⟩=some (.int .i64 x0.p.mks.g)/\w'.cell? ⟨gv,7,none⟩=some (.int .i64 x0.p.mks.m)/\w'.cell? ⟨gv,8,none⟩=some (.int .i64 x0.p.mks.s)/\w'.cell? ⟨gv,9,none⟩=some (.int .i64 x0.p.mks.a)/\w'.cell? ⟨gv,10,none⟩=some (.int .i64 x0.p.mks.n)/\w'.cell? ⟨gv,11,none⟩=some (.slice xa x0.p.items.length xm)/\w'.cell? ⟨gv,12,none⟩=some (.slice ya x0.p.outs.length ym)) (by kernel_rfl) (⟨u6,u7,u8,u9,u10,u11,u12⟩) (fun hHeld=>?_)
 refine aN 0 ?_
 simp only[aF]
 refine aN 1 ?_
 simp only[aF]
 refine aN 2 ?_
 simp only[aF]
 refine aN 3 ?_
 simp only[aF]
 refine dG 4 rfl (by intro w hSw;obtain ⟨S0,S1,S2,S3,S4,S5,S6⟩:=hSw;go_simp;try with_reducible rfl) ?_
 simp only[aF]
 refine aN 5 ?_
 simp only[aF]
 refine aN 6 ?_
 simp only[aF]
 refine aN 7 ?_
 simp only[aF]
 refine dG 8 rfl (by intro w hSw;obtain ⟨S0,S1,S2,S3,S4,S5,S6⟩:=hSw;go_simp;try with_reducible rfl) ?_
 simp only[aF]
 refine aN 9 ?_
 simp only[aF]
 refine aN 10 ?_
 simp only[aF]
 refine aN 11 ?_
 simp only[aF]
 refine dG 12 rfl (by intro w hSw;obtain ⟨S0,S1,S2,S3,S4,S5,S6⟩:=hSw;go_simp;try with_reducible rfl) ?_
 simp only[aF]
 refine aN 13 ?_
 simp only[aF]
 refine fV 14 (by kernel_rfl) (by rfl) (by rfl) ?_
 intro K hK
 go_simp
 have g2:=World.grownBy_alloc w1.drew (.cells #[.int .i64 no,.slice xa x0.p.items.length xm,.slice ya x0.p.outs.length ym,.int .i64 x0.p.mks.g,.int .i64 x0.p.mks.m,.int .i64 x0.p.mks.s,.int .i64 x0.p.mks.a,.int .i64 x0.p.mks.n] 157) none
 have h2:=And.intro (g2.cell hHeld.1 (by simp)) (And.intro (g2.cell hHeld.2.1 (by simp)) (And.intro (g2.cell hHeld.2.2.1 (by simp)) (And.intro (g2.cell hHeld.2.2.2.1 (by simp)) (And.intro (g2.cell hHeld.2.2.2.2.1 (by simp)) (And.intro (g2.cell hHeld.2.2.2.2.2.1 (by simp)) (g2.cell hHeld.2.2.2.2.2.2 (by simp)))))))
 refine hK _ _ h2 ?_
 clear hK K
 replace hHeld:=h2
 refine aN 15 ?_
 simp only[aF]
 refine wpAnyH_done (by kernel_rfl) ?_ _
 have A3:=At.new w1.drew [.int .i64 no,.slice xa x0.p.items.length xm,.slice ya x0.p.outs.length ym,.int .i64 x0.p.mks.g,.int .i64 x0.p.mks.m,.int .i64 x0.p.mks.s,.int .i64 x0.p.mks.a,.int .i64 x0.p.mks.n] 157
 have G3:w.grownBy (w1.drew.alloc (.cells #[.int .i64 no,.slice xa x0.p.items.length xm,.slice ya x0.p.outs.length ym,.int .i64 x0.p.mks.g,.int .i64 x0.p.mks.m,.int .i64 x0.p.mks.s,.int .i64 x0.p.mks.a,.int .i64 x0.p.mks.n] 157)) none:=(G1.out.trans (aA (aD _ _))).trans g2
 have qD:w1.grownBy (w1.drew.alloc (.cells #[.int .i64 no,.slice xa x0.p.items.length xm,.slice ya x0.p.outs.length ym,.int .i64 x0.p.mks.g,.int .i64 x0.p.mks.m,.int .i64 x0.p.mks.s,.int .i64 x0.p.mks.a,.int .i64 x0.p.mks.n] 157)) none:=(aA (aD _ _)).trans g2
 have mem0:x0∈rs:=by rw[<- hx0];exact List.getElem_mem hpos
 have z1:=G1.out.size
 have T1:(rs.map Rw.p).take 1=[x0.p]:=by
  cases hrs:rs with
  | nil=>rw[hrs] at hpos;simp at hpos
  | cons a t=>subst hrs;simp at hx0;simp[hx0]
 have ST1:Hid (St w (w1.drew.alloc (.cells #[.int .i64 no,.slice xa x0.p.items.length xm,.slice ya x0.p.outs.length ym,.int .i64 x0.p.mks.g,.int .i64 x0.p.mks.m,.int .i64 x0.p.mks.s,.int .i64 x0.p.mks.a,.int .i64 x0.p.mks.n] 157)) w1.heap.size (.slice (some ⟨gv,0,none⟩) n cv) rs no (fZ no cO ((rs.map Rw.p).take 1)) (.slice xa x0.p.items.length xm) (.slice ya x0.p.outs.length ym)):=by
  rw[T1]
  have q:=CM.out
  rw[hvi] at m0
  rw[hvo] at m1
  have io:=q.io x0 mem0
  have ou:=q.out x0 mem0
  rw[hvi,hvo] at io
  unfold Rw.has at ou
  rw[hvi,hvo] at ou
  have row:=aO q.row qD
  rw[hnn] at row ou
  refine ⟨by rw[hnn];exact row,A3,aO m0 qD,aO m1 qD,fun e=>?_,fun e=>?_,io,fun e=>?_,fun j hj e=>ou j (.inl e) hj,fun j hj e=>ou j (.inr e) hj,G3,z1⟩
  ·have:=(m0.lt _ e).2;omega
  ·have:=(m1.lt _ e).2;omega
  ·have:=(q.row.lt _ (by rw[hnn];exact e)).2;omega
 have ge1:w.heap.size<=w1.heap.size:=z1
 clear A3 G3 qD T1 u6 u7 u8 u9 u10 u11 u12 hHeld e0 m0 m1 g2 z1
 go_wp2_with fail
 go_loopw [9] (fun t wr=>∃(k:Nat) (vi vo:Value),1<=k/\k<=n/\t=.int .i64 k/\St w wr w1.heap.size (.slice (some ⟨gv,0,none⟩) n cv) rs no (fZ no cO ((rs.map Rw.p).take k)) vi vo) (fun t _=>n -(intOf t).toNat)
 case atStart=>exact ⟨1,_,_,by omega,by rw[<- hnn];omega,rfl,ST1.out⟩
 case round=>
  clear ST1
  obtain ⟨k,vi,vo,hk1,hk,rfl,st⟩:=hrel
  have ST:=Hid.mk' st
  obtain ⟨ia,im,rfl⟩:=aJ st.it
  obtain ⟨oa,om,rfl⟩:=aJ st.ob
  clear st
  by_cases hlt:k<n
  ·have hkl:k<rs.length:=by rw[hnn];exact hlt
   obtain ⟨x,hx⟩:∃x,rs[k]=x:=⟨_,rfl⟩
   have hxm:x∈rs:=by rw[<- hx];exact List.getElem_mem hkl
   obtain ⟨yb,yc,hvi'⟩:=aJ (CM.out.oi x hxm)
   obtain ⟨zb,zc,hvo'⟩:=aJ (CM.out.oo x hxm)
   have RA:=RP.out.at k (by omega) (by simpa using hkl)
   obtain ⟨hkm,rpk,dok⟩:=RA
   have exk:(rs.map Rw.p)[k]=x.p:=by rw[List.getElem_map,hx]
   rw[exk] at dok
   have TS:Hid (fZ no cO ((rs.map Rw.p).take (k+1))=(fZ no cO ((rs.map Rw.p).take k)).doR no cO x.p):=by
    show _=_
    rw[List.take_succ_eq_append_getElem hkm,iX rpk.facts.1,exk]
   have has:=rpk.facts.2.2.1
   have dd:∀j (_:j<13) u,x.cells[j]?=some u->wr.cell? ⟨gv,k * 13+j,none⟩=some u:=fun j hj u hu=>RW.out wr (by have:=ST.out.row;rw[hnn];rw[hnn] at this;exact this) k hkl j hj u (by rw[hx];exact hu)
   have d0:=dd 0 (by omega) _ rfl
   have d1:=dd 1 (by omega) _ rfl
   have d2:=dd 2 (by omega) _ rfl
   have d3:=dd 3 (by omega) _ rfl
   have d4:=dd 4 (by omega) _ rfl
   have d5:=dd 5 (by omega) _ rfl
   have d6:=dd 6 (by omega) _ rfl
   have d7:=dd 7 (by omega) _ rfl
   have d8:=dd 8 (by omega) _ rfl
   have d9:=dd 9 (by omega) _ rfl
   have d10:=dd 10 (by omega) _ rfl
   have d11:=dd 11 (by omega) _ rfl
   have d12:=dd 12 (by omega) _ rfl
   rw[Nat.add_zero] at d0
   rw[hvi'] at d11
   rw[hvo'] at d12
   clear dd
   have DK:=Hid.mk' dok
   have HAS:=Hid.mk' has
   have bl:=ST.out.at_.lt
   generalize hD:fZ no cO ((rs.map Rw.p).take k)=D at *
   clear has rpk hD
   have y0:(0:Int)<=(k:Int):=by omega
   have y1:(k:Int)<(n:Int):=by omega
   have hpt:=H.out.grown ST.out.g
   have pc1:=hpt.c 1 _ rfl
   have bpl:=hpt.lt
   have nbp:bp≠w1.heap.size:=by have:=H.out.lt;omega
   have dl:D.it.length<=1000/\D.ob.length<=1000:=by have h1:=HAS.out.tl;have h2:=HAS.out.ol;omega
   have ids:Hid (∀y∈D.it,pA y.sh y.nu=true):=Hid.mk' fun y hy=>(fI (HAS.out.it y hy).1).1
   have hbx:w1.heap.size≠wr.heap.size:=by omega
   rcases dok.kind with kk | kk | kk | kk | kk
   ·rw[kk] at d0
    have ED:Hid (D.doR no cO x.p=⟨iH x.p.it D.it,D.ob,{D.ms with m:=x.p.it.nu}⟩):=if_pos kk
    obtain ⟨q1,q2,q3,q4,q5,q6⟩:=dok.mint kk
    have hid:=(fI q5).1
    clear dok q1 q2 q3 q4 q5 q6
    have gA:=World.grownBy_alloc wr (.cells #[.int .i64 1,.int .i64 x.p.seq,.int .i64 x.p.it.sh,.int .i64 x.p.it.nu,.float .f32 x.p.it.pl,.float .f32 x.p.it.sp,.int .i64 x.p.mks.g,.int .i64 x.p.mks.m,.int .i64 x.p.mks.s,.int .i64 x.p.mks.a,.int .i64 x.p.mks.n,.slice yb x.p.items.length yc,.slice zb x.p.outs.length zc] 139) none
    have R0:=At.new wr [.int .i64 1,.int .i64 x.p.seq,.int .i64 x.p.it.sh,.int .i64 x.p.it.nu,.float .f32 x.p.it.pl,.float .f32 x.p.it.sp,.int .i64 x.p.mks.g,.int .i64 x.p.mks.m,.int .i64 x.p.mks.s,.int .i64 x.p.mks.a,.int .i64 x.p.mks.n,.slice yb x.p.items.length yc,.slice zb x.p.outs.length zc] 139
    have AD:=Hid.mk' (aBR no w1.heap.size D.it x.p.it _ _ D.ms _ (ST.out.at_.grown gA) (Lies.of_own (aO ST.out.it gA)) dl.1 hid ids.out)
    go_wp2_with fail
    refine Calls.mono AD.out ?_
    rintro e w2 ⟨rfl,v',a2,o2,on2⟩
    have R2:=R0.only on2 (fun e=>hbx e.symm)
    have t3:=R2.c 3 _ rfl
    have t4:=a2.c 4 _ rfl
    have tf:=a2.f
    have bl2:=a2.lt
    have xl2:=R2.lt
    have ON2:Hid (Only wr w2 (fun j=>j=w1.heap.size)):=((Only.grown gA).mono (by simp)).trans (on2.mono (fun _ _ e=>.inl e))
    have A2:=Hid.mk' a2
    have O2:=Hid.mk' o2
    clear a2 o2 on2 R2 R0 gA
    go_wp2
    go_roundw
    case rel=>
     refine ⟨k+1,v',.slice oa D.ob.length om,by omega,by omega,by go_num,?_⟩
     rw[TS.out,ED.out]
     have vl:∀j,v'.ownBlock=some j->wr.heap.size<=j:=fun j hj=>by have:=(O2.out.lt j hj).1;simp at this;omega
     have o3:Only wr (w2.setCell ⟨w1.heap.size,4,none⟩ (.int .i64 x.p.it.nu)) (fun j=>j=w1.heap.size):=ON2.out.trans ((Only.set w2 _ 4 _).mono (fun _ _ e=>.inl e))
     refine ST.out.step (o3.mono (fun _ _ e=>.inl e)) (A2.out.put 4 _ (by simp[kN])) (bP (aH O2.out _ 4 _ (fun e=>by have:=vl _ e;omega)) (by have:=ST.out.g.size;simp;omega)) (o3.own ST.out.ob (fun j hj e=>ST.out.n2 (e ▸ hj))) (fun j hj=>.inr (vl j hj)) (fun j hj=>.inl hj) (fun j hj e=>?_)
     have:=vl j hj
     have:=(ST.out.ob.lt j e).2
     omega
    case measure=>simp[intOf];omega
   ·rw[kk] at d0
    have ED:Hid (D.doR no cO x.p=⟨eJ D.it x.p.it.sh x.p.it.nu,D.ob,D.ms⟩):=by
     show _=_
     unfold Ds.doR
     rw[if_neg (by omega),if_pos kk]
    obtain ⟨k0,hk0,hk0l,hdel⟩:=aCh (dok.dest kk)
    have HDEL:=Hid.mk' (hdel HAS.out.ord)
    clear dok hdel
    have gA:=World.grownBy_alloc wr (.cells #[.int .i64 2,.int .i64 x.p.seq,.int .i64 x.p.it.sh,.int .i64 x.p.it.nu,.float .f32 x.p.it.pl,.float .f32 x.p.it.sp,.int .i64 x.p.mks.g,.int .i64 x.p.mks.m,.int .i64 x.p.mks.s,.int .i64 x.p.mks.a,.int .i64 x.p.mks.n,.slice yb x.p.items.length yc,.slice zb x.p.outs.length zc] 139) none
    have FI:=Hid.mk' (oM D.it x.p.it.sh x.p.it.nu w1.heap.size _ _ ((ST.out.at_.grown gA).c 1 _ rfl) (Lies.of_own (aO ST.out.it gA)) dl.1)
    rw[hk0] at FI
    obtain ⟨gi,rfl⟩:∃g,ia=some ⟨g,0,none⟩:=by
     rcases ST.out.it.2 with ⟨h',hn0⟩ | ⟨g,cap,cur,h',_⟩
     ·omega
     ·injection h' with h1 h2 h3
      exact ⟨g,h1⟩
    go_wp2_with fail
    refine Calls.mono FI.out ?_
    rintro e w2 ⟨rfl,g2⟩
    have G2:=Hid.mk' (gA.trans g2)
    have A2:=Hid.mk' (ST.out.at_.grown G2.out)
    have s1:=A2.out.c 1 _ rfl
    obtain ⟨ni,hni⟩:∃ni,D.it.length=ni:=⟨_,rfl⟩
    rw[hni] at s1 hk0l dl
    have cap:ni<=im:=by
     rcases ST.out.it.2 with ⟨h',hn0⟩ | ⟨g,cap,cur,h',_,_,hcap,_⟩
     ·rw[hni] at hn0;omega
     ·injection h' with h1 h2 h3;omega
    clear g2 gA
    have OI2:=Hid.mk' (aO ST.out.it G2.out)
    have HNI:=Hid.mk' hni
    have e1:k0<=im:=by omega
    have e2:(k0:Int)<=(im:Int):=by omega
    have e3:(0:Int)<=(k0:Int):=by omega
    have e4:(k0:Int)+1<=(ni:Int):=by omega
    have e5:(ni:Int)<=(im:Int):=by omega
    have z2:=G2.out.size
    have zw:=ST.out.g.size
    have CI:Hid (∀j u,(D.it.flatMap It.cells)[j]?=some u->w2.cell? ⟨gi,j,none⟩=some u):=Hid.mk' fun j u hu=>by
     have hj:j<D.it.length * 4:=by rw[<- OI2.out.1];exact (List.getElem?_eq_some_iff.1 hu).1
     have:=OI2.out.cellAt j hj
     rw[hu] at this
     exact this
    have hgil:gi<w2.heap.size:=(OI2.out.lt gi (by simp[Value.ownBlock])).2
    by_cases hz:k0+1<im
    ·have e6:(k0:Int)+1<(im:Int):=by omega
     have e7:¬im -(k0+1)=0:=by omega
     go_wp2_with (first | (at_builtin;refine oX rfl (.tmp 82) (.tmp 88) rfl w2.heap.size (.slice none 0 0) [] rfl (OwnI.nil _ _) ⟨gi,0,none⟩ k0 im (D.it.take k0) (by rw[List.length_take,HNI.out];omega) rfl (fun j u hu=>by rw[sO,Nat.zero_add];exact CI.out j u (by rw[<- List.take_append_drop k0 D.it,List.flatMap_append,List.getElem?_append_left (List.getElem?_eq_some_iff.1 hu).1];exact hu)) (by simp;omega) (Nat.le_refl _) ?_;intro v3 w3 o3 g3 h3;have L3:=Hid.mk' (show ([]++D.it.take k0).length=k0 by rw[List.nil_append,List.length_take];exact Nat.min_eq_left (by rw[HNI.out];omega));obtain ⟨a3,c3,e3'⟩:=aJ o3;rw[L3.out] at e3';subst e3';have O3:=Hid.mk' o3;have G3:=Hid.mk' g3;have t1:=g3.cell s1 (by simp[Value.ownBlock]);have z3:=g3.size;clear o3 g3 s1 h3) | (at_builtin;refine oX rfl (.tmp 90) (.tmp 97) rfl w2.heap.size _ ([]++D.it.take k0) rfl O3.out ⟨gi,(k0+1) * 4,none⟩ (ni -(k0+1)) (im -(k0+1)) (D.it.drop (k0+1)) (by rw[List.length_drop,HNI.out]) (by first | rfl | simp) (fun j u hu=>by rw[sO];exact G3.out.cell (CI.out ((k0+1) * 4+j) u (by rw[<- List.take_append_drop (k0+1) D.it,List.flatMap_append,List.getElem?_append_right (by rw[oZ,List.length_take,HNI.out];omega),oZ,List.length_take,HNI.out,show (k0+1) * 4+j -min (k0+1) ni * 4=j by omega];exact hu)) (by simp[Value.ownBlock])) (by rw[L3.out];omega) z3 ?_;intro v4 w4 o4 g4 h4;have L4:=Hid.mk' (show (([]++D.it.take k0)++D.it.drop (k0+1)).length=ni -1 by rw[List.length_append,L3.out,List.length_drop,HNI.out];omega);obtain ⟨a4,c4,e4'⟩:=aJ o4;rw[L4.out] at e4';subst e4';have O4:=Hid.mk' o4;have G4:=Hid.mk' g4;have A4:=Hid.mk' ((A2.out.only (Only.grown G3.out) (by simp[Value.ownBlock])).only (Only.grown g4) (fun e=>by have:=(O3.out.lt _ e).1;omega));have t4:=A4.out.c 1 _ rfl;have tf:=A4.out.f;have tl:=A4.out.lt;clear o4 g4 t1))
     go_wp2
     go_roundw
     case rel=>
      refine ⟨k+1,.slice a4 (ni -1) c4,.slice oa D.ob.length om,by omega,by omega,by go_num,?_⟩
      rw[TS.out,ED.out]
      have q4:=O4.out
      rw[List.nil_append,HDEL.out] at q4
      have vl:∀j,Value.ownBlock (.slice a4 (ni -1) c4)=some j->wr.heap.size<=j:=fun j hj=>by have:=(O4.out.lt j hj).1;omega
      have v3l:∀j,Value.ownBlock (.slice a3 k0 c3)=some j->wr.heap.size<=j:=fun j hj=>by have:=(O3.out.lt j hj).1;omega
      have o5:Only wr w4 (fun j=>j=w1.heap.size):=(((Only.grown G2.out).mono (by simp)).trans ((Only.grown G3.out).mono (by simp[Value.ownBlock]))).trans ((Only.grown G4.out).mono (fun j _ e=>.inr (v3l j e)))
      have o6:Only wr (w4.setCell ⟨w1.heap.size,1,none⟩ (.slice a4 (ni -1) c4)) (fun j=>j=w1.heap.size):=o5.trans ((Only.set w4 _ 1 _).mono (fun _ _ e=>.inl e))
      refine ST.out.step (o6.mono (fun _ _ e=>.inl e)) (A4.out.put 1 _ (by simp[kN])) (bP (aH q4 _ 1 _ (fun e=>by have:=vl _ e;omega)) (by omega)) (o6.own ST.out.ob (fun j hj e=>ST.out.n2 (e ▸ hj))) (fun j hj=>.inr (vl j hj)) (fun j hj=>.inl hj) (fun j hj e=>?_)
      have:=vl j hj
      have:=(ST.out.ob.lt j e).2
      omega
     case measure=>simp[intOf];omega
    ·obtain rfl:ni=k0+1:=by omega
     obtain rfl:im=k0+1:=by omega
     go_wp2_with (first | (at_builtin;refine oX rfl (.tmp 82) (.tmp 88) rfl w2.heap.size (.slice none 0 0) [] rfl (OwnI.nil _ _) ⟨gi,0,none⟩ k0 (k0+1) (D.it.take k0) (by rw[List.length_take,HNI.out];omega) rfl (fun j u hu=>by rw[sO,Nat.zero_add];exact CI.out j u (by rw[<- List.take_append_drop k0 D.it,List.flatMap_append,List.getElem?_append_left (List.getElem?_eq_some_iff.1 hu).1];exact hu)) (by simp;omega) (Nat.le_refl _) ?_;intro v3 w3 o3 g3 h3;have L3:=Hid.mk' (show ([]++D.it.take k0).length=k0 by rw[List.nil_append,List.length_take];exact Nat.min_eq_left (by rw[HNI.out];omega));obtain ⟨a3,c3,e3'⟩:=aJ o3;rw[L3.out] at e3';subst e3';have O3:=Hid.mk' o3;have G3:=Hid.mk' g3;have t1:=g3.cell s1 (by simp[Value.ownBlock]);have z3:=g3.size;clear o3 g3 s1 h3) | (at_builtin;refine oX rfl (.tmp 90) (.tmp 97) rfl w2.heap.size _ ([]++D.it.take k0) rfl O3.out ⟨gi,0,none⟩ (0) (0) (D.it.drop (k0+1)) (by rw[List.length_drop,HNI.out];omega) (by first | rfl | simp) (fun j u hu=>by have e0:D.it.drop (k0+1)=[]:=List.drop_eq_nil_of_le (by rw[HNI.out];omega);rw[e0] at hu;simp at hu) (by rw[L3.out];omega) z3 ?_;intro v4 w4 o4 g4 h4;have L4:=Hid.mk' (show (([]++D.it.take k0)++D.it.drop (k0+1)).length=k0 by rw[List.length_append,L3.out,List.length_drop,HNI.out];omega);obtain ⟨a4,c4,e4'⟩:=aJ o4;rw[L4.out] at e4';subst e4';have O4:=Hid.mk' o4;have G4:=Hid.mk' g4;have A4:=Hid.mk' ((A2.out.only (Only.grown G3.out) (by simp[Value.ownBlock])).only (Only.grown g4) (fun e=>by have:=(O3.out.lt _ e).1;omega));have t4:=A4.out.c 1 _ rfl;have tf:=A4.out.f;have tl:=A4.out.lt;clear o4 g4 t1))
     go_wp2
     go_roundw
     case rel=>
      refine ⟨k+1,.slice a4 (k0) c4,.slice oa D.ob.length om,by omega,by omega,by go_num,?_⟩
      rw[TS.out,ED.out]
      have q4:=O4.out
      rw[List.nil_append,HDEL.out] at q4
      have vl:∀j,Value.ownBlock (.slice a4 (k0) c4)=some j->wr.heap.size<=j:=fun j hj=>by have:=(O4.out.lt j hj).1;omega
      have v3l:∀j,Value.ownBlock (.slice a3 k0 c3)=some j->wr.heap.size<=j:=fun j hj=>by have:=(O3.out.lt j hj).1;omega
      have o5:Only wr w4 (fun j=>j=w1.heap.size):=(((Only.grown G2.out).mono (by simp)).trans ((Only.grown G3.out).mono (by simp[Value.ownBlock]))).trans ((Only.grown G4.out).mono (fun j _ e=>.inr (v3l j e)))
      have o6:Only wr (w4.setCell ⟨w1.heap.size,1,none⟩ (.slice a4 (k0) c4)) (fun j=>j=w1.heap.size):=o5.trans ((Only.set w4 _ 1 _).mono (fun _ _ e=>.inl e))
      refine ST.out.step (o6.mono (fun _ _ e=>.inl e)) (A4.out.put 1 _ (by simp[kN])) (bP (aH q4 _ 1 _ (fun e=>by have:=vl _ e;omega)) (by omega)) (o6.own ST.out.ob (fun j hj e=>ST.out.n2 (e ▸ hj))) (fun j hj=>.inr (vl j hj)) (fun j hj=>.inl hj) (fun j hj e=>?_)
      have:=vl j hj
      have:=(ST.out.ob.lt j e).2
      omega
     case measure=>simp[intOf];omega
   ·rw[kk] at d0
    have ED:Hid (D.doR no cO x.p=D.tick no cO):=by
     show _=_
     unfold Ds.doR
     rw[if_neg (by omega),if_neg (by omega),if_pos kk]
    clear dok
    have gA:=World.grownBy_alloc wr (.cells #[.int .i64 3,.int .i64 x.p.seq,.int .i64 x.p.it.sh,.int .i64 x.p.it.nu,.float .f32 x.p.it.pl,.float .f32 x.p.it.sp,.int .i64 x.p.mks.g,.int .i64 x.p.mks.m,.int .i64 x.p.mks.s,.int .i64 x.p.mks.a,.int .i64 x.p.mks.n,.slice yb x.p.items.length yc,.slice zb x.p.outs.length zc] 139) none
    have TI:=Hid.mk' (zB no w1.heap.size w.heap.size cO D _ _ _ (ST.out.at_.grown gA) (aO ST.out.it gA) (aO ST.out.ob gA) ST.out.n1 ST.out.n2 ST.out.n3 (by have:=(ST.out.g.trans gA).size;exact this) dl.1 dl.2 (fun y hy=>(fI (HAS.out.it y hy).1).2) HAS.out.mo.s0 HAS.out.mo.s1)
    go_wp2_with fail
    refine Calls.mono TI.out ?_
    rintro e w2 ⟨rfl,vi',vo',a2,oi2,oo2,on2,nv2,ne2,nb1,nb2⟩
    have ON2:Hid (Only wr w2 (fun j=>j=w1.heap.size∨Value.ownBlock (.slice oa D.ob.length om)=some j)):=((Only.grown gA).mono (by simp)).trans (on2.mono (fun _ _ e=>.inl e))
    have zz:wr.heap.size<=(wr.alloc (.cells #[.int .i64 3,.int .i64 x.p.seq,.int .i64 x.p.it.sh,.int .i64 x.p.it.nu,.float .f32 x.p.it.pl,.float .f32 x.p.it.sp,.int .i64 x.p.mks.g,.int .i64 x.p.mks.m,.int .i64 x.p.mks.s,.int .i64 x.p.mks.a,.int .i64 x.p.mks.n,.slice yb x.p.items.length yc,.slice zb x.p.outs.length zc] 139)).heap.size:=by simp
    have hB:=ST.out.g.size
    clear gA on2
    go_wp2
    go_roundw
    case rel=>
     refine ⟨k+1,vi',vo',by omega,by omega,by go_num,?_⟩
     rw[TS.out,ED.out]
     exact ST.out.step ON2.out a2 (bP oi2 (by omega)) oo2 (fun j hj=>.inr (by have:=(oi2.lt j hj).1;omega)) (fun j hj=>by rcases nv2 j hj with e | e;exact .inl e;exact .inr (by omega)) ne2
    case measure=>simp[intOf];omega
   ·rw[kk] at d0
    have ED:Hid (D.doR no cO x.p=⟨iH x.p.it D.it,D.ob,{D.ms with n:=x.p.seq}⟩):=by
     show _=_
     unfold Ds.doR
     rw[if_neg (by omega),if_neg (by omega),if_neg (by omega),if_pos kk]
    obtain ⟨q1,q2,q3,q4,q5,q6,q7⟩:=dok.arr kk
    have hid:=(fI q4).1
    clear dok q1 q2 q3 q4 q5 q6 q7
    have gA:=World.grownBy_alloc wr (.cells #[.int .i64 4,.int .i64 x.p.seq,.int .i64 x.p.it.sh,.int .i64 x.p.it.nu,.float .f32 x.p.it.pl,.float .f32 x.p.it.sp,.int .i64 x.p.mks.g,.int .i64 x.p.mks.m,.int .i64 x.p.mks.s,.int .i64 x.p.mks.a,.int .i64 x.p.mks.n,.slice yb x.p.items.length yc,.slice zb x.p.outs.length zc] 139) none
    have R0:=At.new wr [.int .i64 4,.int .i64 x.p.seq,.int .i64 x.p.it.sh,.int .i64 x.p.it.nu,.float .f32 x.p.it.pl,.float .f32 x.p.it.sp,.int .i64 x.p.mks.g,.int .i64 x.p.mks.m,.int .i64 x.p.mks.s,.int .i64 x.p.mks.a,.int .i64 x.p.mks.n,.slice yb x.p.items.length yc,.slice zb x.p.outs.length zc] 139
    have AD:=Hid.mk' (aBR no w1.heap.size D.it x.p.it _ _ D.ms _ (ST.out.at_.grown gA) (Lies.of_own (aO ST.out.it gA)) dl.1 hid ids.out)
    go_wp2_with fail
    refine Calls.mono AD.out ?_
    rintro e w2 ⟨rfl,v',a2,o2,on2⟩
    have R2:=R0.only on2 (fun e=>hbx e.symm)
    have t1:=R2.c 1 _ rfl
    have t7:=a2.c 7 _ rfl
    have tf:=a2.f
    have bl2:=a2.lt
    have xl2:=R2.lt
    have ON2:Hid (Only wr w2 (fun j=>j=w1.heap.size)):=((Only.grown gA).mono (by simp)).trans (on2.mono (fun _ _ e=>.inl e))
    have A2:=Hid.mk' a2
    have O2:=Hid.mk' o2
    clear a2 o2 on2 R2 R0 gA
    go_wp2
    go_roundw
    case rel=>
     refine ⟨k+1,v',.slice oa D.ob.length om,by omega,by omega,by go_num,?_⟩
     rw[TS.out,ED.out]
     have vl:∀j,v'.ownBlock=some j->wr.heap.size<=j:=fun j hj=>by have:=(O2.out.lt j hj).1;simp at this;omega
     have o3:Only wr (w2.setCell ⟨w1.heap.size,7,none⟩ (.int .i64 x.p.seq)) (fun j=>j=w1.heap.size):=ON2.out.trans ((Only.set w2 _ 7 _).mono (fun _ _ e=>.inl e))
     refine ST.out.step (o3.mono (fun _ _ e=>.inl e)) (A2.out.put 7 _ (by simp[kN])) (bP (aH O2.out _ 7 _ (fun e=>by have:=vl _ e;omega)) (by have:=ST.out.g.size;simp;omega)) (o3.own ST.out.ob (fun j hj e=>ST.out.n2 (e ▸ hj))) (fun j hj=>.inr (vl j hj)) (fun j hj=>.inl hj) (fun j hj e=>?_)
     have:=vl j hj
     have:=(ST.out.ob.lt j e).2
     omega
    case measure=>simp[intOf];omega
   ·rw[kk] at d0
    have ED:Hid (D.doR no cO x.p=⟨D.it,bY x.p.seq D.ob,{D.ms with a:=x.p.seq}⟩):=by
     show _=_
     unfold Ds.doR
     rw[if_neg (by omega),if_neg (by omega),if_neg (by omega),if_neg (by omega),if_pos kk]
    clear dok
    obtain ⟨w3,rfl⟩:∃W,W=wr:=⟨_,rfl⟩
    have t6:=ST.out.at_.c 6 _ rfl
    have tf:=ST.out.at_.f
    have P:Hid (At ((w3.setCell ⟨w1.heap.size,6,none⟩ (.int .i64 x.p.seq)).alloc (.cells #[.int .i64 5,.int .i64 x.p.seq,.int .i64 x.p.it.sh,.int .i64 x.p.it.nu,.float .f32 x.p.it.pl,.float .f32 x.p.it.sp,.int .i64 x.p.mks.g,.int .i64 x.p.mks.m,.int .i64 x.p.mks.s,.int .i64 x.p.mks.a,.int .i64 x.p.mks.n,.slice yb x.p.items.length yc,.slice zb x.p.outs.length zc] 139)) w1.heap.size (kN no (.slice ia D.it.length im) (.slice oa D.ob.length om) {D.ms with a:=x.p.seq})/\At ((w3.setCell ⟨w1.heap.size,6,none⟩ (.int .i64 x.p.seq)).alloc (.cells #[.int .i64 5,.int .i64 x.p.seq,.int .i64 x.p.it.sh,.int .i64 x.p.it.nu,.float .f32 x.p.it.pl,.float .f32 x.p.it.sp,.int .i64 x.p.mks.g,.int .i64 x.p.mks.m,.int .i64 x.p.mks.s,.int .i64 x.p.mks.a,.int .i64 x.p.mks.n,.slice yb x.p.items.length yc,.slice zb x.p.outs.length zc] 139)) w3.heap.size [.int .i64 5,.int .i64 x.p.seq,.int .i64 x.p.it.sh,.int .i64 x.p.it.nu,.float .f32 x.p.it.pl,.float .f32 x.p.it.sp,.int .i64 x.p.mks.g,.int .i64 x.p.mks.m,.int .i64 x.p.mks.s,.int .i64 x.p.mks.a,.int .i64 x.p.mks.n,.slice yb x.p.items.length yc,.slice zb x.p.outs.length zc]/\Only w3 ((w3.setCell ⟨w1.heap.size,6,none⟩ (.int .i64 x.p.seq)).alloc (.cells #[.int .i64 5,.int .i64 x.p.seq,.int .i64 x.p.it.sh,.int .i64 x.p.it.nu,.float .f32 x.p.it.pl,.float .f32 x.p.it.sp,.int .i64 x.p.mks.g,.int .i64 x.p.mks.m,.int .i64 x.p.mks.s,.int .i64 x.p.mks.a,.int .i64 x.p.mks.n,.slice yb x.p.items.length yc,.slice zb x.p.outs.length zc] 139)) (fun j=>j=w1.heap.size)):=by
     refine Hid.mk' ⟨(ST.out.at_.put 6 (.int .i64 x.p.seq) (by simp[kN])).alloc _,?_,(Only.set w3 _ 6 _).trans ((Only.grown (World.grownBy_alloc _ _ none)).mono (by simp))⟩
     have:=At.new (w3.setCell ⟨w1.heap.size,6,none⟩ (.int .i64 x.p.seq)) [.int .i64 5,.int .i64 x.p.seq,.int .i64 x.p.it.sh,.int .i64 x.p.it.nu,.float .f32 x.p.it.pl,.float .f32 x.p.it.sp,.int .i64 x.p.mks.g,.int .i64 x.p.mks.m,.int .i64 x.p.mks.s,.int .i64 x.p.mks.a,.int .i64 x.p.mks.n,.slice yb x.p.items.length yc,.slice zb x.p.outs.length zc] 139
     simpa using this
    obtain ⟨oa',oc',eo,ho⟩:=vW ST.out.ob
    obtain ⟨rfl,rfl⟩:oa=oa'/\om=oc':=by injection eo with e1 _ e2;exact ⟨e1,e2⟩
    have HO:=Hid.mk' ho
    clear ho eo
    go_wp2_with fail
    generalize ((w3.setCell ⟨w1.heap.size,6,none⟩ (.int .i64 x.p.seq)).alloc (.cells #[.int .i64 5,.int .i64 x.p.seq,.int .i64 x.p.it.sh,.int .i64 x.p.it.nu,.float .f32 x.p.it.pl,.float .f32 x.p.it.sp,.int .i64 x.p.mks.g,.int .i64 x.p.mks.m,.int .i64 x.p.mks.s,.int .i64 x.p.mks.a,.int .i64 x.p.mks.n,.slice yb x.p.items.length yc,.slice zb x.p.outs.length zc] 139))=W at P ⊢
    have LW:Hid (w3.heap.size<W.heap.size/\w1.heap.size<w3.heap.size):=Hid.mk' ⟨P.out.2.1.lt,ST.out.at_.lt⟩
    go_loopw [13,14] (fun lf f wq=>∃q:Nat,q<=D.ob.length/\f=.int .i64 q/\OwnE W.heap.size wq lf (bY x.p.seq (D.ob.take q))/\Only W wq (fun j=>W.heap.size<=j)) (fun _ f _=>D.ob.length -(intOf f).toNat)
    case atStart=>exact ⟨0,by omega,rfl,OwnE.nil _ _,Only.refl _ _⟩
    case round=>
     obtain ⟨q,hq,rfl,oq,nq'⟩:=hrel
     have OQ:=Hid.mk' oq
     have NQ:=Hid.mk' nq'
     have s2:=NQ.out.cell (P.out.1.c 2 _ rfl) (by have:=LW.out;show ¬W.heap.size<=w1.heap.size;omega)
     have r1:=NQ.out.cell (P.out.2.1.c 1 _ rfl) (by have:=LW.out;show ¬W.heap.size<=w3.heap.size;omega)
     have l1:w1.heap.size<wr.heap.size:=World.block_lt_of_cell? wr _ s2
     have l3:w3.heap.size<wr.heap.size:=World.block_lt_of_cell? wr _ r1
     clear oq nq'
     by_cases hlt:q<D.ob.length
     ·obtain ⟨g,off,rfl,hc⟩:=HO.out (by omega)
      have gl:g<w3.heap.size:=(ST.out.ob.lt g rfl).2
      have gn:g≠w1.heap.size:=fun e=>ST.out.n2 (by rw[<- e];rfl)
      obtain ⟨y,hy⟩:∃y,D.ob[q]=y:=⟨_,rfl⟩
      have d:∀j (hj:j<5) u,y.cells[j]?=some u->wr.cell? ⟨g,off+q * 5+j,none⟩=some u:=fun j hj u hu=>by
       have:=hc (5 * q+j) u (by rw[dY D.ob q j hlt hj,hy];exact hu)
       rw[show off+(5 * q+j)=off+q * 5+j by omega] at this
       exact NQ.out.cell (P.out.2.2.cell this gn) (by have:=LW.out;show ¬W.heap.size<=g;omega)
      have e0:=d 0 (by omega) _ rfl
      have e1:=d 1 (by omega) _ rfl
      have e2:=d 2 (by omega) _ rfl
      have e3:=d 3 (by omega) _ rfl
      have e4:=d 4 (by omega) _ rfl
      rw[Nat.add_zero] at e0
      have tk:Hid (D.ob.take (q+1)=D.ob.take q++[y]):=Hid.mk' (by rw[List.take_succ_eq_append_getElem hlt,hy])
      have z0:(0:Int)<=(q:Int):=by omega
      have z1:(q:Int)<(D.ob.length:Int):=by omega
      clear d hc hy
      by_cases sn:x.p.seq<y.sq
      ·have sd:decide (x.p.seq<y.sq)=true:=decide_eq_true sn
       have ke:Hid (bY x.p.seq (D.ob.take (q+1))=bY x.p.seq (D.ob.take q)++[y]):=Hid.mk' (by
        rw[tk.out];unfold bY
        rw[List.filter_append,List.filter_cons_of_pos (by simp[mS];omega),List.filter_nil])
       have ln:Hid ((bY x.p.seq (D.ob.take q)).length+1<=1000000):=Hid.mk' (by
        have:=List.length_filter_le (fun e=> !mS x.p.seq e) (D.ob.take q)
        rw[List.length_take] at this
        have:=dl.2
        show (List.filter _ _).length+1<=_
        omega)
       obtain ⟨ac,hac⟩:∃ac,bY x.p.seq (D.ob.take q)=ac:=⟨_,rfl⟩
       rw[hac] at OQ ke ln
       clear hac
       have hB:Hid (W.heap.size<=wr.heap.size):=Hid.mk' NQ.out.size
       go_wp2_with fail
       go_quiet (fail)
       have OX:Hid (OwnE W.heap.size (wr.drewN nq) u13 ac):=Hid.mk' ((Only.grown (aL (aD _ none) nq)).own OQ.out (by simp))
       go_wp2_with (at_builtin;refine aBs rfl _ _ rfl W.heap.size u13 ac rfl (World.ownsRow.alloc OX.out _) ⟨wr.heap.size,0,none⟩ y rfl (aW (wr.drewN nq) y.cells _ _ rfl) ln.out (by have:=hB.out;simp;omega) ?c4)
       case c4=>
        intro v' w' o' g' h'
        have ON:Hid (Only W w' (fun j=>W.heap.size<=j)):=Hid.mk' ((NQ.out.trans ((Only.grown ((aL (aD wr none) nq).trans (World.grownBy_alloc _ _ none))).mono (by simp))).trans ((Only.grown g').mono (fun j _ e=>.inl (OX.out.lt j e).1)))
        have OO:=Hid.mk' o'
        clear o' g' h'
        go_wp2
        refine ⟨⟨q+1,by omega,by go_num,?_,ON.out⟩,by simp[intOf];omega⟩
        rw[ke.out]
        exact OO.out
      ·have sd:decide (x.p.seq<y.sq)=false:=decide_eq_false sn
       have ke:Hid (bY x.p.seq (D.ob.take (q+1))=bY x.p.seq (D.ob.take q)):=Hid.mk' (by
        rw[tk.out];unfold bY
        rw[List.filter_append,List.filter_cons_of_neg (by simp[mS];omega),List.filter_nil,List.append_nil])
       go_wp2_with fail
       go_quiet (fail)
       go_wp2
       refine ⟨⟨q+1,by omega,by go_num,?_,NQ.out.trans ((Only.grown (aL (aD wr none) nq)).mono (by simp))⟩,by simp[intOf];omega⟩
       rw[ke.out]
       exact (Only.grown (aL (aD _ none) nq)).own OQ.out (by simp)
     ·obtain rfl:q=D.ob.length:=by omega
      have z1:¬(D.ob.length:Int)<(D.ob.length:Int):=by omega
      rw[List.take_length] at OQ
      obtain ⟨la,lc,rfl⟩:=aJ OQ.out
      have AQ:=Hid.mk' (P.out.1.only NQ.out (by have:=LW.out;show ¬W.heap.size<=w1.heap.size;omega))
      have a2:=AQ.out.c 2 _ rfl
      have af:=AQ.out.f
      go_wp2
      go_roundw
      case rel=>
       refine ⟨k+1,.slice ia D.it.length im,.slice la (bY x.p.seq D.ob).length lc,by omega,by omega,by go_num,?_⟩
       rw[TS.out,ED.out]
       have vl:∀j,Value.ownBlock (.slice la (bY x.p.seq D.ob).length lc)=some j->W.heap.size<=j:=fun j hj=>(OQ.out.lt j hj).1
       have o1:Only w3 wr (fun j=>j=w1.heap.size):=P.out.2.2.trans (NQ.out.mono (fun j _ e=>.inr (by have:=LW.out;omega)))
       have o2:Only w3 (wr.setCell ⟨w1.heap.size,2,none⟩ (.slice la (bY x.p.seq D.ob).length lc)) (fun j=>j=w1.heap.size):=o1.trans ((Only.set wr _ 2 _).mono (fun _ _ e=>.inl e))
       refine ST.out.step (o2.mono (fun _ _ e=>.inl e)) (AQ.out.put 2 _ (by simp[kN])) (o2.own ST.out.it (fun j hj e=>ST.out.n1 (e ▸ hj))) (bP (aH OQ.out _ 2 _ (fun e=>by have:=vl _ e;have:=LW.out;omega)) (by have:=ST.out.g.size;have:=LW.out;omega)) (fun j hj=>.inl hj) (fun j hj=>.inr (by have:=vl j hj;have:=LW.out;omega)) (fun j hj e=>?_)
       have:=vl j e
       have:=(ST.out.it.lt j hj).2
       have:=LW.out
       omega
      case measure=>simp[intOf];omega
  ·have hkn:k=n:=by omega
   subst hkn
   have ET:Hid ((rs.map Rw.p).take k=rs.map Rw.p):=List.take_of_length_le (by simp;omega)
   go_wp2
   go_ret
   have q:=ST.out
   rw[ET.out,HRS.out] at q
   exact ⟨_,_,_,rfl,q.hb,q.at_,q.it,q.ob,q.n1,q.n2,q.n3,q.g⟩
structure PG (cI cO cJ:Int)(s0 s1:Sh)(r0 r1:Rs):Prop where
 g0:Good s0 r0
 g1:Good s1 r1
 n0:s0.no=0
 n1:s1.no=1
 c0:s0.cI=cI/\s0.cO=cO/\s0.cJ=cJ
 c1:s1.cI=cI/\s1.cO=cO/\s1.cJ=cJ
theorem PG.at {cI cO cJ:Int}{s0 s1:Sh}{r0 r1:Rs}(h:PG cI cO cJ s0 s1 r0 r1){i:Int}(hi:aV i):Good (aC s0 s1 i) (aC r0 r1 i)/\((aC s0 s1 i).no:Int)=i/\(aC s0 s1 i).cI=cI/\(aC s0 s1 i).cO=cO/\(aC s0 s1 i).cJ=cJ:=by
 rcases hi with rfl | rfl
 ·exact ⟨h.g0,by show (s0.no:Int)=0;rw[h.n0];rfl,h.c0⟩
 ·exact ⟨h.g1,by show (s1.no:Int)=1;rw[h.n1];rfl,h.c1⟩
theorem PG.up {cI cO cJ:Int}{s0 s1:Sh}{r0 r1:Rs}(h:PG cI cO cJ s0 s1 r0 r1)(i:Int):upE r0.up r1.up i=upE s0.up s1.up i:=by
 rw[h.g0.up,h.g1.up]
theorem aJh {u0 u1:Bool}{i:Int}(h:upE u0 u1 i=0):aV i/\aC u0 u1 i=true:=by
 unfold upE at h
 split at h
 ·rename_i hi
  refine ⟨hi,?_⟩
  split at h
  ·assumption
  ·omega
 ·omega
theorem PG.okup {cI cO cJ:Int}{s0 s1:Sh}{r0 r1:Rs}(h:PG cI cO cJ s0 s1 r0 r1){i:Int}(hu:upE r0.up r1.up i=0):aV i/\(aC s0 s1 i).up=true:=by
 rw[h.up] at hu
 obtain ⟨h1,h2⟩:=aJh hu
 refine ⟨h1,?_⟩
 rcases h1 with rfl | rfl<;>exact h2
theorem Good.state {s:Sh}{r:Rs}(h:Good s r)(hu:s.up=true):fZ s.no s.cO (aR (r.d.file r.ct))=s.ds/\Rp s.no s.cI s.cO (aR (r.d.file r.ct)) (fZ s.no s.cO (aR (r.d.file r.ct))):=by
 obtain ⟨rs,told,hf,hds,rp,_⟩:=h.has hu
 have e:aR (r.d.file r.ct)=rs:=by rw[h.rct,h.dk.file,hf];exact (nQ told).1
 rw[e,<- hds]
 exact ⟨rfl,rp⟩
structure SG (w w':World)(bs no:Nat)(d:Ds)(vi vo:Value):Prop where
 hb:w.heap.size<=bs
 at_:At w' bs (kN no vi vo d.ms)
 it:OwnI w.heap.size w' vi d.it
 ob:OwnE w.heap.size w' vo d.ob
 n1:vi.ownBlock≠some bs
 n2:vo.ownBlock≠some bs
 n3:∀j,vi.ownBlock=some j->vo.ownBlock≠some j
 g:w.grownBy w' none
theorem dP (bp b0 b1:Nat)(cI cO cJ:Int)(s0 s1:Sh)(r0 r1:Rs)(i:Int)(w:World){f5 f6:Value}(h:RY w bp b0 b1 cI cO cJ r0 r1 f5 f6)(pg:PG cI cO cJ s0 s1 r0 r1)(hu:upE r0.up r1.up i=0):
  Calls prog 97 #[.pointer (some ⟨bp,0,none⟩),.int .i64 i] w fun e w'=>∃bs vi vo,e=.returned (.pointer (some ⟨bs,0,none⟩))/\SG w w' bs (aC s0 s1 i).no (aC s0 s1 i).ds vi vo:=by
 obtain ⟨hi,up⟩:=pg.okup hu
 obtain ⟨g,hn,e1,e2,e3⟩:=pg.at hi
 obtain ⟨ha,hne⟩:=h.at hi
 obtain ⟨d1,d2⟩:=g.state up
 have hno:=g.no
 have hct:(aC r0 r1 i).ct<2:=by rw[g.rct];exact g.ct
 have hI:cI<=16:=by rw[<- e1];exact g.i1
 have hO:cO<=8:=by rw[<- e2];exact g.o1
 have ok:=g.rok
 generalize hs:aC s0 s1 i=s at *
 generalize hr:aC r0 r1 i=r at *
 obtain ⟨n,hn'⟩:∃n,s.no=n:=⟨_,rfl⟩
 rw[hn'] at hn d1 d2 hno ⊢
 rw[e1] at d2
 rw[e2] at d1 d2
 subst hn
 refine (wI bp b0 b1 cI cO cJ _ _ n r w h.at_ ha hno ok hct hI hO d2).mono ?_
 rintro e w' ⟨bs,vi,vo,he,h1,h2,h3,h4,h5,h6,h7,h8⟩
 rw[d1] at h2 h3 h4
 exact ⟨bs,vi,vo,he,h1,h2,h3,h4,h5,h6,h7,h8⟩
theorem aBe (bp b0 b1:Nat)(cI cO cJ:Int)(s0 s1:Sh)(r0 r1:Rs)(i:Int)(w:World){f5 f6:Value}(h:RY w bp b0 b1 cI cO cJ r0 r1 f5 f6)(pg:PG cI cO cJ s0 s1 r0 r1):
  Calls prog 109 #[.pointer (some ⟨bp,0,none⟩),.int .i64 i] w fun e w'=>(upE r0.up r1.up i≠0->e=.returned (.tuple #[.slice none 0 0,.int .i64 (upE r0.up r1.up i)])/\w'=w)/\(upE r0.up r1.up i=0->∃v,e=.returned (.tuple #[v,.int .i64 0])/\OwnI w.heap.size w' v (aC s0 s1 i).ds.it/\w.grownBy w' none):=by
 have U:=Hid.mk' (gV bp b0 b1 cI cO cJ _ _ i r0 r1 w h.at_ h.a0 h.a1)
 by_cases c:upE r0.up r1.up i=0
 ·have ST:=Hid.mk' (dP bp b0 b1 cI cO cJ s0 s1 r0 r1 i w h pg c)
  have C:=Hid.mk' c
  rw[c] at U
  clear h pg c
  go_enter func109,ntmps109
  go_wp2_with fail
  refine Calls.mono U.out ?_
  rintro e w1 ⟨rfl,rfl⟩
  go_wp2_with fail
  refine Calls.mono ST.out ?_
  rintro e w2 ⟨bs,vi,vo,rfl,sg⟩
  have SGH:=Hid.mk' sg
  obtain ⟨av,cv,rfl⟩:=aJ sg.it
  have c1:=sg.at_.c 1 _ rfl
  clear sg
  go_wp2
  go_ret2
  exact ⟨fun h=>absurd C.out h,fun _=>⟨_,rfl,SGH.out.it,SGH.out.g⟩⟩
 ·have cb:(upE r0.up r1.up i !=0)=true:=by simpa using c
  generalize upE r0.up r1.up i=z at *
  clear h pg
  go_enter func109,ntmps109
  go_wp2_with fail
  refine Calls.mono U.out ?_
  rintro e w1 ⟨rfl,rfl⟩
  go_wp2
  go_ret2
  exact ⟨fun _=>⟨rfl,rfl⟩,fun h=>absurd h c⟩
theorem zD (bp b0 b1:Nat)(cI cO cJ:Int)(s0 s1:Sh)(r0 r1:Rs)(i:Int)(w:World){f5 f6:Value}(h:RY w bp b0 b1 cI cO cJ r0 r1 f5 f6)(pg:PG cI cO cJ s0 s1 r0 r1):
  Calls prog 111 #[.pointer (some ⟨bp,0,none⟩),.int .i64 i] w fun e w'=>(upE r0.up r1.up i≠0->e=.returned (.tuple #[.slice none 0 0,.int .i64 (upE r0.up r1.up i)])/\w'=w)/\(upE r0.up r1.up i=0->∃v,e=.returned (.tuple #[v,.int .i64 0])/\OwnE w.heap.size w' v (aC s0 s1 i).ds.ob/\w.grownBy w' none):=by
 have U:=Hid.mk' (gV bp b0 b1 cI cO cJ _ _ i r0 r1 w h.at_ h.a0 h.a1)
 by_cases c:upE r0.up r1.up i=0
 ·have ST:=Hid.mk' (dP bp b0 b1 cI cO cJ s0 s1 r0 r1 i w h pg c)
  have C:=Hid.mk' c
  rw[c] at U
  clear h pg c
  go_enter func111,ntmps111
  go_wp2_with fail
  refine Calls.mono U.out ?_
  rintro e w1 ⟨rfl,rfl⟩
  go_wp2_with fail
  refine Calls.mono ST.out ?_
  rintro e w2 ⟨bs,vi,vo,rfl,sg⟩
  have SGH:=Hid.mk' sg
  obtain ⟨av,cv,rfl⟩:=aJ sg.ob
  have c1:=sg.at_.c 2 _ rfl
  clear sg
  go_wp2
  go_ret2
  exact ⟨fun h=>absurd C.out h,fun _=>⟨_,rfl,SGH.out.ob,SGH.out.g⟩⟩
 ·have cb:(upE r0.up r1.up i !=0)=true:=by simpa using c
  generalize upE r0.up r1.up i=z at *
  clear h pg
  go_enter func111,ntmps111
  go_wp2_with fail
  refine Calls.mono U.out ?_
  rintro e w1 ⟨rfl,rfl⟩
  go_wp2
  go_ret2
  exact ⟨fun _=>⟨rfl,rfl⟩,fun h=>absurd h c⟩
theorem aBf (bp b0 b1:Nat)(cI cO cJ:Int)(s0 s1:Sh)(r0 r1:Rs)(i:Int)(w:World){f5 f6:Value}(h:RY w bp b0 b1 cI cO cJ r0 r1 f5 f6)(pg:PG cI cO cJ s0 s1 r0 r1):
  Calls prog 113 #[.pointer (some ⟨bp,0,none⟩),.int .i64 i] w fun e w'=>w.grownBy w' none/\(upE r0.up r1.up i≠0->e=.returned (.tuple #[.agg #[.int .i64 0,.int .i64 0,.int .i64 0,.int .i64 0,.int .i64 0],.int .i64 (upE r0.up r1.up i)]))/\(upE r0.up r1.up i=0->e=.returned (.tuple #[.agg #[.int .i64 (aC s0 s1 i).ms.g,.int .i64 (aC s0 s1 i).ms.m,.int .i64 (aC s0 s1 i).ms.s,.int .i64 (aC s0 s1 i).ms.a,.int .i64 (aC s0 s1 i).ms.n],.int .i64 0])):=by
 have g0:=World.grownBy_alloc w (.cells #[.int .i64 0,.int .i64 0,.int .i64 0,.int .i64 0,.int .i64 0] 44) none
 have h':=h.grown g0
 have U:=Hid.mk' (gV bp b0 b1 cI cO cJ _ _ i r0 r1 _ h'.at_ h'.a0 h'.a1)
 by_cases c:upE r0.up r1.up i=0
 ·have ST:=Hid.mk' (dP bp b0 b1 cI cO cJ s0 s1 r0 r1 i _ h' pg c)
  have C:=Hid.mk' c
  have A0:=Hid.mk' (At.new w [.int .i64 0,.int .i64 0,.int .i64 0,.int .i64 0,.int .i64 0] 44)
  have G0:=Hid.mk' g0
  rw[c] at U
  clear h pg c h' g0
  go_enter func113,ntmps113
  go_wp2_with fail
  refine Calls.mono U.out ?_
  rintro e w1 ⟨rfl,rfl⟩
  go_wp2_with fail
  refine Calls.mono ST.out ?_
  rintro e w2 ⟨bs,vi,vo,rfl,sg⟩
  have A2:=A0.out.grown sg.g
  have c3:=sg.at_.c 3 _ rfl
  have c4:=sg.at_.c 4 _ rfl
  have c5:=sg.at_.c 5 _ rfl
  have c6:=sg.at_.c 6 _ rfl
  have c7:=sg.at_.c 7 _ rfl
  have hf:=A2.f
  have k0:=A2.c 0 _ rfl
  have k1:=A2.c 1 _ rfl
  have k2:=A2.c 2 _ rfl
  have k3:=A2.c 3 _ rfl
  have k4:=A2.c 4 _ rfl
  have G2:=Hid.mk' (G0.out.trans sg.g)
  have A3:=A2.all [.int .i64 (aC s0 s1 i).ds.ms.g,.int .i64 (aC s0 s1 i).ds.ms.m,.int .i64 (aC s0 s1 i).ds.ms.s,.int .i64 (aC s0 s1 i).ds.ms.a,.int .i64 (aC s0 s1 i).ds.ms.n] rfl
  have O3:=Hid.mk' (cW w.heap.size [.int .i64 (aC s0 s1 i).ds.ms.g,.int .i64 (aC s0 s1 i).ds.ms.m,.int .i64 (aC s0 s1 i).ds.ms.s,.int .i64 (aC s0 s1 i).ds.ms.a,.int .i64 (aC s0 s1 i).ds.ms.n] w2 0)
  have x0:=A3.c 0 _ rfl
  have x1:=A3.c 1 _ rfl
  have x2:=A3.c 2 _ rfl
  have x3:=A3.c 3 _ rfl
  have x4:=A3.c 4 _ rfl
  simp only[mR,Nat.reduceAdd] at x0 x1 x2 x3 x4 O3
  clear sg A2 A3
  go_wp2
  refine bodyPost_ret (v:=.tuple #[.agg #[.int .i64 (aC s0 s1 i).ds.ms.g,.int .i64 (aC s0 s1 i).ds.ms.m,.int .i64 (aC s0 s1 i).ds.ms.s,.int .i64 (aC s0 s1 i).ds.ms.a,.int .i64 (aC s0 s1 i).ds.ms.n],.int .i64 0]) (by simp[results,results113,go_sem, *]) rfl ⟨?_,fun h=>absurd C.out h,fun _=>rfl⟩
  exact fJ G2.out O3.out (fun k e=>by omega)
 ·have cb:(upE r0.up r1.up i !=0)=true:=by simpa using c
  generalize upE r0.up r1.up i=z at *
  have G0:=Hid.mk' g0
  clear h pg h' g0
  go_enter func113,ntmps113
  go_wp2_with fail
  refine Calls.mono U.out ?_
  rintro e w1 ⟨rfl,rfl⟩
  go_wp2
  exact bodyPost_ret (v:=.tuple #[.agg #[.int .i64 0,.int .i64 0,.int .i64 0,.int .i64 0,.int .i64 0],.int .i64 z]) (by simp[results,results113,go_sem]) rfl ⟨G0.out,fun _=>rfl,fun h=>absurd h c⟩
theorem aCi {s:Sh}(x y:Int):(cM s.th x y=true->0<=iG s.ds.it x y)/\(cM s.th x y=false->iG s.ds.it x y<0):=by
 constructor
 ·intro h
  obtain ⟨k,hk,_⟩:=aCh ((wF x y).1 h)
  omega
 ·intro h
  unfold iG
  cases hf:s.ds.it.findIdx? (fun i=>decide (i.sh=x/\i.nu=y)) with
  | none=>show (-1:Int)<0;omega
  | some k=>
   rw[List.findIdx?_eq_some_iff_getElem] at hf
   obtain ⟨hk,h1,_⟩:=hf
   have:=(wF x y).2 ⟨_,List.getElem_mem hk,of_decide_eq_true h1⟩
   rw[h] at this
   cases this
theorem nU (bp b0 b1:Nat)(cI cO cJ:Int)(s0 s1:Sh)(r0 r1:Rs)(i x y:Int)(w:World){f5 f6:Value}(h:RY w bp b0 b1 cI cO cJ r0 r1 f5 f6)(pg:PG cI cO cJ s0 s1 r0 r1)(Q:Ending->World->Prop)
  (hno:upE r0.up r1.up i≠0->∀w',w.grownBy w' none->Q (.returned (.int .i64 (upE r0.up r1.up i))) w')
  (hn4:upE r0.up r1.up i=0->cM (aC s0 s1 i).th x y=false->∀w',w.grownBy w' none->Q (.returned (.int .i64 4)) w')
  (hok:upE r0.up r1.up i=0->cM (aC s0 s1 i).th x y=true->∀W,w.grownBy W none->Calls prog 98 #[.pointer (some ⟨bp,0,none⟩),.int .i64 i,rv 2 0 ⟨x,y,0,0⟩ aZ (.slice none 0 0) (.slice none 0 0)] W fun e w'=>∃v,e=.returned v/\Q (.returned v) w'):
  Calls prog 49 #[.pointer (some ⟨bp,0,none⟩),.int .i64 i,.agg #[.int .i64 x,.int .i64 y]] w Q:=by
 have g0:=World.grownBy_alloc w (.cells #[.int .i64 x,.int .i64 y] 32) none
 have h':=h.grown g0
 have U:=Hid.mk' (gV bp b0 b1 cI cO cJ _ _ i r0 r1 _ h'.at_ h'.a0 h'.a1)
 have A0:=Hid.mk' (At.new w [.int .i64 x,.int .i64 y] 32)
 have G0:=Hid.mk' g0
 by_cases c:upE r0.up r1.up i=0
 ·have ST:=Hid.mk' fun W hW=>dP bp b0 b1 cI cO cJ s0 s1 r0 r1 i W (h'.grown hW) pg c
  have DL:(aC s0 s1 i).ds.it.length<=1000:=by
   obtain ⟨hi,up⟩:=pg.okup c
   obtain ⟨g,_⟩:=pg.at hi
   obtain ⟨_,_,_,_,_,has,_⟩:=g.has up
   have:=has.tl
   have:=g.i1
   omega
  have fd:=aCi (s:=aC s0 s1 i) x y
  have N4:=Hid.mk' (hn4 c)
  have OK:=Hid.mk' (hok c)
  rw[c] at U
  generalize aC s0 s1 i=s at *
  clear h pg c h' g0 hno hn4 hok
  unfold rv aZ at OK
  cases hh:cM s.th x y
  ·have f1:=fd.2 hh
   have N4':=Hid.mk' (N4.out hh)
   clear fd hh OK N4
   go_enter func49,ntmps49
   go_wp2_with fail
   refine Calls.mono U.out ?_
   rintro e w1 ⟨rfl,rfl⟩
   go_wp2_with fail
   refine wp_region_held_drew (S:=fun w'=>At w' w.heap.size [.int .i64 x,.int .i64 y]) (by kernel_rfl) (A0.out.drew) (fun hHeld=>?_)
   refine aN 0 ?_
   simp only[aF]
   refine aN 1 ?_
   simp only[aF]
   refine dG 3 rfl (by intro w hSw;have S0:=hSw.c 0 _ rfl;have S1:=hSw.c 1 _ rfl;go_simp;try with_reducible rfl) ?_
   simp only[aF]
   refine aX 2 (f:=97) (args:=#[.pointer (some ⟨bp,0,none⟩),.int .i64 i]) (by kernel_rfl) (by rfl) (by rfl) (by go_simp) ?_
   refine Calls.mono (ST.out _ (aA (aD _ _))) ?_
   rintro e w2 ⟨bs,vi,vo,rfl,sg⟩
   have SGH:=Hid.mk' sg
   have G2:Hid ((w.alloc (.cells #[.int .i64 x,.int .i64 y] 32)).grownBy w2 none):=(aA (aD _ _)).trans sg.g
   clear hHeld sg
   have hHeld:=A0.out.grown G2.out
   refine ⟨_,rfl,hHeld,?_⟩
   simp only[aF]
   refine aX 4 (f:=100) (args:=#[.pointer (some ⟨bs,0,none⟩),.agg #[.int .i64 x,.int .i64 y]]) (by kernel_rfl) (by rfl) (by rfl) (by go_simp) ?_
   refine Calls.mono (oM s.ds.it x y bs vi _ (SGH.out.at_.c 1 _ rfl) (Lies.of_own SGH.out.it) DL) ?_
   rintro e w3 ⟨rfl,g3⟩
   have G3:=Hid.mk' (G2.out.trans g3)
   have h3:=hHeld.grown g3
   clear hHeld g3
   have hHeld:=h3
   refine ⟨_,rfl,hHeld,?_⟩
   simp only[aF]
   refine aN 5 ?_
   simp only[aF]
   refine wpAnyH_done (by kernel_rfl) ?_ _
   have x0:=hHeld.c 0 _ rfl
   have x1:=hHeld.c 1 _ rfl
   clear hHeld h3
   go_wp2
   first | exact N4'.out _ (G0.out.trans G3.out) | (go_ret;exact N4'.out _ (G0.out.trans G3.out))
  ·have f1:=fd.1 hh
   have f2:¬iG s.ds.it x y<0:=by omega
   have OK':=Hid.mk' (OK.out hh)
   clear fd hh OK N4
   go_enter func49,ntmps49
   go_wp2_with fail
   refine Calls.mono U.out ?_
   rintro e w1 ⟨rfl,rfl⟩
   go_wp2_with fail
   refine wp_region_held_drew (S:=fun w'=>At w' w.heap.size [.int .i64 x,.int .i64 y]) (by kernel_rfl) (A0.out.drew) (fun hHeld=>?_)
   refine aN 0 ?_
   simp only[aF]
   refine aN 1 ?_
   simp only[aF]
   refine dG 3 rfl (by intro w hSw;have S0:=hSw.c 0 _ rfl;have S1:=hSw.c 1 _ rfl;go_simp;try with_reducible rfl) ?_
   simp only[aF]
   refine aX 2 (f:=97) (args:=#[.pointer (some ⟨bp,0,none⟩),.int .i64 i]) (by kernel_rfl) (by rfl) (by rfl) (by go_simp) ?_
   refine Calls.mono (ST.out _ (aA (aD _ _))) ?_
   rintro e w2 ⟨bs,vi,vo,rfl,sg⟩
   have SGH:=Hid.mk' sg
   have G2:Hid ((w.alloc (.cells #[.int .i64 x,.int .i64 y] 32)).grownBy w2 none):=(aA (aD _ _)).trans sg.g
   clear hHeld sg
   have hHeld:=A0.out.grown G2.out
   refine ⟨_,rfl,hHeld,?_⟩
   simp only[aF]
   refine aX 4 (f:=100) (args:=#[.pointer (some ⟨bs,0,none⟩),.agg #[.int .i64 x,.int .i64 y]]) (by kernel_rfl) (by rfl) (by rfl) (by go_simp) ?_
   refine Calls.mono (oM s.ds.it x y bs vi _ (SGH.out.at_.c 1 _ rfl) (Lies.of_own SGH.out.it) DL) ?_
   rintro e w3 ⟨rfl,g3⟩
   have G3:=Hid.mk' (G2.out.trans g3)
   have h3:=hHeld.grown g3
   clear hHeld g3
   have hHeld:=h3
   refine ⟨_,rfl,hHeld,?_⟩
   simp only[aF]
   refine aN 5 ?_
   simp only[aF]
   refine wpAnyH_done (by kernel_rfl) ?_ _
   have x0:=hHeld.c 0 _ rfl
   have x1:=hHeld.c 1 _ rfl
   clear hHeld h3
   go_wp2_with fail
   refine Calls.mono (OK'.out _ (G0.out.trans G3.out)) ?_
   rintro e w4 ⟨v,rfl,q⟩
   go_wp2
   first | exact q | (go_ret;exact q)
 ·have cb:(upE r0.up r1.up i !=0)=true:=by simpa using c
  have NO:=Hid.mk' (hno c)
  generalize upE r0.up r1.up i=z at *
  clear h pg h' g0 hno hn4 hok
  go_enter func49,ntmps49
  go_wp2_with fail
  refine Calls.mono U.out ?_
  rintro e w1 ⟨rfl,rfl⟩
  go_wp2
  first | exact NO.out _ G0.out | (go_ret;exact NO.out _ G0.out)
theorem aDF (bp b0 b1:Nat)(cI cO cJ:Int)(s0 s1:Sh)(r0 r1:Rs)(i:Int)(pl sp:Nat)(w:World){f5 f6:Value}(h:RY w bp b0 b1 cI cO cJ r0 r1 f5 f6)(pg:PG cI cO cJ s0 s1 r0 r1)(wp:pl<4294967296)(wq:sp<4294967296):
  Calls prog 47 #[.pointer (some ⟨bp,0,none⟩),.int .i64 i,.float .f32 pl,.float .f32 sp] w fun e w'=>(upE r0.up r1.up i≠0->e=.returned (qB 0 0 (upE r0.up r1.up i))/\w.grownBy w' none)/\(upE r0.up r1.up i=0->e=.returned (qB ((aC r0 r1 i).mint (aC s0 s1 i).no cI cJ (aC s0 s1 i).ds pl sp).1.1 ((aC r0 r1 i).mint (aC s0 s1 i).no cI cJ (aC s0 s1 i).ds pl sp).1.2.1 ((aC r0 r1 i).mint (aC s0 s1 i).no cI cJ (aC s0 s1 i).ds pl sp).1.2.2)/\At w' (aC b0 b1 i) ((aC r0 r1 i).mint (aC s0 s1 i).no cI cJ (aC s0 s1 i).ds pl sp).2.cells/\Only w w' (fun j=>j=aC b0 b1 i)):=by
 have g0:=World.grownBy_alloc w (.cells #[.int .i64 0,.int .i64 0] 32) none
 have h':=h.grown g0
 have U:=Hid.mk' (gV bp b0 b1 cI cO cJ _ _ i r0 r1 _ h'.at_ h'.a0 h'.a1)
 have A0:=Hid.mk' (At.new w [.int .i64 0,.int .i64 0] 32)
 have G0:=Hid.mk' g0
 by_cases c:upE r0.up r1.up i=0
 ·have ST:=Hid.mk' (dP bp b0 b1 cI cO cJ s0 s1 r0 r1 i _ h' pg c)
  obtain ⟨hi,up⟩:=pg.okup c
  obtain ⟨g,hn,e1,e2,e3⟩:=pg.at hi
  obtain ⟨ha,hne⟩:=h.at hi
  obtain ⟨_,_,_,_,_,has,_⟩:=g.has up
  have C:=Hid.mk' c
  have HR:=Hid.mk' ha
  have H1:=Hid.mk' h'
  have NP:=Hid.mk' fun W=>jV pl W
  have NS:=Hid.mk' fun W=>jV sp W
  have SD:=Hid.mk' fun W=>lS pl W
  have bl:=ha.lt
  rw[c] at U
  have m0:0<=(aC s0 s1 i).ds.ms.m:=has.mo.m0
  have m1:(aC s0 s1 i).ds.ms.m<=65535:=has.mo.m1
  have tl:=has.tl
  have i1:=g.i1
  have JR:Hid (∀W,RY W bp b0 b1 cI cO cJ r0 r1 f5 f6->aS pl=true->aS sp=true->(aC s0 s1 i).ds.ms.m<65535->Calls prog 98 #[.pointer (some ⟨bp,0,none⟩),.int .i64 i,rv 1 0 ⟨i,(aC s0 s1 i).ds.ms.m+1,pl,sp⟩ aZ (.slice none 0 0) (.slice none 0 0)] W fun e w'=>e=.returned (.int .i64 ((aC r0 r1 i).jrn cJ (cZ (aC s0 s1 i).no (aC s0 s1 i).ds.ms.m pl sp)).1)/\At w' (aC b0 b1 i) ((aC r0 r1 i).jrn cJ (cZ (aC s0 s1 i).no (aC s0 s1 i).ds.ms.m pl sp)).2.cells/\Only W w' (fun j=>j=aC b0 b1 i)):=Hid.mk' fun W hW n1 n2 hm=>by
   have tm:=(uC (no:=(aC s0 s1 i).no) (m:=(aC s0 s1 i).ds.ms.m) g.no m0 hm n1 n2 wp wq).2
   have:=gB bp b0 b1 cI cO cJ _ _ i (aC r0 r1 i) (cZ (aC s0 s1 i).no (aC s0 s1 i).ds.ms.m pl sp) W hW.at_ (hW.at hi).1 hi g.rok g.kb (by rw[g.rct];exact g.ct) (by have:=g.j1;omega) tm ⟨rfl,rfl⟩ hne
   unfold cZ at this ⊢
   simp only at this
   rw[hn] at this
   rw[hn]
   exact this
  have hne':=hne
  rw[e1] at tl i1
  generalize hss:aC s0 s1 i=s at *
  generalize hrr:aC r0 r1 i=r at *
  generalize hbb:aC b0 b1 i=b at *
  have XB:Hid (¬w.heap.size=b):=by show ¬_;omega
  by_cases hf:(aS pl&&aS sp)=false∨¬cK pl=(s.no:Int)
  ·have MM:Hid (r.mint s.no cI cJ s.ds pl sp=((0,0,2),r)):=if_pos hf
   rw[hn] at hf
   clear h pg c h' g0 up g has ha hne hne' JR ST
   cases n1:aS pl
   ·rw[n1] at NP
    clear hf SD
    cases n2:aS sp<;>rw[n2] at NS
    all_goals
     go_enter func47,ntmps47
     go_wp2_with fail
     refine Calls.mono U.out ?_
     rintro e w1 ⟨rfl,rfl⟩
     go_wp2_with fail
     refine Calls.mono (NP.out _) ?_
     rintro e w1 ⟨rfl,rfl⟩
     go_wp2_with fail
     refine Calls.mono (NS.out _) ?_
     rintro e w1 ⟨rfl,rfl⟩
     go_wp2
     refine bodyPost_ret (v:=.tuple #[.agg #[.int .i64 0,.int .i64 0],.int .i64 2]) (by simp[results,results47,go_sem, *]) rfl ⟨fun h=>absurd C.out h,fun _=>?_⟩
     rw[MM.out]
     exact ⟨rfl,HR.out.grown (G0.out),(Only.grown (G0.out)).mono (by simp)⟩
   ·cases n2:aS sp
    ·rw[n1] at NP
     rw[n2] at NS
     clear hf SD
     go_enter func47,ntmps47
     go_wp2_with fail
     refine Calls.mono U.out ?_
     rintro e w1 ⟨rfl,rfl⟩
     go_wp2_with fail
     refine Calls.mono (NP.out _) ?_
     rintro e w1 ⟨rfl,rfl⟩
     go_wp2_with fail
     refine Calls.mono (NS.out _) ?_
     rintro e w1 ⟨rfl,rfl⟩
     go_wp2
     refine bodyPost_ret (v:=.tuple #[.agg #[.int .i64 0,.int .i64 0],.int .i64 2]) (by simp[results,results47,go_sem, *]) rfl ⟨fun h=>absurd C.out h,fun _=>?_⟩
     rw[MM.out]
     exact ⟨rfl,HR.out.grown (G0.out),(Only.grown (G0.out)).mono (by simp)⟩
    ·rw[n1] at NP
     rw[n2] at NS
     have hs:¬cK pl=i:=by
      rcases hf with hf | hf
      ·rw[n1,n2] at hf;cases hf
      ·exact hf
     have hsb:(cK pl !=i)=true:=by simpa using hs
     generalize cK pl=z at *
     clear hf
     go_enter func47,ntmps47
     go_wp2_with fail
     refine Calls.mono U.out ?_
     rintro e w1 ⟨rfl,rfl⟩
     go_wp2_with fail
     refine Calls.mono (NP.out _) ?_
     rintro e w1 ⟨rfl,rfl⟩
     go_wp2_with fail
     refine Calls.mono (NS.out _) ?_
     rintro e w1 ⟨rfl,rfl⟩
     go_wp2_with fail
     refine Calls.mono (SD.out _) ?_
     rintro e w1 ⟨rfl,rfl⟩
     go_wp2
     refine bodyPost_ret (v:=.tuple #[.agg #[.int .i64 0,.int .i64 0],.int .i64 2]) (by simp[results,results47,go_sem, *]) rfl ⟨fun h=>absurd C.out h,fun _=>?_⟩
     rw[MM.out]
     exact ⟨rfl,HR.out.grown (G0.out),(Only.grown (G0.out)).mono (by simp)⟩
  have hn12:aS pl=true/\aS sp=true:=by
   have:¬(aS pl&&aS sp)=false:=fun e=>hf (.inl e)
   simpa using this
  have hs:cK pl=i:=by rw[<- hn];exact Decidable.byContradiction fun e=>hf (.inr e)
  rw[hn12.1] at NP
  rw[hn12.2] at NS
  rw[hs] at SD
  obtain ⟨nl,hnl⟩:∃nl,s.ds.it.length=nl:=⟨_,rfl⟩
  have HL:=Hid.mk' hnl
  obtain ⟨m,hmm⟩:∃m,s.ds.ms.m=m:=⟨_,rfl⟩
  have HM:=Hid.mk' hmm
  rw[hmm] at m0 m1
  rw[hnl] at tl
  by_cases hq:cI<=(nl:Int)∨65535<=m
  ·have MM:Hid (r.mint s.no cI cJ s.ds pl sp=((0,0,6),r)):=by
    show _=_
    unfold Rs.mint
    rw[if_neg hf,hnl,hmm,if_pos hq]
   clear h pg c h' g0 up g has ha hne hne' JR hf hn12 hs hnl hmm
   by_cases q1:cI<=(nl:Int)
   ·clear hq
    go_enter func47,ntmps47
    go_wp2_with fail
    refine Calls.mono U.out ?_
    rintro e w1 ⟨rfl,rfl⟩
    go_wp2_with fail
    refine Calls.mono (NP.out _) ?_
    rintro e w1 ⟨rfl,rfl⟩
    go_wp2_with fail
    refine Calls.mono (NS.out _) ?_
    rintro e w1 ⟨rfl,rfl⟩
    go_wp2_with fail
    refine Calls.mono (SD.out _) ?_
    rintro e w1 ⟨rfl,rfl⟩
    go_wp2_with fail
    refine Calls.mono ST.out ?_
    rintro e w2 ⟨bs,vi,vo,rfl,sg⟩
    have SGH:=Hid.mk' sg
    obtain ⟨av,cv,rfl⟩:=aJ sg.it
    have c1:=sg.at_.c 1 _ rfl
    have c4:=sg.at_.c 4 _ rfl
    have A2:=Hid.mk' (A0.out.grown sg.g)
    have k0:=A2.out.c 0 _ rfl
    have k1:=A2.out.c 1 _ rfl
    have kf:=A2.out.f
    have kl:=A2.out.lt
    have G2:=Hid.mk' (G0.out.trans sg.g)
    have H2:=Hid.mk' (H1.out.grown sg.g)
    have p0:=H2.out.at_.c 0 _ rfl
    have bsl:=sg.at_.lt
    have pbl:=H2.out.at_.lt
    rw[HL.out] at c1
    clear sg
    go_wp2_with fail
    go_quiet (fail)
    go_wp2
    refine bodyPost_ret (v:=.tuple #[.agg #[.int .i64 0,.int .i64 0],.int .i64 6]) (by simp[results,results47,go_sem, *]) rfl ⟨fun h=>absurd C.out h,fun _=>?_⟩
    rw[MM.out]
    exact ⟨rfl,HR.out.grown (aB (aB (aL G2.out nq) (k:=w.heap.size) (Nat.le_refl _) 0 (.int .i64 0)) (Nat.le_refl _) 1 (.int .i64 0)),(Only.grown (aB (aB (aL G2.out nq) (k:=w.heap.size) (Nat.le_refl _) 0 (.int .i64 0)) (Nat.le_refl _) 1 (.int .i64 0))).mono (by simp)⟩
   ·have q2:65535<=m:=by omega
    have q1':(nl:Int)<cI:=by omega
    clear hq q1
    go_enter func47,ntmps47
    go_wp2_with fail
    refine Calls.mono U.out ?_
    rintro e w1 ⟨rfl,rfl⟩
    go_wp2_with fail
    refine Calls.mono (NP.out _) ?_
    rintro e w1 ⟨rfl,rfl⟩
    go_wp2_with fail
    refine Calls.mono (NS.out _) ?_
    rintro e w1 ⟨rfl,rfl⟩
    go_wp2_with fail
    refine Calls.mono (SD.out _) ?_
    rintro e w1 ⟨rfl,rfl⟩
    go_wp2_with fail
    refine Calls.mono ST.out ?_
    rintro e w2 ⟨bs,vi,vo,rfl,sg⟩
    have SGH:=Hid.mk' sg
    obtain ⟨av,cv,rfl⟩:=aJ sg.it
    have c1:=sg.at_.c 1 _ rfl
    have c4:=sg.at_.c 4 _ rfl
    have A2:=Hid.mk' (A0.out.grown sg.g)
    have k0:=A2.out.c 0 _ rfl
    have k1:=A2.out.c 1 _ rfl
    have kf:=A2.out.f
    have kl:=A2.out.lt
    have G2:=Hid.mk' (G0.out.trans sg.g)
    have H2:=Hid.mk' (H1.out.grown sg.g)
    have p0:=H2.out.at_.c 0 _ rfl
    have bsl:=sg.at_.lt
    have pbl:=H2.out.at_.lt
    rw[HL.out] at c1
    rw[HM.out] at c4
    clear sg
    go_wp2_with fail
    go_quiet (fail)
    go_wp2
    refine bodyPost_ret (v:=.tuple #[.agg #[.int .i64 0,.int .i64 0],.int .i64 6]) (by simp[results,results47,go_sem, *]) rfl ⟨fun h=>absurd C.out h,fun _=>?_⟩
    rw[MM.out]
    exact ⟨rfl,HR.out.grown (aB (aB (aL G2.out nq) (k:=w.heap.size) (Nat.le_refl _) 0 (.int .i64 0)) (Nat.le_refl _) 1 (.int .i64 0)),(Only.grown (aB (aB (aL G2.out nq) (k:=w.heap.size) (Nat.le_refl _) 0 (.int .i64 0)) (Nat.le_refl _) 1 (.int .i64 0))).mono (by simp)⟩
  ·have q1:(nl:Int)<cI:=by omega
   have q2:m<65535:=by omega
   have JR':Hid (∀W,RY W bp b0 b1 cI cO cJ r0 r1 f5 f6->Calls prog 98 #[.pointer (some ⟨bp,0,none⟩),.int .i64 i,rv 1 0 ⟨i,m+1,pl,sp⟩ aZ (.slice none 0 0) (.slice none 0 0)] W fun e w'=>e=.returned (.int .i64 (r.jrn cJ (cZ s.no m pl sp)).1)/\At w' b (r.jrn cJ (cZ s.no m pl sp)).2.cells/\Only W w' (fun j=>j=b)):=Hid.mk' fun W hW=>by
    have:=JR.out W hW hn12.1 hn12.2 (by rw[hmm];exact q2)
    rw[hmm] at this
    exact this
   have MM:Hid (r.mint s.no cI cJ s.ds pl sp=if (r.jrn cJ (cZ s.no m pl sp)).1=0 then ((i,m+1,0),(r.jrn cJ (cZ s.no m pl sp)).2) else ((0,0,(r.jrn cJ (cZ s.no m pl sp)).1),(r.jrn cJ (cZ s.no m pl sp)).2)):=by
    show _=_
    unfold Rs.mint
    rw[if_neg hf,hnl,hmm,if_neg hq,hn]
   clear JR
   have JR:=JR'
   clear JR' h pg c h' g0 up g has ha hne hf hn12 hs hnl hmm hq
   unfold rv aZ at JR
   generalize hJ:r.jrn cJ (cZ s.no m pl sp)=J at *
   obtain ⟨z,J2⟩:=J
   by_cases hz:z=0
   ·subst hz
    simp only[if_true] at MM
    go_enter func47,ntmps47
    go_wp2_with fail
    refine Calls.mono U.out ?_
    rintro e w1 ⟨rfl,rfl⟩
    go_wp2_with fail
    refine Calls.mono (NP.out _) ?_
    rintro e w1 ⟨rfl,rfl⟩
    go_wp2_with fail
    refine Calls.mono (NS.out _) ?_
    rintro e w1 ⟨rfl,rfl⟩
    go_wp2_with fail
    refine Calls.mono (SD.out _) ?_
    rintro e w1 ⟨rfl,rfl⟩
    go_wp2_with fail
    refine Calls.mono ST.out ?_
    rintro e w2 ⟨bs,vi,vo,rfl,sg⟩
    have SGH:=Hid.mk' sg
    obtain ⟨av,cv,rfl⟩:=aJ sg.it
    have c1:=sg.at_.c 1 _ rfl
    have c4:=sg.at_.c 4 _ rfl
    have A2:=Hid.mk' (A0.out.grown sg.g)
    have k0:=A2.out.c 0 _ rfl
    have k1:=A2.out.c 1 _ rfl
    have kf:=A2.out.f
    have kl:=A2.out.lt
    have G2:=Hid.mk' (G0.out.trans sg.g)
    have H2:=Hid.mk' (H1.out.grown sg.g)
    have p0:=H2.out.at_.c 0 _ rfl
    have bsl:=sg.at_.lt
    have pbl:=H2.out.at_.lt
    rw[HL.out] at c1
    rw[HM.out] at c4
    clear sg
    go_wp2_with fail
    go_quiet (fail)
    have A4:=Hid.mk' (A2.out.drewN nq)
    have H4:=Hid.mk' (H2.out.grown (aL (aD _ _) nq))
    have G4:=Hid.mk' (aL G2.out nq)
    have S4:=SGH.out.at_.drewN nq
    generalize w2.drewN nq=W3 at *
    have s4:=S4.c 4 _ rfl
    rw[HM.out] at s4
    have xl4:=A4.out.lt
    have sl4:=S4.lt
    have xb4:w.heap.size≠W3.heap.size:=by omega
    have bl4:b<W3.heap.size:=by have:=G4.out.size;omega
    clear c1 c4 k0 k1 kf kl p0 bsl pbl S4 A2 H2 SGH
    go_wp2_with fail
    refine Calls.mono (JR.out _ (H4.out.grown (World.grownBy_alloc W3 _ none))) ?_
    rintro e w3 ⟨rfl,a3,o3⟩
    have A3:=Hid.mk' ((A4.out.alloc (.cells #[.int .i64 i,.int .i64 (m+1)] 32)).only o3 XB.out)
    have B3:=Hid.mk' ((At.new W3 [.int .i64 i,.int .i64 (m+1)] 32).only o3 (fun e=>by omega))
    have u0:=A3.out.c 0 _ rfl
    have u1:=A3.out.c 1 _ rfl
    have uf:=A3.out.f
    have ul:=A3.out.lt
    have v0:=B3.out.c 0 _ rfl
    have v1:=B3.out.c 1 _ rfl
    have vl:=B3.out.lt
    have O3:Hid (Only w w3 (fun j=>j=b)):=((Only.grown (aG G4.out _)).mono (by simp)).trans (o3.mono (fun _ _ e=>.inl e))
    have AR:=Hid.mk' a3
    clear a3 o3
    have P3:=A3.out.all [.int .i64 i,.int .i64 (m+1)] rfl
    have PO:=Hid.mk' (cW w.heap.size [.int .i64 i,.int .i64 (m+1)] w3 0)
    have y0:=P3.c 0 _ rfl
    have y1:=P3.c 1 _ rfl
    simp only[mR,Nat.reduceAdd] at y0 y1 PO
    clear P3
    go_wp2
    refine bodyPost_ret (v:=.tuple #[.agg #[.int .i64 i,.int .i64 (m+1)],.int .i64 0]) (by simp[results,results47,go_sem, *]) rfl ⟨fun h=>absurd C.out h,fun _=>?_⟩
    rw[MM.out]
    exact ⟨rfl,AR.out.only PO.out (fun e=>XB.out e.symm),O3.out.trans (PO.out.mono (fun _ _ e=>.inr (by omega)))⟩
   ·have hzb:(z !=0)=true:=by simpa using hz
    simp only[if_neg hz] at MM
    go_enter func47,ntmps47
    go_wp2_with fail
    refine Calls.mono U.out ?_
    rintro e w1 ⟨rfl,rfl⟩
    go_wp2_with fail
    refine Calls.mono (NP.out _) ?_
    rintro e w1 ⟨rfl,rfl⟩
    go_wp2_with fail
    refine Calls.mono (NS.out _) ?_
    rintro e w1 ⟨rfl,rfl⟩
    go_wp2_with fail
    refine Calls.mono (SD.out _) ?_
    rintro e w1 ⟨rfl,rfl⟩
    go_wp2_with fail
    refine Calls.mono ST.out ?_
    rintro e w2 ⟨bs,vi,vo,rfl,sg⟩
    have SGH:=Hid.mk' sg
    obtain ⟨av,cv,rfl⟩:=aJ sg.it
    have c1:=sg.at_.c 1 _ rfl
    have c4:=sg.at_.c 4 _ rfl
    have A2:=Hid.mk' (A0.out.grown sg.g)
    have k0:=A2.out.c 0 _ rfl
    have k1:=A2.out.c 1 _ rfl
    have kf:=A2.out.f
    have kl:=A2.out.lt
    have G2:=Hid.mk' (G0.out.trans sg.g)
    have H2:=Hid.mk' (H1.out.grown sg.g)
    have p0:=H2.out.at_.c 0 _ rfl
    have bsl:=sg.at_.lt
    have pbl:=H2.out.at_.lt
    rw[HL.out] at c1
    rw[HM.out] at c4
    clear sg
    go_wp2_with fail
    go_quiet (fail)
    have A4:=Hid.mk' (A2.out.drewN nq)
    have H4:=Hid.mk' (H2.out.grown (aL (aD _ _) nq))
    have G4:=Hid.mk' (aL G2.out nq)
    have S4:=SGH.out.at_.drewN nq
    generalize w2.drewN nq=W3 at *
    have s4:=S4.c 4 _ rfl
    rw[HM.out] at s4
    have xl4:=A4.out.lt
    have sl4:=S4.lt
    have xb4:w.heap.size≠W3.heap.size:=by omega
    have bl4:b<W3.heap.size:=by have:=G4.out.size;omega
    clear c1 c4 k0 k1 kf kl p0 bsl pbl S4 A2 H2 SGH
    go_wp2_with fail
    refine Calls.mono (JR.out _ (H4.out.grown (World.grownBy_alloc W3 _ none))) ?_
    rintro e w3 ⟨rfl,a3,o3⟩
    have A3:=Hid.mk' ((A4.out.alloc (.cells #[.int .i64 i,.int .i64 (m+1)] 32)).only o3 XB.out)
    have B3:=Hid.mk' ((At.new W3 [.int .i64 i,.int .i64 (m+1)] 32).only o3 (fun e=>by omega))
    have u0:=A3.out.c 0 _ rfl
    have u1:=A3.out.c 1 _ rfl
    have uf:=A3.out.f
    have ul:=A3.out.lt
    have v0:=B3.out.c 0 _ rfl
    have v1:=B3.out.c 1 _ rfl
    have vl:=B3.out.lt
    have O3:Hid (Only w w3 (fun j=>j=b)):=((Only.grown (aG G4.out _)).mono (by simp)).trans (o3.mono (fun _ _ e=>.inl e))
    have AR:=Hid.mk' a3
    clear a3 o3
    have P3:=A3.out.all [.int .i64 0,.int .i64 0] rfl
    have PO:=Hid.mk' (cW w.heap.size [.int .i64 0,.int .i64 0] w3 0)
    have y0:=P3.c 0 _ rfl
    have y1:=P3.c 1 _ rfl
    simp only[mR,Nat.reduceAdd] at y0 y1 PO
    clear P3
    go_wp2
    refine bodyPost_ret (v:=.tuple #[.agg #[.int .i64 0,.int .i64 0],.int .i64 z]) (by simp[results,results47,go_sem, *]) rfl ⟨fun h=>absurd C.out h,fun _=>?_⟩
    rw[MM.out]
    exact ⟨rfl,AR.out.only PO.out (fun e=>XB.out e.symm),O3.out.trans (PO.out.mono (fun _ _ e=>.inr (by omega)))⟩
 ·have cb:(upE r0.up r1.up i !=0)=true:=by simpa using c
  generalize upE r0.up r1.up i=z at *
  clear h pg h' g0
  go_enter func47,ntmps47
  go_wp2_with fail
  refine Calls.mono U.out ?_
  rintro e w1 ⟨rfl,rfl⟩
  go_wp2
  exact bodyPost_ret (v:=.tuple #[.agg #[.int .i64 0,.int .i64 0],.int .i64 z]) (by simp[results,results47,go_sem]) rfl ⟨fun _=>⟨rfl,G0.out⟩,fun h=>absurd h c⟩
theorem aDG (bp b0 b1:Nat)(cI cO cJ:Int)(s0 s1:Sh)(r0 r1:Rs)(i:Int)(w:World){f5 f6:Value}(h:RY w bp b0 b1 cI cO cJ r0 r1 f5 f6)(pg:PG cI cO cJ s0 s1 r0 r1):
  Calls prog 51 #[.pointer (some ⟨bp,0,none⟩),.int .i64 i] w fun e w'=>(upE r0.up r1.up i≠0->e=.returned (.int .i64 (upE r0.up r1.up i))/\w'=w)/\(upE r0.up r1.up i=0->e=.returned (.int .i64 ((aC r0 r1 i).snap cJ (aC s0 s1 i).ds).1)/\At w' (aC b0 b1 i) ((aC r0 r1 i).snap cJ (aC s0 s1 i).ds).2.cells/\Only w w' (fun j=>j=aC b0 b1 i)):=by
 have U:=Hid.mk' (gV bp b0 b1 cI cO cJ _ _ i r0 r1 _ h.at_ h.a0 h.a1)
 by_cases c:upE r0.up r1.up i=0
 ·have ST:=Hid.mk' (dP bp b0 b1 cI cO cJ s0 s1 r0 r1 i _ h pg c)
  obtain ⟨hi,up⟩:=pg.okup c
  obtain ⟨g,hn,e1,e2,e3⟩:=pg.at hi
  obtain ⟨ha,hne⟩:=h.at hi
  have has:HasD (aC s0 s1 i).no (aC s0 s1 i).cI (aC s0 s1 i).cO (aC s0 s1 i).ds:=by
   obtain ⟨_,_,_,_,_,has,_⟩:=g.has up
   exact has
  have C:=Hid.mk' c
  have HR:=Hid.mk' ha
  have H0:=Hid.mk' h
  have HI:=Hid.mk' hi
  have bl:=ha.lt
  obtain ⟨i0,i1⟩:=oU hi
  rw[c] at U
  generalize hss:aC s0 s1 i=s at *
  generalize hrr:aC r0 r1 i=r at *
  obtain ⟨b,hbb⟩:∃b,aC b0 b1 i=b:=⟨_,rfl⟩
  have HB:=Hid.mk' hbb
  rw[hbb] at HR bl hne ⊢
  have hgm0:0<=s.ds.ms.g:=has.mo.g0
  have hgm1:s.ds.ms.g<=65535:=has.mo.g1
  have tl:=has.tl
  have ol:=has.ol
  have gi1:=g.i1
  have go1:=g.o1
  have j1:=g.j1
  rw[e3] at j1
  obtain ⟨gg,hgg⟩:∃gg,s.ds.ms.g=gg:=⟨_,rfl⟩
  have HG:=Hid.mk' hgg
  rw[hgg] at hgm0 hgm1
  by_cases cg:65535<=gg
  ·have MM:Hid (r.snap cJ s.ds=(5,r)):=if_pos (by rw[hgg];exact cg)
   clear h pg c up g has ha
   go_enter func51,ntmps51
   go_wp2_with fail
   refine Calls.mono U.out ?_
   rintro e w1 ⟨rfl,rfl⟩
   go_wp2_with fail
   refine Calls.mono ST.out ?_
   rintro e w2 ⟨bs,vi,vo,rfl,sg⟩
   obtain ⟨av,cv,rfl⟩:=aJ sg.it
   obtain ⟨ao,co,rfl⟩:=aJ sg.ob
   have SGH:=Hid.mk' sg
   have c3:=sg.at_.c 3 _ rfl
   have c4:=sg.at_.c 4 _ rfl
   have c5:=sg.at_.c 5 _ rfl
   have c6:=sg.at_.c 6 _ rfl
   have c7:=sg.at_.c 7 _ rfl
   have G2:=Hid.mk' sg.g
   have bsl:=sg.at_.lt
   clear sg
   rw[HG.out] at c3
   go_wp2
   go_ret
   refine ⟨fun h=>absurd C.out h,fun _=>?_⟩
   rw[MM.out]
   exact ⟨rfl,HR.out.grown (aG G2.out _),(Only.grown (aG G2.out _)).mono (by simp)⟩
  have cg':gg<65535:=by omega
  have tb:=pP has (by omega) (by omega) (by rw[hgg];exact cg')
  obtain ⟨F,hF⟩:∃F,aY (cL s.ds)=F:=⟨_,rfl⟩
  have FRM:Hid (∀(W:World) (vi vo:Value),bH W vi s.ds.it->bL W vo s.ds.ob->Calls prog 92 #[rv 6 0 bT ⟨gg+1,s.ds.ms.m,s.ds.ms.s,s.ds.ms.a,s.ds.ms.n⟩ vi vo] W fun e w'=>e=.returned (.string (S F))/\W.grownBy w' none):=Hid.mk' fun W vi vo h1 h2=>by
   have:=kE (cL s.ds) vi vo W h1 h2 tb.wf tb.m (by show s.ds.it.length<=_;omega) (by show s.ds.ob.length<=_;omega)
   rw[hF] at this
   unfold cL at this
   simp only at this
   rw[hgg] at this
   exact this
  unfold rv bT at FRM
  have zf:=aQ F
  have fl:F.length<=1200:=by
   have:=(dM _ tb.m).2
   rw[<- hF,gR];omega
  by_cases cj:cJ<(F.length:Int)
  ·have MM:Hid (r.snap cJ s.ds=(5,r)):=by
    show _=_
    unfold Rs.snap
    rw[if_neg (by rw[hgg];omega),hF,if_pos cj]
   clear h pg c up g has ha tb
   go_enter func51,ntmps51
   go_wp2_with fail
   refine Calls.mono U.out ?_
   rintro e w1 ⟨rfl,rfl⟩
   go_wp2_with fail
   refine Calls.mono ST.out ?_
   rintro e w2 ⟨bs,vi,vo,rfl,sg⟩
   obtain ⟨av,cv,rfl⟩:=aJ sg.it
   obtain ⟨ao,co,rfl⟩:=aJ sg.ob
   have SGH:=Hid.mk' sg
   have c3:=sg.at_.c 3 _ rfl
   have c4:=sg.at_.c 4 _ rfl
   have c5:=sg.at_.c 5 _ rfl
   have c6:=sg.at_.c 6 _ rfl
   have c7:=sg.at_.c 7 _ rfl
   have G2:=Hid.mk' sg.g
   have bsl:=sg.at_.lt
   clear sg
   rw[HG.out] at c3
   go_wp2_with fail
   refine wp_region_held_drew (S:=fun w'=>At w' bs (kN s.no (.slice av s.ds.it.length cv) (.slice ao s.ds.ob.length co) s.ds.ms)/\At w' w2.heap.size [.int .i64 (gg+1),.int .i64 s.ds.ms.m,.int .i64 s.ds.ms.s,.int .i64 s.ds.ms.a,.int .i64 s.ds.ms.n]) (by kernel_rfl) (⟨(SGH.out.at_.alloc _).drew,(At.new w2 [.int .i64 (gg+1),.int .i64 s.ds.ms.m,.int .i64 s.ds.ms.s,.int .i64 s.ds.ms.a,.int .i64 s.ds.ms.n] 44).drew⟩) (fun hHeld=>?_)
   refine dG 0 rfl (by intro w hSw;have S0:=hSw.2.c 0 _ rfl;have S1:=hSw.2.c 1 _ rfl;have S2:=hSw.2.c 2 _ rfl;have S3:=hSw.2.c 3 _ rfl;have S4:=hSw.2.c 4 _ rfl;go_simp;try with_reducible rfl) ?_
   simp only[aF]
   refine aN 1 ?_
   simp only[aF]
   refine aN 2 ?_
   simp only[aF]
   refine aN 3 ?_
   simp only[aF]
   refine bV 4 (fun _ h=>h.1.c 1 _ rfl) ?_
   simp only[aF]
   refine aN 5 ?_
   simp only[aF]
   refine aN 6 ?_
   simp only[aF]
   refine aN 7 ?_
   simp only[aF]
   refine bV 8 (fun _ h=>h.1.c 2 _ rfl) ?_
   simp only[aF]
   refine aN 9 ?_
   simp only[aF]
   refine aX 10 (f:=92) (args:=#[.agg #[.int .i64 6,.int .i64 0,.int .i64 0,.int .i64 0,.float .f32 0,.float .f32 0,.int .i64 (gg+1),.int .i64 s.ds.ms.m,.int .i64 s.ds.ms.s,.int .i64 s.ds.ms.a,.int .i64 s.ds.ms.n,.slice av s.ds.it.length cv,.slice ao s.ds.ob.length co]]) (by kernel_rfl) (by rfl) (by rfl) (by go_simp) ?_
   refine Calls.mono (FRM.out _ _ _ (Lies.of_own (aO SGH.out.it (aA (World.grownBy_alloc w2 _ none)))) (Lies.of_own (aO SGH.out.ob (aA (World.grownBy_alloc w2 _ none))))) ?_
   rintro e w3 ⟨rfl,g3⟩
   have G3:=Hid.mk' ((aA (aG G2.out (.cells #[.int .i64 (gg+1),.int .i64 s.ds.ms.m,.int .i64 s.ds.ms.s,.int .i64 s.ds.ms.a,.int .i64 s.ds.ms.n] 44))).trans g3)
   have h3:At w3 bs (kN s.no (.slice av s.ds.it.length cv) (.slice ao s.ds.ob.length co) s.ds.ms)/\At w3 w2.heap.size [.int .i64 (gg+1),.int .i64 s.ds.ms.m,.int .i64 s.ds.ms.s,.int .i64 s.ds.ms.a,.int .i64 s.ds.ms.n]:=⟨hHeld.1.grown g3,hHeld.2.grown g3⟩
   clear hHeld g3
   have hHeld:=h3
   refine ⟨_,rfl,hHeld,?_⟩
   simp only[aF]
   refine aN 11 ?_
   simp only[aF]
   refine wpAnyH_done (by kernel_rfl) ?_ _
   have H3:=Hid.mk' (H0.out.grown G3.out)
   have HR3:=Hid.mk' (HR.out.grown G3.out)
   have p2:=H3.out.at_.c 2 _ rfl
   have p0:=RY.ptr H3.out.at_ HI.out
   rw[HB.out] at p0
   have r5:=HR3.out.c 5 _ rfl
   clear hHeld h3 c3 c4 c5 c6 c7 bsl
   go_wp2
   go_ret
   refine ⟨fun h=>absurd C.out h,fun _=>?_⟩
   rw[MM.out]
   exact ⟨rfl,HR3.out,(Only.grown G3.out).mono (by simp)⟩
  have cj':(F.length:Int)<=cJ:=by omega
  have hct:r.ct<2:=by rw[g.rct];exact g.ct
  have hc1:((1 -r.ct:Nat):Int)=1 -(r.ct:Int):=by omega
  have ok:=g.rok
  have kb:=g.kb
  obtain ⟨ct,hctt⟩:∃ct,r.ct=ct:=⟨_,rfl⟩
  have HCT:=Hid.mk' hctt
  have okC:=aBb r (r.d.cut (1 -r.ct)) (ok.cut (1 -r.ct))
  have kC:=wH r (r.d.cut (1 -r.ct)) (aGg _ _) kb
  have lC:(r.put (r.d.cut (1 -r.ct))).2=true->((r.put (r.d.cut (1 -r.ct))).1.d.file (1 -r.ct)).length+F.length<=10000:=fun he=>by
   have hc2:(r.d.cut (1 -r.ct)).2=true:=by
    unfold Rs.put at he
    split at he
    ·assumption
    ·cases he
   rw[Rs.put_yes r hc2]
   unfold Dk.cut at hc2 ⊢
   split at hc2
   ·rename_i ha
    rw[if_pos ha]
    show (Dk.file (Dk.put _ _ _ _) _).length+_<=_
    unfold Dk.put Dk.file
    rcases (by omega:r.ct=0∨r.ct=1) with e | e<;>rw[e]<;>simp<;>omega
   ·cases hc2
  have CU:=Hid.mk' fun W hW=>aJe b r (1 -r.ct) W hW ok kb (by omega)
  obtain ⟨A,hA⟩:∃A,r.put (r.d.cut (1 -r.ct))=A:=⟨_,rfl⟩
  rw[hA] at okC kC lC CU
  have AP:=Hid.mk' fun W hW hl=>uF b A.1 (1 -r.ct) F W hW okC kC (by omega) hl
  have okA:=fun hl=>aBb A.1 (A.1.d.append (1 -r.ct) F) ((okC.append (1 -r.ct) F hl).act)
  have kA:=wH A.1 (A.1.d.append (1 -r.ct) F) (mQ _ _ _) kC
  obtain ⟨Bq,hB⟩:∃Bq,A.1.put (A.1.d.append (1 -r.ct) F)=Bq:=⟨_,rfl⟩
  rw[hB] at AP okA kA
  have SY:=Hid.mk' fun W hW ok'=>aCd b Bq.1 (1 -r.ct) W hW ok' kA (by omega)
  obtain ⟨D,hD⟩:∃D,Bq.1.put (Bq.1.d.sync (1 -r.ct))=D:=⟨_,rfl⟩
  rw[hD] at SY
  have MM:Hid (r.snap cJ s.ds=if A.2=false then (3,A.1) else if Bq.2=false then (3,Bq.1) else if D.2=false then (3,D.1) else (0,{D.1 with ct:=1 -r.ct})):=by
   show _=_
   unfold Rs.snap
   rw[if_neg (by rw[hgg];omega),hF,if_neg cj,hA]
   simp only[hB,hD]
  have dct:D.1.ct=r.ct:=by rw[<- hD,wG,<- hB,wG,<- hA,wG]
  have OKA:=Hid.mk' okA
  have LC:=Hid.mk' lC
  rw[hc1] at CU AP SY
  clear okA lC okC kC kA hA hB hD
  rw[hctt] at CU AP SY hct hc1
  have q0:(0:Int)<=(ct:Int):=by omega
  have q1:(ct:Int)<=1:=by omega
  have qs:((1 -ct:Nat):Int)=1 -(ct:Int):=by omega
  have QS:=Hid.mk' qs
  have DCT:=Hid.mk' dct
  clear h pg c up g has ha tb ok kb cj qs hc1 dct
  cases hA2:A.2
  ·rw[hA2] at CU MM
   simp only[if_true] at MM
   go_enter func51,ntmps51
   go_wp2_with fail
   refine Calls.mono U.out ?_
   rintro e w1 ⟨rfl,rfl⟩
   go_wp2_with fail
   refine Calls.mono ST.out ?_
   rintro e w2 ⟨bs,vi,vo,rfl,sg⟩
   obtain ⟨av,cv,rfl⟩:=aJ sg.it
   obtain ⟨ao,co,rfl⟩:=aJ sg.ob
   have SGH:=Hid.mk' sg
   have c3:=sg.at_.c 3 _ rfl
   have c4:=sg.at_.c 4 _ rfl
   have c5:=sg.at_.c 5 _ rfl
   have c6:=sg.at_.c 6 _ rfl
   have c7:=sg.at_.c 7 _ rfl
   have G2:=Hid.mk' sg.g
   have bsl:=sg.at_.lt
   clear sg
   rw[HG.out] at c3
   go_wp2_with fail
   refine wp_region_held_drew (S:=fun w'=>At w' bs (kN s.no (.slice av s.ds.it.length cv) (.slice ao s.ds.ob.length co) s.ds.ms)/\At w' w2.heap.size [.int .i64 (gg+1),.int .i64 s.ds.ms.m,.int .i64 s.ds.ms.s,.int .i64 s.ds.ms.a,.int .i64 s.ds.ms.n]) (by kernel_rfl) (⟨(SGH.out.at_.alloc _).drew,(At.new w2 [.int .i64 (gg+1),.int .i64 s.ds.ms.m,.int .i64 s.ds.ms.s,.int .i64 s.ds.ms.a,.int .i64 s.ds.ms.n] 44).drew⟩) (fun hHeld=>?_)
   refine dG 0 rfl (by intro w hSw;have S0:=hSw.2.c 0 _ rfl;have S1:=hSw.2.c 1 _ rfl;have S2:=hSw.2.c 2 _ rfl;have S3:=hSw.2.c 3 _ rfl;have S4:=hSw.2.c 4 _ rfl;go_simp;try with_reducible rfl) ?_
   simp only[aF]
   refine aN 1 ?_
   simp only[aF]
   refine aN 2 ?_
   simp only[aF]
   refine aN 3 ?_
   simp only[aF]
   refine bV 4 (fun _ h=>h.1.c 1 _ rfl) ?_
   simp only[aF]
   refine aN 5 ?_
   simp only[aF]
   refine aN 6 ?_
   simp only[aF]
   refine aN 7 ?_
   simp only[aF]
   refine bV 8 (fun _ h=>h.1.c 2 _ rfl) ?_
   simp only[aF]
   refine aN 9 ?_
   simp only[aF]
   refine aX 10 (f:=92) (args:=#[.agg #[.int .i64 6,.int .i64 0,.int .i64 0,.int .i64 0,.float .f32 0,.float .f32 0,.int .i64 (gg+1),.int .i64 s.ds.ms.m,.int .i64 s.ds.ms.s,.int .i64 s.ds.ms.a,.int .i64 s.ds.ms.n,.slice av s.ds.it.length cv,.slice ao s.ds.ob.length co]]) (by kernel_rfl) (by rfl) (by rfl) (by go_simp) ?_
   refine Calls.mono (FRM.out _ _ _ (Lies.of_own (aO SGH.out.it (aA (World.grownBy_alloc w2 _ none)))) (Lies.of_own (aO SGH.out.ob (aA (World.grownBy_alloc w2 _ none))))) ?_
   rintro e w3 ⟨rfl,g3⟩
   have G3:=Hid.mk' ((aA (aG G2.out (.cells #[.int .i64 (gg+1),.int .i64 s.ds.ms.m,.int .i64 s.ds.ms.s,.int .i64 s.ds.ms.a,.int .i64 s.ds.ms.n] 44))).trans g3)
   have h3:At w3 bs (kN s.no (.slice av s.ds.it.length cv) (.slice ao s.ds.ob.length co) s.ds.ms)/\At w3 w2.heap.size [.int .i64 (gg+1),.int .i64 s.ds.ms.m,.int .i64 s.ds.ms.s,.int .i64 s.ds.ms.a,.int .i64 s.ds.ms.n]:=⟨hHeld.1.grown g3,hHeld.2.grown g3⟩
   clear hHeld g3
   have hHeld:=h3
   refine ⟨_,rfl,hHeld,?_⟩
   simp only[aF]
   refine aN 11 ?_
   simp only[aF]
   refine wpAnyH_done (by kernel_rfl) ?_ _
   have H3:=Hid.mk' (H0.out.grown G3.out)
   have HR3:=Hid.mk' (HR.out.grown G3.out)
   have p2:=H3.out.at_.c 2 _ rfl
   have p0:=RY.ptr H3.out.at_ HI.out
   rw[HB.out] at p0
   have r5:=HR3.out.c 5 _ rfl
   clear hHeld h3 c3 c4 c5 c6 c7 bsl
   rw[HCT.out] at r5
   go_wp2_with fail
   refine Calls.mono (CU.out _ HR3.out) ?_
   rintro e w4 ⟨rfl,a4,o4⟩
   go_wp2
   go_ret
   refine ⟨fun h=>absurd C.out h,fun _=>?_⟩
   rw[MM.out]
   exact ⟨rfl,a4,((Only.grown G3.out).mono (by simp)).trans (o4.mono (fun _ _ e=>.inl e))⟩
  have LCC:=Hid.mk' (LC.out hA2)
  rw[HCT.out] at LCC OKA
  rw[hA2] at CU MM
  simp only[Bool.true_eq_false,if_false] at MM
  cases hB2:Bq.2
  ·rw[hB2] at AP MM
   simp only[if_true] at MM
   go_enter func51,ntmps51
   go_wp2_with fail
   refine Calls.mono U.out ?_
   rintro e w1 ⟨rfl,rfl⟩
   go_wp2_with fail
   refine Calls.mono ST.out ?_
   rintro e w2 ⟨bs,vi,vo,rfl,sg⟩
   obtain ⟨av,cv,rfl⟩:=aJ sg.it
   obtain ⟨ao,co,rfl⟩:=aJ sg.ob
   have SGH:=Hid.mk' sg
   have c3:=sg.at_.c 3 _ rfl
   have c4:=sg.at_.c 4 _ rfl
   have c5:=sg.at_.c 5 _ rfl
   have c6:=sg.at_.c 6 _ rfl
   have c7:=sg.at_.c 7 _ rfl
   have G2:=Hid.mk' sg.g
   have bsl:=sg.at_.lt
   clear sg
   rw[HG.out] at c3
   go_wp2_with fail
   refine wp_region_held_drew (S:=fun w'=>At w' bs (kN s.no (.slice av s.ds.it.length cv) (.slice ao s.ds.ob.length co) s.ds.ms)/\At w' w2.heap.size [.int .i64 (gg+1),.int .i64 s.ds.ms.m,.int .i64 s.ds.ms.s,.int .i64 s.ds.ms.a,.int .i64 s.ds.ms.n]) (by kernel_rfl) (⟨(SGH.out.at_.alloc _).drew,(At.new w2 [.int .i64 (gg+1),.int .i64 s.ds.ms.m,.int .i64 s.ds.ms.s,.int .i64 s.ds.ms.a,.int .i64 s.ds.ms.n] 44).drew⟩) (fun hHeld=>?_)
   refine dG 0 rfl (by intro w hSw;have S0:=hSw.2.c 0 _ rfl;have S1:=hSw.2.c 1 _ rfl;have S2:=hSw.2.c 2 _ rfl;have S3:=hSw.2.c 3 _ rfl;have S4:=hSw.2.c 4 _ rfl;go_simp;try with_reducible rfl) ?_
   simp only[aF]
   refine aN 1 ?_
   simp only[aF]
   refine aN 2 ?_
   simp only[aF]
   refine aN 3 ?_
   simp only[aF]
   refine bV 4 (fun _ h=>h.1.c 1 _ rfl) ?_
   simp only[aF]
   refine aN 5 ?_
   simp only[aF]
   refine aN 6 ?_
   simp only[aF]
   refine aN 7 ?_
   simp only[aF]
   refine bV 8 (fun _ h=>h.1.c 2 _ rfl) ?_
   simp only[aF]
   refine aN 9 ?_
   simp only[aF]
   refine aX 10 (f:=92) (args:=#[.agg #[.int .i64 6,.int .i64 0,.int .i64 0,.int .i64 0,.float .f32 0,.float .f32 0,.int .i64 (gg+1),.int .i64 s.ds.ms.m,.int .i64 s.ds.ms.s,.int .i64 s.ds.ms.a,.int .i64 s.ds.ms.n,.slice av s.ds.it.length cv,.slice ao s.ds.ob.length co]]) (by kernel_rfl) (by rfl) (by rfl) (by go_simp) ?_
   refine Calls.mono (FRM.out _ _ _ (Lies.of_own (aO SGH.out.it (aA (World.grownBy_alloc w2 _ none)))) (Lies.of_own (aO SGH.out.ob (aA (World.grownBy_alloc w2 _ none))))) ?_
   rintro e w3 ⟨rfl,g3⟩
   have G3:=Hid.mk' ((aA (aG G2.out (.cells #[.int .i64 (gg+1),.int .i64 s.ds.ms.m,.int .i64 s.ds.ms.s,.int .i64 s.ds.ms.a,.int .i64 s.ds.ms.n] 44))).trans g3)
   have h3:At w3 bs (kN s.no (.slice av s.ds.it.length cv) (.slice ao s.ds.ob.length co) s.ds.ms)/\At w3 w2.heap.size [.int .i64 (gg+1),.int .i64 s.ds.ms.m,.int .i64 s.ds.ms.s,.int .i64 s.ds.ms.a,.int .i64 s.ds.ms.n]:=⟨hHeld.1.grown g3,hHeld.2.grown g3⟩
   clear hHeld g3
   have hHeld:=h3
   refine ⟨_,rfl,hHeld,?_⟩
   simp only[aF]
   refine aN 11 ?_
   simp only[aF]
   refine wpAnyH_done (by kernel_rfl) ?_ _
   have H3:=Hid.mk' (H0.out.grown G3.out)
   have HR3:=Hid.mk' (HR.out.grown G3.out)
   have p2:=H3.out.at_.c 2 _ rfl
   have p0:=RY.ptr H3.out.at_ HI.out
   rw[HB.out] at p0
   have r5:=HR3.out.c 5 _ rfl
   clear hHeld h3 c3 c4 c5 c6 c7 bsl
   rw[HCT.out] at r5
   go_wp2_with fail
   refine Calls.mono (CU.out _ HR3.out) ?_
   rintro e w4 ⟨rfl,a4,o4⟩
   have A4:=Hid.mk' a4
   have O4:Hid (Only w1 w4 (fun j=>j=b)):=((Only.grown G3.out).mono (by simp)).trans (o4.mono (fun _ _ e=>.inl e))
   clear a4 o4
   go_wp2_with fail
   refine Calls.mono (AP.out _ A4.out LCC.out) ?_
   rintro e w5 ⟨rfl,a5,o5⟩
   go_wp2
   go_ret
   refine ⟨fun h=>absurd C.out h,fun _=>?_⟩
   rw[MM.out]
   exact ⟨rfl,a5,O4.out.trans (o5.mono (fun _ _ e=>.inl e))⟩
  rw[hB2] at AP MM
  simp only[Bool.true_eq_false,if_false] at MM
  have OKB:=Hid.mk' (OKA.out LCC.out)
  cases hD2:D.2
  ·rw[hD2] at SY MM
   simp only[if_true] at MM
   go_enter func51,ntmps51
   go_wp2_with fail
   refine Calls.mono U.out ?_
   rintro e w1 ⟨rfl,rfl⟩
   go_wp2_with fail
   refine Calls.mono ST.out ?_
   rintro e w2 ⟨bs,vi,vo,rfl,sg⟩
   obtain ⟨av,cv,rfl⟩:=aJ sg.it
   obtain ⟨ao,co,rfl⟩:=aJ sg.ob
   have SGH:=Hid.mk' sg
   have c3:=sg.at_.c 3 _ rfl
   have c4:=sg.at_.c 4 _ rfl
   have c5:=sg.at_.c 5 _ rfl
   have c6:=sg.at_.c 6 _ rfl
   have c7:=sg.at_.c 7 _ rfl
   have G2:=Hid.mk' sg.g
   have bsl:=sg.at_.lt
   clear sg
   rw[HG.out] at c3
   go_wp2_with fail
   refine wp_region_held_drew (S:=fun w'=>At w' bs (kN s.no (.slice av s.ds.it.length cv) (.slice ao s.ds.ob.length co) s.ds.ms)/\At w' w2.heap.size [.int .i64 (gg+1),.int .i64 s.ds.ms.m,.int .i64 s.ds.ms.s,.int .i64 s.ds.ms.a,.int .i64 s.ds.ms.n]) (by kernel_rfl) (⟨(SGH.out.at_.alloc _).drew,(At.new w2 [.int .i64 (gg+1),.int .i64 s.ds.ms.m,.int .i64 s.ds.ms.s,.int .i64 s.ds.ms.a,.int .i64 s.ds.ms.n] 44).drew⟩) (fun hHeld=>?_)
   refine dG 0 rfl (by intro w hSw;have S0:=hSw.2.c 0 _ rfl;have S1:=hSw.2.c 1 _ rfl;have S2:=hSw.2.c 2 _ rfl;have S3:=hSw.2.c 3 _ rfl;have S4:=hSw.2.c 4 _ rfl;go_simp;try with_reducible rfl) ?_
   simp only[aF]
   refine aN 1 ?_
   simp only[aF]
   refine aN 2 ?_
   simp only[aF]
   refine aN 3 ?_
   simp only[aF]
   refine bV 4 (fun _ h=>h.1.c 1 _ rfl) ?_
   simp only[aF]
   refine aN 5 ?_
   simp only[aF]
   refine aN 6 ?_
   simp only[aF]
   refine aN 7 ?_
   simp only[aF]
   refine bV 8 (fun _ h=>h.1.c 2 _ rfl) ?_
   simp only[aF]
   refine aN 9 ?_
   simp only[aF]
   refine aX 10 (f:=92) (args:=#[.agg #[.int .i64 6,.int .i64 0,.int .i64 0,.int .i64 0,.float .f32 0,.float .f32 0,.int .i64 (gg+1),.int .i64 s.ds.ms.m,.int .i64 s.ds.ms.s,.int .i64 s.ds.ms.a,.int .i64 s.ds.ms.n,.slice av s.ds.it.length cv,.slice ao s.ds.ob.length co]]) (by kernel_rfl) (by rfl) (by rfl) (by go_simp) ?_
   refine Calls.mono (FRM.out _ _ _ (Lies.of_own (aO SGH.out.it (aA (World.grownBy_alloc w2 _ none)))) (Lies.of_own (aO SGH.out.ob (aA (World.grownBy_alloc w2 _ none))))) ?_
   rintro e w3 ⟨rfl,g3⟩
   have G3:=Hid.mk' ((aA (aG G2.out (.cells #[.int .i64 (gg+1),.int .i64 s.ds.ms.m,.int .i64 s.ds.ms.s,.int .i64 s.ds.ms.a,.int .i64 s.ds.ms.n] 44))).trans g3)
   have h3:At w3 bs (kN s.no (.slice av s.ds.it.length cv) (.slice ao s.ds.ob.length co) s.ds.ms)/\At w3 w2.heap.size [.int .i64 (gg+1),.int .i64 s.ds.ms.m,.int .i64 s.ds.ms.s,.int .i64 s.ds.ms.a,.int .i64 s.ds.ms.n]:=⟨hHeld.1.grown g3,hHeld.2.grown g3⟩
   clear hHeld g3
   have hHeld:=h3
   refine ⟨_,rfl,hHeld,?_⟩
   simp only[aF]
   refine aN 11 ?_
   simp only[aF]
   refine wpAnyH_done (by kernel_rfl) ?_ _
   have H3:=Hid.mk' (H0.out.grown G3.out)
   have HR3:=Hid.mk' (HR.out.grown G3.out)
   have p2:=H3.out.at_.c 2 _ rfl
   have p0:=RY.ptr H3.out.at_ HI.out
   rw[HB.out] at p0
   have r5:=HR3.out.c 5 _ rfl
   clear hHeld h3 c3 c4 c5 c6 c7 bsl
   rw[HCT.out] at r5
   go_wp2_with fail
   refine Calls.mono (CU.out _ HR3.out) ?_
   rintro e w4 ⟨rfl,a4,o4⟩
   have A4:=Hid.mk' a4
   have O4:Hid (Only w1 w4 (fun j=>j=b)):=((Only.grown G3.out).mono (by simp)).trans (o4.mono (fun _ _ e=>.inl e))
   clear a4 o4
   go_wp2_with fail
   refine Calls.mono (AP.out _ A4.out LCC.out) ?_
   rintro e w5 ⟨rfl,a5,o5⟩
   have A5:=Hid.mk' a5
   have O5:Hid (Only w1 w5 (fun j=>j=b)):=O4.out.trans (o5.mono (fun _ _ e=>.inl e))
   clear a5 o5
   go_wp2_with fail
   refine Calls.mono (SY.out _ A5.out OKB.out) ?_
   rintro e w6 ⟨rfl,a6,o6⟩
   go_wp2
   go_ret
   refine ⟨fun h=>absurd C.out h,fun _=>?_⟩
   rw[MM.out]
   exact ⟨rfl,a6,O5.out.trans (o6.mono (fun _ _ e=>.inl e))⟩
  ·rw[hD2] at SY MM
   simp only[Bool.true_eq_false,if_false] at MM
   go_enter func51,ntmps51
   go_wp2_with fail
   refine Calls.mono U.out ?_
   rintro e w1 ⟨rfl,rfl⟩
   go_wp2_with fail
   refine Calls.mono ST.out ?_
   rintro e w2 ⟨bs,vi,vo,rfl,sg⟩
   obtain ⟨av,cv,rfl⟩:=aJ sg.it
   obtain ⟨ao,co,rfl⟩:=aJ sg.ob
   have SGH:=Hid.mk' sg
   have c3:=sg.at_.c 3 _ rfl
   have c4:=sg.at_.c 4 _ rfl
   have c5:=sg.at_.c 5 _ rfl
   have c6:=sg.at_.c 6 _ rfl
   have c7:=sg.at_.c 7 _ rfl
   have G2:=Hid.mk' sg.g
   have bsl:=sg.at_.lt
   clear sg
   rw[HG.out] at c3
   go_wp2_with fail
   refine wp_region_held_drew (S:=fun w'=>At w' bs (kN s.no (.slice av s.ds.it.length cv) (.slice ao s.ds.ob.length co) s.ds.ms)/\At w' w2.heap.size [.int .i64 (gg+1),.int .i64 s.ds.ms.m,.int .i64 s.ds.ms.s,.int .i64 s.ds.ms.a,.int .i64 s.ds.ms.n]) (by kernel_rfl) (⟨(SGH.out.at_.alloc _).drew,(At.new w2 [.int .i64 (gg+1),.int .i64 s.ds.ms.m,.int .i64 s.ds.ms.s,.int .i64 s.ds.ms.a,.int .i64 s.ds.ms.n] 44).drew⟩) (fun hHeld=>?_)
   refine dG 0 rfl (by intro w hSw;have S0:=hSw.2.c 0 _ rfl;have S1:=hSw.2.c 1 _ rfl;have S2:=hSw.2.c 2 _ rfl;have S3:=hSw.2.c 3 _ rfl;have S4:=hSw.2.c 4 _ rfl;go_simp;try with_reducible rfl) ?_
   simp only[aF]
   refine aN 1 ?_
   simp only[aF]
   refine aN 2 ?_
   simp only[aF]
   refine aN 3 ?_
   simp only[aF]
   refine bV 4 (fun _ h=>h.1.c 1 _ rfl) ?_
   simp only[aF]
   refine aN 5 ?_
   simp only[aF]
   refine aN 6 ?_
   simp only[aF]
   refine aN 7 ?_
   simp only[aF]
   refine bV 8 (fun _ h=>h.1.c 2 _ rfl) ?_
   simp only[aF]
   refine aN 9 ?_
   simp only[aF]
   refine aX 10 (f:=92) (args:=#[.agg #[.int .i64 6,.int .i64 0,.int .i64 0,.int .i64 0,.float .f32 0,.float .f32 0,.int .i64 (gg+1),.int .i64 s.ds.ms.m,.int .i64 s.ds.ms.s,.int .i64 s.ds.ms.a,.int .i64 s.ds.ms.n,.slice av s.ds.it.length cv,.slice ao s.ds.ob.length co]]) (by kernel_rfl) (by rfl) (by rfl) (by go_simp) ?_
   refine Calls.mono (FRM.out _ _ _ (Lies.of_own (aO SGH.out.it (aA (World.grownBy_alloc w2 _ none)))) (Lies.of_own (aO SGH.out.ob (aA (World.grownBy_alloc w2 _ none))))) ?_
   rintro e w3 ⟨rfl,g3⟩
   have G3:=Hid.mk' ((aA (aG G2.out (.cells #[.int .i64 (gg+1),.int .i64 s.ds.ms.m,.int .i64 s.ds.ms.s,.int .i64 s.ds.ms.a,.int .i64 s.ds.ms.n] 44))).trans g3)
   have h3:At w3 bs (kN s.no (.slice av s.ds.it.length cv) (.slice ao s.ds.ob.length co) s.ds.ms)/\At w3 w2.heap.size [.int .i64 (gg+1),.int .i64 s.ds.ms.m,.int .i64 s.ds.ms.s,.int .i64 s.ds.ms.a,.int .i64 s.ds.ms.n]:=⟨hHeld.1.grown g3,hHeld.2.grown g3⟩
   clear hHeld g3
   have hHeld:=h3
   refine ⟨_,rfl,hHeld,?_⟩
   simp only[aF]
   refine aN 11 ?_
   simp only[aF]
   refine wpAnyH_done (by kernel_rfl) ?_ _
   have H3:=Hid.mk' (H0.out.grown G3.out)
   have HR3:=Hid.mk' (HR.out.grown G3.out)
   have p2:=H3.out.at_.c 2 _ rfl
   have p0:=RY.ptr H3.out.at_ HI.out
   rw[HB.out] at p0
   have r5:=HR3.out.c 5 _ rfl
   clear hHeld h3 c3 c4 c5 c6 c7 bsl
   rw[HCT.out] at r5
   go_wp2_with fail
   refine Calls.mono (CU.out _ HR3.out) ?_
   rintro e w4 ⟨rfl,a4,o4⟩
   have A4:=Hid.mk' a4
   have O4:Hid (Only w1 w4 (fun j=>j=b)):=((Only.grown G3.out).mono (by simp)).trans (o4.mono (fun _ _ e=>.inl e))
   clear a4 o4
   go_wp2_with fail
   refine Calls.mono (AP.out _ A4.out LCC.out) ?_
   rintro e w5 ⟨rfl,a5,o5⟩
   have A5:=Hid.mk' a5
   have O5:Hid (Only w1 w5 (fun j=>j=b)):=O4.out.trans (o5.mono (fun _ _ e=>.inl e))
   clear a5 o5
   go_wp2_with fail
   refine Calls.mono (SY.out _ A5.out OKB.out) ?_
   rintro e w6 ⟨rfl,a6,o6⟩
   have t5:=a6.c 5 _ rfl
   have tf:=a6.f
   have A6:=Hid.mk' a6
   have O6:=Hid.mk' o6
   clear a6 o6
   go_wp2
   go_ret
   refine ⟨fun h=>absurd C.out h,fun _=>?_⟩
   rw[MM.out]
   refine ⟨rfl,?_,(O5.out.trans (O6.out.mono (fun _ _ e=>.inl e))).trans ((Only.set _ b 5 _).mono (fun _ _ e=>.inl e))⟩
   have:=A6.out.put 5 (.int .i64 (1 -(ct:Int))) (by simp[Rs.cells])
   rw[<- QS.out,<- HCT.out] at this ⊢
   exact this
 ·have cb:(upE r0.up r1.up i !=0)=true:=by simpa using c
  generalize upE r0.up r1.up i=z at *
  clear h pg
  go_enter func51,ntmps51
  go_wp2_with fail
  refine Calls.mono U.out ?_
  rintro e w1 ⟨rfl,rfl⟩
  go_wp2
  go_ret
  exact ⟨fun _=>⟨rfl,rfl⟩,fun h=>absurd h c⟩
def Rs.best (r:Rs)(k:Nat):Int×Nat:=
 if k=0 then (-1,r.ct)
 else if k=1 then (if -1<bA (aR r.d.f0) then (bA (aR r.d.f0),0) else (-1,r.ct))
 else (if (if -1<bA (aR r.d.f0) then (bA (aR r.d.f0),0) else ((-1:Int),r.ct)).1<bA (aR r.d.f1) then (bA (aR r.d.f1),1) else (if -1<bA (aR r.d.f0) then (bA (aR r.d.f0),0) else (-1,r.ct)))
theorem aDH (r:Rs)(k:Nat)(hk:k<2):r.best (k+1)=if (r.best k).1<bA (aR (r.d.file k)) then (bA (aR (r.d.file k)),k) else r.best k:=by
 rcases (by omega:k=0∨k=1) with rfl | rfl<;>rfl
theorem aIa (r:Rs)(k:Nat):-1<=(r.best k).1:=by
 unfold Rs.best
 by_cases k0:k=0
 ·rw[if_pos k0];exact Int.le_refl _
 rw[if_neg k0]
 by_cases h0:-1<bA (aR r.d.f0)
 ·simp only[if_pos h0]
  by_cases k1:k=1
  ·rw[if_pos k1];show -1<=bA _;omega
  rw[if_neg k1]
  by_cases h1:bA (aR r.d.f0)<bA (aR r.d.f1)
  ·rw[if_pos h1];show -1<=bA _;omega
  ·rw[if_neg h1];show -1<=bA _;omega
 ·simp only[if_neg h0]
  by_cases k1:k=1
  ·rw[if_pos k1];exact Int.le_refl _
  rw[if_neg k1]
  by_cases h1:-1<bA (aR r.d.f1)
  ·rw[if_pos h1];show -1<=bA _;omega
  ·rw[if_neg h1];exact Int.le_refl _
theorem aDI (r:Rs):(r.best 2).2=r.pick:=by
 show (if (if -1<bA (aR r.d.f0) then (bA (aR r.d.f0),0) else ((-1:Int),r.ct)).1<bA (aR r.d.f1) then (bA (aR r.d.f1),1) else (if -1<bA (aR r.d.f0) then (bA (aR r.d.f0),0) else (-1,r.ct))).2=_
 unfold Rs.pick
 by_cases h:-1<bA (aR r.d.f0)
 ·simp only[if_pos h]
  split<;>rfl
 ·simp only[if_neg h]
  split<;>rfl
theorem wJ (bp b0 b1:Nat)(cI cO cJ:Int)(r0 r1:Rs)(i:Int)(w:World){f5 f6:Value}(h:RY w bp b0 b1 cI cO cJ r0 r1 f5 f6)(ok0:r0.d.Ok)(ok1:r1.d.Ok)(hc0:r0.ct<2)(hc1:r1.ct<2):
  Calls prog 54 #[.pointer (some ⟨bp,0,none⟩),.int .i64 i] w fun e w'=>(¬(aV i/\(aC r0 r1 i).up=false)->e=.returned (.int .i64 2)/\w'=w)/\(aV i/\(aC r0 r1 i).up=false->e=.returned (.int .i64 0)/\At w' (aC b0 b1 i) (aC r0 r1 i).restart.cells/\Only w w' (fun j=>j=aC b0 b1 i)):=by
 by_cases hi:aV i
 ·obtain ⟨ha,hne⟩:=h.at hi
  have ok:(aC r0 r1 i).d.Ok:=by rcases hi with rfl | rfl;exact ok0;exact ok1
  have hct:(aC r0 r1 i).ct<2:=by rcases hi with rfl | rfl;exact hc0;exact hc1
  have p0:=RY.ptr h.at_ hi
  obtain ⟨i0,i1⟩:=oU hi
  have HI:=Hid.mk' hi
  generalize hrr:aC r0 r1 i=r at *
  generalize hbb:aC b0 b1 i=b at *
  have HA:=Hid.mk' ha
  have u0:=ha.c 0 _ rfl
  have bl:=ha.lt
  have pbl:=h.at_.lt
  have AP:=Hid.mk' h.at_
  have l0:=ok.b0
  have l1:=ok.b1
  clear h ha ok0 ok1 hc0 hc1 hrr hbb
  cases hu:r.up
  ·rw[hu] at u0
   have HN:Hid (aV i/\false=false):=⟨HI.out,rfl⟩
   have BG:=Hid.mk' (aIa r)
   have n01:((i !=0)=true/\(i !=1)=false)∨((i !=0)=false):=by rcases hi with rfl | rfl<;>simp
   rcases n01 with ⟨m0,m1⟩ | m0
   all_goals
    clear hi
    go_enter func54,ntmps54
    go_wp2_with fail
    go_loopw [6,7] (fun t f wr=>∃k:Nat,k<=2/\f=.int .i64 k/\t=.int .i64 (r.best k).1/\At wr b (⟨r.up,r.d,(r.best k).2⟩:Rs).cells/\Only w wr (fun j=>j=b)) (fun _ f _=>2 -(intOf f).toNat)
    case atStart=>exact ⟨0,by omega,rfl,rfl,HA.out,Only.refl _ _⟩
    case round=>
     obtain ⟨k,hk,rfl,rfl,ar,on⟩:=hrel
     have AR:=Hid.mk' ar
     have ON:=Hid.mk' on
     have rbl:=ar.lt
     have c1:=ar.c 1 _ rfl
     have c2:=ar.c 2 _ rfl
     clear ar on
     by_cases hlt:k<2
     ·have CF:Hid (wr.cell? ⟨b,1+k,none⟩=some (.string (S (r.d.file k)))):=by
       show _=_
       rcases (by omega:k=0∨k=1) with rfl | rfl
       ·exact c1
       ·exact c2
      have fl:(r.d.file k).length<=10000:=by
       unfold Dk.file
       split
       ·exact l0
       ·exact l1
      have BS:=Hid.mk' (aDH r k hlt)
      have bg:=BG.out k
      obtain ⟨bt,bc⟩:∃bt,(r.best k).1=bt:=⟨_,rfl⟩
      have HBT:=Hid.mk' bc
      rw[bc] at bg ⊢
      have cf:=CF.out
      have y0:(0:Int)<=(k:Int):=by omega
      have y1:(k:Int)<2:=by omega
      clear c1 c2 bc
      go_wp2_with fail
      refine Calls.mono (jX (r.d.file k) _ (by omega)) ?_
      rintro e w2 ⟨v,rs,rfl,came,hrs,g2⟩
      obtain ⟨av,cv,rfl⟩:=aJ came.row
      have A2:=Hid.mk' (AR.out.grown g2)
      have O2:=Hid.mk' (ON.out.trans ((Only.grown g2).mono (by simp)))
      have a5:=A2.out.c 5 _ rfl
      have af:=A2.out.f
      have HRS:=Hid.mk' hrs
      cases rs with
      | nil=>
       have E1:Hid (r.best (k+1)=r.best k):=by
        show _=_
        rw[BS.out,<- HRS.out,if_neg]
        show ¬_<(-1:Int)
        rw[HBT.out];omega
       clear came hrs g2
       go_wp2
       exact ⟨⟨k+1,by omega,by go_num,by rw[E1.out,HBT.out],by rw[E1.out];exact A2.out,O2.out⟩,by simp[intOf];omega⟩
      | cons x t=>
       obtain ⟨gv,rfl⟩:∃g,av=some ⟨g,0,none⟩:=by
        rcases came.row.2 with ⟨h',hn0⟩ | ⟨g,cap,cur,h',_⟩
        ·simp at hn0
        ·injection h' with h1 h2 h3
         exact ⟨g,h1⟩
       have rw0:∀j (_:j<13) u,x.cells[j]?=some u->w2.cell? ⟨gv,j,none⟩=some u:=fun j hj u hu=>by
        refine (came.row.cellAt j (by simp;omega)).trans ?_
        have:=kW (x::t) 0 j (by simp) hj
        simp only[Nat.mul_zero,Nat.zero_add] at this
        rw[this]
        exact hu
       have d0:=rw0 0 (by omega) _ rfl
       have d6:=rw0 6 (by omega) _ rfl
       have EG:Hid (bA (aR (r.d.file k))=if x.p.kind=6 then x.p.mks.g else -1):=by
        show _=_
        rw[<- HRS.out];rfl
       obtain ⟨nn,hnn⟩:∃nn,(x::t).length=nn:=⟨_,rfl⟩
       have hpn:0<nn:=by rw[<- hnn];simp
       rw[hnn]
       clear came hrs g2 rw0 hnn
       by_cases k6:x.p.kind=6
       ·rw[k6] at d0
        by_cases gb:bt<x.p.mks.g
        ·have E1:Hid (r.best (k+1)=(x.p.mks.g,k)):=by
          show _=_
          rw[BS.out,EG.out,if_pos k6,HBT.out,if_pos gb]
         clear k6
         go_wp2
         refine ⟨⟨k+1,by omega,by go_num,by rw[E1.out],?_,O2.out.trans ((Only.set w2 b 5 _).mono (fun _ _ e=>.inl e))⟩,by simp[intOf];omega⟩
         rw[E1.out]
         exact A2.out.put 5 _ (by simp[Rs.cells])
        ·have E1:Hid (r.best (k+1)=r.best k):=by
          show _=_
          rw[BS.out,EG.out,if_pos k6,HBT.out,if_neg gb]
         clear k6
         go_wp2
         exact ⟨⟨k+1,by omega,by go_num,by rw[E1.out,HBT.out],by rw[E1.out];exact A2.out,O2.out⟩,by simp[intOf];omega⟩
       ·have E1:Hid (r.best (k+1)=r.best k):=by
         show _=_
         rw[BS.out,EG.out,if_neg k6,HBT.out,if_neg (by omega)]
        have k6':(x.p.kind==6)=false:=by simpa using k6
        go_wp2
        exact ⟨⟨k+1,by omega,by go_num,by rw[E1.out,HBT.out],by rw[E1.out];exact A2.out,O2.out⟩,by simp[intOf];omega⟩
     ·obtain rfl:k=2:=by omega
      have AQ0:=AR.out
      rw[aDI] at AQ0
      have pk2:r.pick<2:=by
       unfold Rs.pick
       repeat' split
       all_goals omega
      have RS:Hid (r.restart=⟨true,r.d.shorten r.pick (bK (r.d.file r.pick)).2,r.pick⟩):=rfl
      clear c1 c2
      rcases (by omega:r.pick=0∨r.pick=1) with ec | ec
      ·rw[ec] at AQ0 RS
       have AQ:=Hid.mk' AQ0
       have sc:(bK r.d.f0).2<=(S r.d.f0).size:=by rw[aQ];exact lW r.d.f0
       have sx:=gN r.d.f0 (bK r.d.f0).2
       clear AQ0 AR
       go_wp2_with fail
       refine wp_region_held_drew (S:=fun w'=>At w' b (⟨r.up,r.d,0⟩:Rs).cells) (by kernel_rfl) (AQ.out.drew) (fun hHeld=>?_)
       refine aN 0 ?_
       simp only[aF]
       refine aN 1 ?_
       simp only[aF]
       refine aN 2 ?_
       simp only[aF]
       refine aN 3 ?_
       simp only[aF]
       refine bV 4 (fun _ h=>h.c 5 _ rfl) ?_
       simp only[aF]
       refine aN 5 ?_
       simp only[aF]
       refine aN 6 ?_
       simp only[aF]
       refine aN 7 ?_
       simp only[aF]
       refine bV 8 (fun _ h=>h.c 1 _ rfl) ?_
       simp only[aF]
       refine aX 9 (f:=103) (args:=#[.string (S r.d.f0)]) (by kernel_rfl) (by rfl) (by rfl) (by go_simp) ?_
       refine Calls.mono (jX r.d.f0 _ (by omega)) ?_
       rintro e w5 ⟨v5,rs5,rfl,came5,hrs5,g5⟩
       have G5:=Hid.mk' ((aA (aD _ _)).trans g5)
       obtain ⟨a5,n5,rfl⟩:=aJ came5.row
       have h5:=hHeld.grown g5
       clear hHeld g5 came5 hrs5
       have hHeld:=h5
       refine ⟨_,rfl,hHeld,?_⟩
       simp only[aF]
       refine aN 10 ?_
       simp only[aF]
       refine aN 11 ?_
       simp only[aF]
       refine aN 12 ?_
       simp only[aF]
       refine aN 13 ?_
       simp only[aF]
       refine aN 14 ?_
       simp only[aF]
       refine wpAnyH_done (by kernel_rfl) ?_ _
       have A5:=Hid.mk' hHeld
       have e0:=hHeld.c 0 _ rfl
       have e1:=hHeld.c 1 _ rfl
       have e2:=hHeld.c 2 _ rfl
       have e3:=hHeld.c 3 _ rfl
       have e4:=hHeld.c 4 _ rfl
       have e5:=hHeld.c 5 _ rfl
       have ef:=hHeld.f
       have el:=hHeld.lt
       clear hHeld h5
       go_wp2_with fail
       go_region
       all_goals
        go_wp2_with fail
        go_region
        all_goals
         go_wp2
         go_ret
         refine ⟨fun h=>absurd HN.out h,fun _=>?_⟩
         rw[RS.out]
         have o6:Only w5 (((w5.setCell ⟨b,1,none⟩ (.string (S (List.take (bK r.d.f0).2 r.d.f0)))).setCell ⟨b,3,none⟩ (.int .i64 (bK r.d.f0).2)).setCell ⟨b,0,none⟩ (.bool true)) (fun j=>j=b):=(Only.set2 w5 b 1 3 _ _).trans ((Only.set _ b 0 _).mono (fun _ _ e=>.inl e))
         exact ⟨rfl,(((A5.out.put 1 _ (by simp[Rs.cells])).put 3 _ (by simp[Rs.cells])).put 0 _ (by simp[Rs.cells])).drew.drew,((ON.out.trans ((Only.grown G5.out).mono (by simp))).trans (o6.mono (fun _ _ e=>.inl e))).drew.drew⟩
      ·rw[ec] at AQ0 RS
       have AQ:=Hid.mk' AQ0
       have sc:(bK r.d.f1).2<=(S r.d.f1).size:=by rw[aQ];exact lW r.d.f1
       have sx:=gN r.d.f1 (bK r.d.f1).2
       clear AQ0 AR
       go_wp2_with fail
       refine wp_region_held_drew (S:=fun w'=>At w' b (⟨r.up,r.d,1⟩:Rs).cells) (by kernel_rfl) (AQ.out.drew) (fun hHeld=>?_)
       refine aN 0 ?_
       simp only[aF]
       refine aN 1 ?_
       simp only[aF]
       refine aN 2 ?_
       simp only[aF]
       refine aN 3 ?_
       simp only[aF]
       refine bV 4 (fun _ h=>h.c 5 _ rfl) ?_
       simp only[aF]
       refine aN 5 ?_
       simp only[aF]
       refine aN 6 ?_
       simp only[aF]
       refine aN 7 ?_
       simp only[aF]
       refine bV 8 (fun _ h=>h.c 2 _ rfl) ?_
       simp only[aF]
       refine aX 9 (f:=103) (args:=#[.string (S r.d.f1)]) (by kernel_rfl) (by rfl) (by rfl) (by go_simp) ?_
       refine Calls.mono (jX r.d.f1 _ (by omega)) ?_
       rintro e w5 ⟨v5,rs5,rfl,came5,hrs5,g5⟩
       have G5:=Hid.mk' ((aA (aD _ _)).trans g5)
       obtain ⟨a5,n5,rfl⟩:=aJ came5.row
       have h5:=hHeld.grown g5
       clear hHeld g5 came5 hrs5
       have hHeld:=h5
       refine ⟨_,rfl,hHeld,?_⟩
       simp only[aF]
       refine aN 10 ?_
       simp only[aF]
       refine aN 11 ?_
       simp only[aF]
       refine aN 12 ?_
       simp only[aF]
       refine aN 13 ?_
       simp only[aF]
       refine aN 14 ?_
       simp only[aF]
       refine wpAnyH_done (by kernel_rfl) ?_ _
       have A5:=Hid.mk' hHeld
       have e0:=hHeld.c 0 _ rfl
       have e1:=hHeld.c 1 _ rfl
       have e2:=hHeld.c 2 _ rfl
       have e3:=hHeld.c 3 _ rfl
       have e4:=hHeld.c 4 _ rfl
       have e5:=hHeld.c 5 _ rfl
       have ef:=hHeld.f
       have el:=hHeld.lt
       clear hHeld h5
       go_wp2_with fail
       go_region
       all_goals
        go_wp2_with fail
        go_region
        all_goals
         go_wp2
         go_ret
         refine ⟨fun h=>absurd HN.out h,fun _=>?_⟩
         rw[RS.out]
         have o6:Only w5 (((w5.setCell ⟨b,2,none⟩ (.string (S (List.take (bK r.d.f1).2 r.d.f1)))).setCell ⟨b,4,none⟩ (.int .i64 (bK r.d.f1).2)).setCell ⟨b,0,none⟩ (.bool true)) (fun j=>j=b):=(Only.set2 w5 b 2 4 _ _).trans ((Only.set _ b 0 _).mono (fun _ _ e=>.inl e))
         exact ⟨rfl,(((A5.out.put 2 _ (by simp[Rs.cells])).put 4 _ (by simp[Rs.cells])).put 0 _ (by simp[Rs.cells])).drew.drew,((ON.out.trans ((Only.grown G5.out).mono (by simp))).trans (o6.mono (fun _ _ e=>.inl e))).drew.drew⟩
  ·rw[hu] at u0
   have n01:((i !=0)=true/\(i !=1)=false)∨((i !=0)=false):=by rcases hi with rfl | rfl<;>simp
   have HU:=Hid.mk' hu
   rcases n01 with ⟨m0,m1⟩ | m0
   all_goals
    clear hi
    go_enter func54,ntmps54
    go_wp2
    go_ret
    exact ⟨fun _=>⟨rfl,rfl⟩,fun h=>by cases h.2⟩
 ·have h0:(i !=0)=true:=by unfold aV at hi;simp;omega
  have h1:(i !=1)=true:=by unfold aV at hi;simp;omega
  have HI:=Hid.mk' hi
  clear h hi
  go_enter func54,ntmps54
  go_wp2
  go_ret
  exact ⟨fun _=>⟨rfl,rfl⟩,fun h=>absurd h.1 HI.out⟩
structure DX (w:World)(bq q0 q1:Nat)(cI cO cJ:Int)(r0 r1:Rs)(v0 v1:Value)(f0 f1:List (List UInt8)):Prop where
 ry:RY w bq q0 q1 cI cO cJ r0 r1 v0 v1
 o0:OwnF 0 w v0 f0
 o1:OwnF 0 w v1 f1
 n0:∀j,v0.ownBlock=some j->j≠bq/\j≠q0/\j≠q1
 n1:∀j,v1.ownBlock=some j->j≠bq/\j≠q0/\j≠q1
 d:∀j,v0.ownBlock=some j->v1.ownBlock≠some j
 l0:f0.length<=32
 l1:f1.length<=32
 t0:∀t∈f0,t.length<=100
 t1:∀t∈f1,t.length<=100
def tE (bq q0 q1:Nat)(v0 v1:Value)(j:Nat):Prop:=(j=bq∨j=q0∨j=q1)∨v0.ownBlock=some j∨v1.ownBlock=some j
def DXn (w w':World)(bq q0 q1:Nat)(cI cO cJ:Int)(r0 r1:Rs)(v0 v1:Value)(f0 f1:List (List UInt8)):Prop:=
 ∃u0 u1,DX w' bq q0 q1 cI cO cJ r0 r1 u0 u1 f0 f1/\Only w w' (tE bq q0 q1 v0 v1)/\∀j,tE bq q0 q1 u0 u1 j->tE bq q0 q1 v0 v1 j∨w.heap.size<=j
def FlN (w w':World)(bq:Nat)(cs:List Value)(k:Nat)(v:Value)(f:List (List UInt8)):Prop:=
 ∃v',At w' bq (cs.set k v')/\OwnF 0 w' v' f/\Only w w' (fun j=>j=bq∨v.ownBlock=some j)/\(∀j,v'.ownBlock=some j->v.ownBlock=some j∨w.heap.size<=j)
def DS (w:World)(bq:Nat)(D:Nat->Prop)(y:Pr):Prop:=∃cI cO cJ r0 r1 q0 q1 v0 v1,DX w bq q0 q1 cI cO cJ r0 r1 v0 v1 y.f0 y.f1/\PG cI cO cJ y.s0 y.s1 r0 r1/\∀j,tE bq q0 q1 v0 v1 j->D j
def DSn (w w':World)(bq:Nat)(D:Nat->Prop)(y:Pr):Prop:=DS w' bq (fun j=>D j∨w.heap.size<=j) y/\Only w w' D
section
variable {w w' : World} {bq q0 q1 : Nat} {cI cO cJ : Int} {r0 r1 : Rs} {v0 v1 : Value} {f0 f1 : List (List UInt8)} {D : Nat -> Prop} {y : Pr}
theorem DX.lt (h:DX w bq q0 q1 cI cO cJ r0 r1 v0 v1 f0 f1){j:Nat}(hj:tE bq q0 q1 v0 v1 j):j<w.heap.size:=by
 rcases hj with (rfl | rfl | rfl) | hj | hj
 ·exact h.ry.at_.lt
 ·exact h.ry.a0.lt
 ·exact h.ry.a1.lt
 ·exact (h.o0.lt j hj).2
 ·exact (h.o1.lt j hj).2
theorem DX.only {A:Nat->Prop}(h:DX w bq q0 q1 cI cO cJ r0 r1 v0 v1 f0 f1)(o:Only w w' A)(n:∀j,tE bq q0 q1 v0 v1 j->¬A j):DX w' bq q0 q1 cI cO cJ r0 r1 v0 v1 f0 f1:=
 ⟨h.ry.only o (n _ (.inl (.inl rfl))) (n _ (.inl (.inr (.inl rfl)))) (n _ (.inl (.inr (.inr rfl)))),o.own h.o0 (fun j hj=>n j (.inr (.inl hj))),o.own h.o1 (fun j hj=>n j (.inr (.inr hj))),h.n0,h.n1,h.d,h.l0,h.l1,h.t0,h.t1⟩
theorem DX.grown (h:DX w bq q0 q1 cI cO cJ r0 r1 v0 v1 f0 f1)(g:w.grownBy w' none):DX w' bq q0 q1 cI cO cJ r0 r1 v0 v1 f0 f1:=h.only (Only.grown g) (by simp)
theorem DX.same (h:DX w bq q0 q1 cI cO cJ r0 r1 v0 v1 f0 f1):DXn w w bq q0 q1 cI cO cJ r0 r1 v0 v1 f0 f1:=⟨v0,v1,h,Only.refl _ _,fun _ hj=>.inl hj⟩
theorem DXn.trans {W:World}{u0 u1:Value}(o:Only w W (tE bq q0 q1 v0 v1))(hb:∀j,tE bq q0 q1 u0 u1 j->tE bq q0 q1 v0 v1 j∨w.heap.size<=j)(h:DXn W w' bq q0 q1 cI cO cJ r0 r1 u0 u1 f0 f1):DXn w w' bq q0 q1 cI cO cJ r0 r1 v0 v1 f0 f1:=by
 obtain ⟨x0,x1,h1,h2,h3⟩:=h
 refine ⟨x0,x1,h1,o.trans (h2.mono (fun j _ e=>hb j e)),fun j hj=>?_⟩
 rcases h3 j hj with e | e
 ·exact hb j e
 ·exact .inr (Nat.le_trans o.size e)
theorem DXn.grown {W:World}(g:w.grownBy W none)(h:DXn W w' bq q0 q1 cI cO cJ r0 r1 v0 v1 f0 f1):DXn w w' bq q0 q1 cI cO cJ r0 r1 v0 v1 f0 f1:=
 DXn.trans ((Only.grown g).mono (by simp)) (fun _ hj=>.inl hj) h
theorem DX.turn (h:DX w bq q0 q1 cI cO cJ r0 r1 v0 v1 f0 f1){i:Int}(hi:aV i){r:Rs}(a:At w' (aC q0 q1 i) r.cells)(o:Only w w' (fun j=>j=aC q0 q1 i)):DX w' bq q0 q1 cI cO cJ (nC r0 r1 r i).1 (nC r0 r1 r i).2 v0 v1 f0 f1:=by
 have hp:aC q0 q1 i=q0∨aC q0 q1 i=q1:=by
  rcases hi with rfl | rfl
  ·exact .inl rfl
  ·exact .inr rfl
 have key:∀j,(j≠bq/\j≠q0/\j≠q1)->¬j=aC q0 q1 i:=fun j hj e=>by
  rcases hp with hp | hp
  ·exact hj.2.1 (e.trans hp)
  ·exact hj.2.2 (e.trans hp)
 exact ⟨h.ry.put hi o a,o.own h.o0 (fun j hj=>key j (h.n0 j hj)),o.own h.o1 (fun j hj=>key j (h.n1 j hj)),h.n0,h.n1,h.d,h.l0,h.l1,h.t0,h.t1⟩
theorem DX.put (h:DX w bq q0 q1 cI cO cJ r0 r1 v0 v1 f0 f1){i:Int}(hi:aV i){f:List (List UInt8)}(hn:FlN w w' bq (ryC cI cO cJ q0 q1 v0 v1) (5+i.toNat) (aC v0 v1 i) f)(hl:f.length<=32)(ht:∀t∈f,t.length<=100):
  DXn w w' bq q0 q1 cI cO cJ r0 r1 v0 v1 (bN f0 f1 f i).1 (bN f0 f1 f i).2:=by
 obtain ⟨v',a,o,on,hb⟩:=hn
 have l0:=h.ry.at_.lt
 have l1:=h.ry.a0.lt
 have l2:=h.ry.a1.lt
 rcases hi with rfl | rfl
 ·have hb':∀j,v'.ownBlock=some j->v0.ownBlock=some j∨w.heap.size<=j:=hb
  have on':Only w w' (fun j=>j=bq∨v0.ownBlock=some j):=on
  refine ⟨v',v1,⟨⟨a,h.ry.a0.only on' (fun e=>?_),h.ry.a1.only on' (fun e=>?_),h.ry.d01,h.ry.dp0,h.ry.dp1⟩,o,on'.own h.o1 (fun j hj e=>?_),fun j hj=>?_,h.n1,fun j hj e=>?_,hl,h.l1,ht,h.t1⟩,on'.mono (fun j _ e=>?_),fun j hj=>?_⟩
  ·rcases e with e | e
   ·exact h.ry.dp0 e.symm
   ·exact (h.n0 _ e).2.1 rfl
  ·rcases e with e | e
   ·exact h.ry.dp1 e.symm
   ·exact (h.n0 _ e).2.2 rfl
  ·rcases e with e | e
   ·exact (h.n1 j hj).1 e
   ·exact h.d j e hj
  ·rcases hb' j hj with e | e
   ·exact h.n0 j e
   ·exact ⟨by omega,by omega,by omega⟩
  ·rcases hb' j hj with hj | hj
   ·exact h.d j hj e
   ·have:=(h.o1.lt j e).2;omega
  ·rcases e with e | e
   ·exact .inl (.inl e)
   ·exact .inr (.inl e)
  ·rcases hj with hj | hj | hj
   ·exact .inl (.inl hj)
   ·rcases hb' j hj with hj | hj
    ·exact .inl (.inr (.inl hj))
    ·exact .inr hj
   ·exact .inl (.inr (.inr hj))
 ·have hb':∀j,v'.ownBlock=some j->v1.ownBlock=some j∨w.heap.size<=j:=hb
  have on':Only w w' (fun j=>j=bq∨v1.ownBlock=some j):=on
  refine ⟨v0,v',⟨⟨a,h.ry.a0.only on' (fun e=>?_),h.ry.a1.only on' (fun e=>?_),h.ry.d01,h.ry.dp0,h.ry.dp1⟩,on'.own h.o0 (fun j hj e=>?_),o,h.n0,fun j hj=>?_,fun j hj e=>?_,h.l0,hl,h.t0,ht⟩,on'.mono (fun j _ e=>?_),fun j hj=>?_⟩
  ·rcases e with e | e
   ·exact h.ry.dp0 e.symm
   ·exact (h.n1 _ e).2.1 rfl
  ·rcases e with e | e
   ·exact h.ry.dp1 e.symm
   ·exact (h.n1 _ e).2.2 rfl
  ·rcases e with e | e
   ·exact (h.n0 j hj).1 e
   ·exact h.d j hj e
  ·rcases hb' j hj with e | e
   ·exact h.n1 j e
   ·exact ⟨by omega,by omega,by omega⟩
  ·rcases hb' j e with e | e
   ·exact h.d j hj e
   ·have:=(h.o0.lt j hj).2;omega
  ·rcases e with e | e
   ·exact .inl (.inl e)
   ·exact .inr (.inr e)
  ·rcases hj with hj | hj | hj
   ·exact .inl (.inl hj)
   ·exact .inl (.inr (.inl hj))
   ·rcases hb' j hj with hj | hj
    ·exact .inl (.inr (.inr hj))
    ·exact .inr hj
theorem DX.at (h:DX w bq q0 q1 cI cO cJ r0 r1 v0 v1 f0 f1){i:Int}(hi:aV i):(ryC cI cO cJ q0 q1 v0 v1)[5+i.toNat]?=some (aC v0 v1 i)/\OwnF 0 w (aC v0 v1 i) (aC f0 f1 i)/\(aC v0 v1 i).ownBlock≠some bq/\(aC f0 f1 i).length<=32/\∀t∈aC f0 f1 i,t.length<=100:=by
 rcases hi with rfl | rfl
 ·exact ⟨rfl,h.o0,fun e=>(h.n0 _ e).1 rfl,h.l0,h.t0⟩
 ·exact ⟨rfl,h.o1,fun e=>(h.n1 _ e).1 rfl,h.l1,h.t1⟩
theorem DS.only {A:Nat->Prop}(h:DS w bq D y)(o:Only w w' A)(n:∀j,j<w.heap.size->D j->¬A j):DS w' bq D y:=by
 obtain ⟨cI,cO,cJ,r0,r1,q0,q1,v0,v1,hx,pg,hD⟩:=h
 exact ⟨cI,cO,cJ,r0,r1,q0,q1,v0,v1,hx.only o (fun j hj=>n j (hx.lt hj) (hD j hj)),pg,hD⟩
theorem DS.grown (h:DS w bq D y)(g:w.grownBy w' none):DS w' bq D y:=h.only (Only.grown g) (by simp)
theorem DS.mono {D':Nat->Prop}(h:DS w bq D y)(n:∀j,j<w.heap.size->D j->D' j):DS w bq D' y:=by
 obtain ⟨cI,cO,cJ,r0,r1,q0,q1,v0,v1,hx,pg,hD⟩:=h
 exact ⟨cI,cO,cJ,r0,r1,q0,q1,v0,v1,hx,pg,fun j hj=>n j (hx.lt hj) (hD j hj)⟩
theorem DS.same (h:DS w bq D y):DSn w w bq D y:=⟨h.mono (fun _ _ e=>.inl e),Only.refl _ _⟩
theorem DS.grew (h:DS w bq D y)(g:w.grownBy w' none):DSn w w' bq D y:=⟨(h.grown g).mono (fun _ _ e=>.inl e),(Only.grown g).mono (by simp)⟩
theorem DSn.trans {W:World}(o:Only w W D)(h:DSn W w' bq (fun j=>D j∨w.heap.size<=j) y):DSn w w' bq D y:=
 ⟨h.1.mono (fun j _ e=>by
  rcases e with e | e
  ·exact e
  ·exact .inr (Nat.le_trans o.size e)),o.trans h.2⟩
theorem DSn.grown {W:World}(g:w.grownBy W none)(h:DSn W w' bq D y):DSn w w' bq D y:=
 ⟨h.1.mono (fun j _ e=>by
  rcases e with e | e
  ·exact .inl e
  ·exact .inr (Nat.le_trans g.size e)),((Only.grown g).mono (by simp)).trans (h.2.mono (fun _ _ e=>.inl e))⟩
theorem PG.set (h:PG cI cO cJ y.s0 y.s1 r0 r1){i:Int}(hi:aV i){s:Sh}{r:Rs}(g:Good s r)(e:s.cfg (y.sh i)):PG cI cO cJ (y.setSh i s).s0 (y.setSh i s).s1 (nC r0 r1 r i).1 (nC r0 r1 r i).2:=by
 rcases hi with rfl | rfl
 ·exact ⟨g,h.g1,e.1.trans h.n0,h.n1,⟨e.2.1.trans h.c0.1,e.2.2.1.trans h.c0.2.1,e.2.2.2.trans h.c0.2.2⟩,h.c1⟩
 ·exact ⟨h.g0,g,h.n0,e.1.trans h.n1,h.c0,⟨e.2.1.trans h.c1.1,e.2.2.1.trans h.c1.2.1,e.2.2.2.trans h.c1.2.2⟩⟩
theorem PG.gd (h:PG cI cO cJ y.s0 y.s1 r0 r1):PGd y:=⟨⟨_,h.g0⟩,⟨_,h.g1⟩,h.n0,h.n1⟩
theorem DS.gd (h:DS w bq D y):PGd y:=by
 obtain ⟨cI,cO,cJ,r0,r1,q0,q1,v0,v1,hx,pg,hD⟩:=h
 exact pg.gd
theorem DX.ds' (h:DX w bq q0 q1 cI cO cJ r0 r1 v0 v1 y.f0 y.f1)(hD:∀j,tE bq q0 q1 v0 v1 j->D j)(pg:PG cI cO cJ y.s0 y.s1 r0 r1){i:Int}(hi:aV i){s:Sh}{r:Rs}(a:At w' (aC q0 q1 i) r.cells)(o:Only w w' (fun j=>j=aC q0 q1 i))(g:Good s r)(e:s.cfg (y.sh i)):DS w' bq D (y.setSh i s)/\Only w w' D:=by
 have h1:=h.turn hi a o
 have p1:=pg.set hi g e
 have ef:(y.setSh i s).f0=y.f0/\(y.setSh i s).f1=y.f1:=by rcases hi with rfl | rfl<;>exact ⟨rfl,rfl⟩
 refine ⟨⟨cI,cO,cJ,_,_,q0,q1,v0,v1,by rw[ef.1,ef.2];exact h1,p1,hD⟩,o.mono (fun j _ e=>hD j ?_)⟩
 rcases hi with rfl | rfl
 ·exact .inl (.inr (.inl e))
 ·exact .inl (.inr (.inr e))
theorem DX.ds (h:DX w bq q0 q1 cI cO cJ r0 r1 v0 v1 y.f0 y.f1)(hD:∀j,tE bq q0 q1 v0 v1 j->D j)(pg:PG cI cO cJ y.s0 y.s1 r0 r1){i:Int}(hi:aV i){s:Sh}{r:Rs}(a:At w' (aC q0 q1 i) r.cells)(o:Only w w' (fun j=>j=aC q0 q1 i))(g:Good s r)(e:s.cfg (y.sh i)):DSn w w' bq D (y.setSh i s):=by
 obtain ⟨a,b⟩:=h.ds' hD pg hi a o g e
 exact ⟨a.mono (fun _ _ e=>.inl e),b⟩
theorem DX.flown (hD:∀j,tE bq q0 q1 v0 v1 j->D j)(pg:PG cI cO cJ y.s0 y.s1 r0 r1)(h:DXn w w' bq q0 q1 cI cO cJ r0 r1 v0 v1 f0 f1):DSn w w' bq D ⟨y.s0,y.s1,f0,f1⟩:=by
 obtain ⟨u0,u1,h1,h2,h3⟩:=h
 refine ⟨⟨cI,cO,cJ,r0,r1,q0,q1,u0,u1,h1,pg,fun j hj=>?_⟩,h2.mono (fun j _ e=>hD j e)⟩
 rcases h3 j hj with e | e
 ·exact .inl (hD j e)
 ·exact .inr e
end
end Go.Proofs.YtammnaafdhhjaaaGreat
