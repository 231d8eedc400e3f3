import Derived.Test.YtammnaafdhhjaaaGreatJC1
set_option maxHeartbeats 16000000
set_option maxRecDepth 100000
namespace Go.Proofs.YtammnaafdhhjaaaGreat
open Go.RowKit Go.Proofs.Tryz
structure Only (w w':World)(A:Nat->Prop):Prop where
 os:w'.os=w.os
 tape:w'.tape=w.tape
 output:w'.output=w.output
 size:w.heap.size<=w'.heap.size
 block:∀k,k<w.heap.size->¬A k->w'.heap[k]?=w.heap[k]?
theorem Only.refl (w:World)(A:Nat->Prop):Only w w A:=⟨rfl,rfl,rfl,Nat.le_refl _,fun _ _ _=>rfl⟩
theorem Only.trans {w w1 w2:World}{A:Nat->Prop}(h:Only w w1 A)(h':Only w1 w2 (fun k=>A k∨w.heap.size<=k)):Only w w2 A:=
 ⟨h'.os.trans h.os,h'.tape.trans h.tape,h'.output.trans h.output,Nat.le_trans h.size h'.size,fun k hk hn=>by
  have hz:=h.size
  rw[h'.block k (by omega) (fun e=>by rcases e with e | e;exact hn e;omega),h.block k hk hn]⟩
theorem Only.mono {w w':World}{A A':Nat->Prop}(h:Only w w' A)(hA:∀k,k<w.heap.size->A k->A' k):Only w w' A':=
 ⟨h.os,h.tape,h.output,h.size,fun k hk hn=>h.block k hk (fun e=>hn (hA k hk e))⟩
theorem Only.grown {w w':World}{row:Option Nat}(h:w.grownBy w' row):Only w w' (fun k=>row=some k):=
 ⟨h.os,h.tape,h.output,h.size,fun k hk hn=>h.block k hk (fun e=>hn e.symm)⟩
theorem Only.set (w:World)(k o:Nat)(u:Value):Only w (w.setCell ⟨k,o,none⟩ u) (fun j=>j=k):=
 ⟨rfl,rfl,rfl,by simp,fun j _ hn=>Below.heap_setCell _ _ _ _ hn⟩
theorem Only.cell {w w':World}{A:Nat->Prop}(h:Only w w' A){a:Addr}{v:Value}(hc:w.cell? a=some v)(hn:¬A a.block):w'.cell? a=some v:=
 (World.cell?_of_block (h.block a.block (World.block_lt_of_cell? w a hc) hn)).trans hc
theorem Only.frozen {w w':World}{A:Nat->Prop}(h:Only w w' A){a:Addr}(hk:a.block<w.heap.size)(hn:¬A a.block):w'.frozen? a=w.frozen? a:=
 World.frozen?_of_block (h.block a.block hk hn)
theorem Only.own {w w':World}{A:Nat->Prop}(h:Only w w' A){B:Nat}{e:TypeId}{size:Nat}{v:Value}{n:Nat}{xs:List Value}(ho:w.ownsRow B e size v n xs)(hn:∀j,v.ownBlock=some j->¬A j):w'.ownsRow B e size v n xs:=by
 refine ⟨ho.1,?_⟩
 rcases ho.2 with hx | ⟨g,cap,cur,rfl,hb,hg,r⟩
 ·exact .inl hx
 ·have hlt:g<w.heap.size:=(ho.lt g rfl).2
  exact .inr ⟨g,cap,cur,rfl,hb,(h.block g hlt (hn g rfl)).trans hg,r⟩
def aBC (w w':World)(v:Value)(m:Nat):Prop:=∀(b j:Nat) (u:Value),(v.ownBlock=some b->j<m)->w.cell? ⟨b,j,none⟩=some u->w'.cell? ⟨b,j,none⟩=some u
theorem iN {P:Program}{w:World}{ops:Array Oper}{rest:List Oper}{o:Oper}{a:Act}{Q:Exit->Act->World->Prop}(hgd:o.guard=none)(s x:Operand)(t:TypeId)
  (ho:o.op=.call {callee:=.builtin .append,args:=#[s,x],argTypes:=#[t,t]})
  (e:TypeId) (i:TypeInfo) (z:Value) (size bytes:Nat) (ht:P.underlying t=some (.slice e)) (hi:P.info? e=some i) (hz:i.zero=some z) (hsize:i.size=size) (hby:i.bytes=bytes) (hzs:z.cells.size=size) (hsz:0<size)
  (B:Nat) (v:Value) (n:Nat) (xs:List Value) (hs:a.eval s=v) (hown:w.ownsRow B e size v n xs) (ad:Addr) (news:List Value) (hx:a.eval x=.slice (some ad) 1 1) (hln:news.length=size)
  (hnews:∀j u,news[j]?=some u->w.cell? (ad.add j)=some u) (h1:∀u∈news,u.oneCell'=true) (hl:n+1<=maxLen) (hbytes:(n+1) * bytes<=140737488355328) (hB:B<=w.heap.size)
  (h:∀v' w',w'.ownsRow B e size v' (n+1) (xs++news)->w.grownBy w' v.ownBlock->(∀j,v'.ownBlock=some j->v.ownBlock=some j∨w.heap.size<=j)->aBC w w' v (n * size)->wpList P ops Q rest (a.put o.dst v') w'):wpList P ops Q (o::rest) a w:=by
 rcases hown.2 with ⟨rfl,hn0⟩ | ⟨g,cap,cur,rfl,hb,hg,hnc,hcm,hcs,htake⟩
 ·subst hn0
  refine wpList_append_own_at w hgd s x t ho B e i z size bytes ht hi hz hsize hby hzs hsz (.slice none 0 0) 0 xs hs hown ad 1 1 news hx (by omega) hnews h1 hl hbytes hB ?_
  intro v' w' r1 r2 _ r4
  refine h v' w' r1 r2 (fun j hj=>by rcases r4 with r4 | r4<;>rw[r4] at hj;exact .inl hj;injection hj with hj;exact .inr (by omega)) (fun b j u hj hc=>r2.cell hc (by simp[Value.ownBlock]))
 ·by_cases hr:n+1<=cap
  ·refine wpList_append_fits w hgd s x t ho B e i size ht hi hsize g n cap xs hs hown ad 1 1 news hx (by omega) hnews h1 hr ?_
   intro w' r1 r2
   refine h _ w' r1 r2 (fun j hj=>.inl hj) (fun b j u hj hc=>?_)
   by_cases hbg:b=g
   ·subst hbg
    have hjn:j<n * size:=hj rfl
    have e1:=hown.cellAt j hjn
    have e2:=r1.cellAt j (Nat.lt_of_lt_of_le hjn (Nat.mul_le_mul_right _ (Nat.le_succ n)))
    rw[e2,List.getElem?_append_left (by rw[hown.1];exact hjn),<- e1]
    exact hc
   ·exact r2.cell hc (by simp;exact fun e=>hbg e)
  ·refine wpList_append_grows w hgd s x t ho e i z size bytes ht hi hz hsize hby hzs hsz (some ⟨g,0,none⟩) n cap xs hs (by simp) hown.1 (fun b hb' j u hj=>by
    injection hb' with hb'
    subst hb'
    exact hown.cells (g:=g) rfl j u hj) ad 1 1 news hx (by omega) hnews h1 (by omega) hl hbytes ?_
   intro v' w' r1 r2
   refine h v' w' (bP r1 hB) ⟨r2.os,r2.tape,r2.output,r2.size,fun k hk _=>r2.block k hk (by simp)⟩ (fun j hj=>.inr (r1.lt j hj).1) (fun b j u _ hc=>r2.cell hc (by simp))
def gL (k:Int):It:=⟨-9 -k,0,0,0⟩
def bR (p:Value×Int):List Value:=[p.1,.int .i64 p.2]
def MkI (w:World)(v:Value)(n:Nat)(k:Int)(A:Nat->Prop):Prop:=
 ∃a c,v=.slice a n c/\(0<n->∃g,a=some ⟨g,0,none⟩/\A g/\∀j u,((List.replicate n (gL k)).flatMap It.cells)[j]?=some u->w.cell? ⟨g,j,none⟩=some u)
theorem aJ {B:Nat}{e:TypeId}{size:Nat}{v:Value}{n:Nat}{xs:List Value}{w:World}(h:w.ownsRow B e size v n xs):∃a c,v=.slice a n c:=by
 rcases h.2 with ⟨rfl,rfl⟩ | ⟨g,cap,cur,rfl,_⟩
 ·exact ⟨_,_,rfl⟩
 ·exact ⟨_,_,rfl⟩
theorem aEH:∃i,prog.info? 100=some i/\i.zero=some (.agg #[.slice none 0 0,.int .i64 0])/\i.size=2/\i.bytes=32:=info_parts (by kernel_rfl)
structure Grp (w wr:World)(B bk:Nat)(vI l:Value)(xs:List (Value×Int))(k:Int)(n r:Nat)(ys:List Value)(vc lc:Value):Prop where
 y:ys.length=r+1
 c:wr.cell? ⟨bk,0,none⟩=some vc
 f:∀o,wr.frozen? ⟨bk,o,none⟩=false
 row:wr.ownsRow B 100 2 vc (xs.length+(r+1)) ((xs++ys.map (fun v=>(v,k))).flatMap bR)
 vb:∀j,vc.ownBlock=some j->vI.ownBlock=some j∨w.heap.size<j
 lst:wr.ownsRow B 75 4 lc (n+r) ((List.replicate (n+r) (gL k)).flatMap It.cells)
 lb:∀j,lc.ownBlock=some j->l.ownBlock=some j∨w.heap.size<j
 sep:∀j,lc.ownBlock=some j->vc.ownBlock≠some j
 m:∀i v,ys[i]?=some v->MkI wr v (n+i) k (fun j=>(l.ownBlock=some j∨w.heap.size<j)/\vc.ownBlock≠some j/\j<wr.heap.size)
 o:Only w wr (fun j=>j=bk∨vI.ownBlock=some j∨l.ownBlock=some j)
 z:w.heap.size<wr.heap.size
 bx:∀j u,(gL k).cells[j]?=some u->wr.cell? ⟨w.heap.size,j,none⟩=some u
 kc:∀j u,j≠0->w.cell? ⟨bk,j,none⟩=some u->wr.cell? ⟨bk,j,none⟩=some u
theorem fP {w:World}{b o j:Nat}{u v:Value}(h:w.cell? ⟨b,j,none⟩=some u)(hj:j≠o):(w.setCell ⟨b,o,none⟩ v).cell? ⟨b,j,none⟩=some u:=by
 have hne:¬o=j:=fun e=>hj e.symm
 go_simp
theorem MkI.step {w w':World}{v:Value}{n:Nat}{k:Int}{A A':Nat->Prop}(h:MkI w v n k A)(hc:∀g j u,A g->j<n * 4->w.cell? ⟨g,j,none⟩=some u->w'.cell? ⟨g,j,none⟩=some u)(hA:∀g,A g->A' g):MkI w' v n k A':=by
 obtain ⟨a,c,rfl,hx⟩:=h
 refine ⟨a,c,rfl,fun hp=>?_⟩
 obtain ⟨g,rfl,hg,hcell⟩:=hx hp
 refine ⟨g,rfl,hA g hg,fun j u hu=>hc g j u hg ?_ (hcell j u hu)⟩
 have:=(List.getElem?_eq_some_iff.1 hu).1
 rw[mH,List.length_replicate] at this
 exact this
theorem MkI.of_own {w:World}{B:Nat}{v:Value}{n:Nat}{k:Int}{A:Nat->Prop}(h:w.ownsRow B 75 4 v n ((List.replicate n (gL k)).flatMap It.cells))(hA:∀j,v.ownBlock=some j->A j):MkI w v n k A:=by
 rcases h.2 with ⟨rfl,rfl⟩ | ⟨g,cap,cur,rfl,_⟩
 ·exact ⟨none,0,rfl,by omega⟩
 ·refine ⟨_,cap,rfl,fun _=>⟨g,rfl,hA g rfl,fun j u hu=>?_⟩⟩
  have hj:=(List.getElem?_eq_some_iff.1 hu).1
  rw[h.1] at hj
  exact (h.cellAt j hj).trans hu
theorem aU {w w1:World}{o:Obj}{row:Option Nat}{b j:Nat}{u:Value}(g:(w.alloc o).grownBy w1 row)(h:w.cell? ⟨b,j,none⟩=some u)(hr:some b≠row):w1.cell? ⟨b,j,none⟩=some u:=
 g.cell ((World.grownBy_alloc w o none).cell h (by simp)) hr
theorem bI {w w1:World}{o:Obj}{row:Option Nat}{b:Nat}(g:(w.alloc o).grownBy w1 row)(h:∀j,w.frozen? ⟨b,j,none⟩=false)(hr:some b≠row)(hb:b<(w.alloc o).heap.size)(hw:b<w.heap.size):∀j,w1.frozen? ⟨b,j,none⟩=false:=fun j=>
 (World.frozen?_of_block (a:=⟨b,j,none⟩) (g.block b hb hr)).trans ((World.frozen?_of_block (a:=⟨b,j,none⟩) ((World.grownBy_alloc w o none).block b hw (by simp))).trans (h j))
theorem Grp.next {w wr w2 w3:World}{B bk:Nat}{vI l:Value}{xs:List (Value×Int)}{k:Int}{n r:Nat}{ys:List Value}{vc lc l2 v3:Value}{o o':Obj}(h:Grp w wr B bk vI l xs k n r ys vc lc)(hbk:bk<w.heap.size)(hlb:l.ownBlock≠some bk)(hvb:vI.ownBlock≠some bk)(hl:∀j,l.ownBlock=some j->B<=j/\j<w.heap.size)(hv:∀j,vI.ownBlock=some j->B<=j/\j<w.heap.size)
  (g:(wr.alloc o).grownBy w2 lc.ownBlock) (r2:w2.ownsRow B 75 4 l2 (n+r+1) ((List.replicate (n+r) (gL k)).flatMap It.cells++(gL k).cells)) (b2:∀j,l2.ownBlock=some j->lc.ownBlock=some j∨(wr.alloc o).heap.size<=j) (kp:aBC (wr.alloc o) w2 lc ((n+r) * 4))
  (g':(w2.alloc o').grownBy w3 vc.ownBlock) (r3:w3.ownsRow B 100 2 v3 (xs.length+(r+1)+1) ((xs++ys.map (fun v=>(v,k))).flatMap bR++bR (l2,k))) (b3:∀j,v3.ownBlock=some j->vc.ownBlock=some j∨(w2.alloc o').heap.size<=j):
  Grp w (w3.setCell ⟨bk,0,none⟩ v3) B bk vI l xs k n (r+1) (ys++[l2]) v3 l2:=by
 have zr:=h.z
 have z2:=g.size
 have z3:=g'.size
 simp at z2 z3
 have hlc:some bk≠lc.ownBlock:=fun e=>by
  rcases h.lb bk e.symm with e | e
  ·exact hlb e
  ·omega
 have hvc:some bk≠vc.ownBlock:=fun e=>by
  rcases h.vb bk e.symm with e | e
  ·exact hvb e
  ·omega
 have hbw:bk<wr.heap.size:=by omega
 have c2:=aU g h.c hlc
 have c3:=aU g' c2 hvc
 have f2:=bI g h.f hlc (by simp;omega) hbw
 have f3:=bI g' f2 hvc (by simp;omega) (by omega)
 have hv3:v3.ownBlock≠some bk:=fun e=>by
  rcases b3 bk e with e | e
  ·exact hvc e.symm
  ·simp at e;omega
 have hl2:l2.ownBlock≠some bk:=fun e=>by
  rcases b2 bk e with e | e
  ·exact hlc e.symm
  ·simp at e;omega
 have lst:(w3.setCell ⟨bk,0,none⟩ v3).ownsRow B 75 4 l2 (n+(r+1)) ((List.replicate (n+(r+1)) (gL k)).flatMap It.cells):=by
  have e:(List.replicate (n+(r+1)) (gL k)).flatMap It.cells=(List.replicate (n+r) (gL k)).flatMap It.cells++(gL k).cells:=by
   rw[show n+(r+1)=(n+r)+1 by omega,List.replicate_succ',List.flatMap_append,List.flatMap_singleton]
  rw[e]
  refine aH (World.ownsRow.kept (World.ownsRow.alloc r2 _) g' ?_) _ _ _ hl2
  cases hq:l2.ownBlock with
  | none=>exact .inl rfl
  | some j=>
   refine .inr (fun e=>?_)
   rcases b2 j hq with hj | hj
   ·exact h.sep j hj e.symm
   ·have:=(h.row.lt j e.symm).2;simp at hj;omega
 have lb:∀j,l2.ownBlock=some j->l.ownBlock=some j∨w.heap.size<j:=fun j hj=>by
  rcases b2 j hj with hj | hj
  ·exact h.lb j hj
  ·exact .inr (by simp at hj;omega)
 have sep:∀j,l2.ownBlock=some j->v3.ownBlock≠some j:=fun j hj e=>by
  rcases b3 j e with hj3 | hj3
  ·rcases b2 j hj with hj2 | hj2
   ·exact h.sep j hj2 hj3
   ·have:=(h.row.lt j hj3).2;simp at hj2;omega
  ·have:=(r2.lt j hj).2;simp at hj3;omega
 refine ⟨by simp[h.y],World.cell?_setCell_same' _ _ _ (by rw[c3];rfl),fun o=>?_,?_,fun j hj=>?_,lst,lb,sep,fun i v hi=>?_,?_,?_,fun j u hu=>?_,fun j u hj hu=>fP (aU g' (aU g (h.kc j u hj hu) hlc) hvc) hj⟩
 ·have:=f3 o
  go_simp
 ·have e:(xs++(ys++[l2]).map (fun v=>(v,k))).flatMap bR=(xs++ys.map (fun v=>(v,k))).flatMap bR++bR (l2,k):=by
   rw[List.map_append,<- List.append_assoc,List.flatMap_append];simp
  rw[e]
  exact aH r3 _ _ _ hv3
 ·rcases b3 j hj with hj | hj
  ·exact h.vb j hj
  ·exact .inr (by simp at hj;omega)
 ·by_cases hiy:i<ys.length
  ·rw[List.getElem?_append_left hiy] at hi
   have hir:i<=r:=by have:=h.y;omega
   refine (h.m i v hi).step (fun g0 j u hA hj hc=>?_) (fun g0 hA=>⟨hA.1,fun e=>?_,?_⟩)
   ·have h1:(wr.alloc o).cell? ⟨g0,j,none⟩=some u:=(World.grownBy_alloc wr o none).cell hc (by simp)
    have h2:=kp g0 j u (fun _=>Nat.lt_of_lt_of_le hj (Nat.mul_le_mul_right _ (by omega))) h1
    have h3:w3.cell? ⟨g0,j,none⟩=some u:=aU g' h2 (fun e=>hA.2.1 e.symm)
    have hne:g0≠bk:=fun e0=>by
     rcases hA.1 with e | e
     ·exact hlb (by rw[<- e0];exact e)
     ·omega
    exact (Only.set w3 bk 0 v3).cell h3 hne
   ·rcases b3 g0 e with e | e
    ·exact hA.2.1 e
    ·have:=hA.2.2;simp at e;omega
   ·have:=hA.2.2;simp;omega
  ·have hie:i=ys.length:=by
    have:=(List.getElem?_eq_some_iff.1 hi).1
    simp at this;omega
   subst hie
   rw[List.getElem?_append_right (Nat.le_refl _)] at hi
   simp at hi
   subst hi
   rw[h.y]
   exact MkI.of_own lst (fun j hj=>⟨lb j hj,sep j hj,(lst.lt j hj).2⟩)
 ·refine h.o.trans ?_
  have q1:Only wr w2 (fun j=>(j=bk∨vI.ownBlock=some j∨l.ownBlock=some j)∨w.heap.size<=j):=⟨g.os,g.tape,g.output,by omega,fun j hj hn=>by
   rw[g.block j (by simp;omega) (fun e=>by rcases h.lb j e.symm with e | e;exact hn (.inl (.inr (.inr e)));exact hn (.inr (by omega))),(World.grownBy_alloc wr o none).block j hj (by simp)]⟩
  have q2:Only w2 w3 (fun j=>(j=bk∨vI.ownBlock=some j∨l.ownBlock=some j)∨w.heap.size<=j):=⟨g'.os,g'.tape,g'.output,by omega,fun j hj hn=>by
   rw[g'.block j (by simp;omega) (fun e=>by rcases h.vb j e.symm with e | e;exact hn (.inl (.inr (.inl e)));exact hn (.inr (by omega))),(World.grownBy_alloc w2 o' none).block j hj (by simp)]⟩
  exact (q1.trans (q2.mono (fun _ _ e=>.inl e))).trans ((Only.set w3 bk 0 v3).mono (fun _ _ e=>.inl (.inl (.inl e))))
 ·simp;omega
 ·have h0:=h.bx j u hu
  have h1:w2.cell? ⟨w.heap.size,j,none⟩=some u:=aU g h0 (fun e=>by rcases h.lb _ e.symm with e | e;have:=(hl _ e).2;omega;omega)
  have h2:w3.cell? ⟨w.heap.size,j,none⟩=some u:=aU g' h1 (fun e=>by rcases h.vb _ e.symm with e | e;have:=(hv _ e).2;omega;omega)
  exact (Only.set w3 bk 0 v3).cell h2 (by simp;omega)
theorem Grp.start {w wr w1:World}{B bk:Nat}{vI l:Value}{xs:List (Value×Int)}{k:Int}{n:Nat}{v1:Value}{o:Obj}(hbk:bk<w.heap.size)(hlb:l.ownBlock≠some bk)(hvb':vI.ownBlock≠some bk)(hl:∀j,l.ownBlock=some j->B<=j/\j<w.heap.size)(hv:∀j,vI.ownBlock=some j->B<=j/\j<w.heap.size)
  (ok:Only w wr (fun j=>l.ownBlock=some j)) (z:w.heap.size<wr.heap.size) (bx:∀j u,(gL k).cells[j]?=some u->wr.cell? ⟨w.heap.size,j,none⟩=some u) (rq:wr.ownsRow B 75 4 l n ((List.replicate n (gL k)).flatMap It.cells))
  (c:wr.cell? ⟨bk,0,none⟩=some vI) (f:∀o,wr.frozen? ⟨bk,o,none⟩=false) (hs:∀j,l.ownBlock=some j->vI.ownBlock≠some j)
  (g1:(wr.alloc o).grownBy w1 vI.ownBlock) (r1:w1.ownsRow B 100 2 v1 (xs.length+1) (xs.flatMap bR++bR (l,k))) (h1:∀j,v1.ownBlock=some j->vI.ownBlock=some j∨(wr.alloc o).heap.size<=j):
  Grp w (w1.setCell ⟨bk,0,none⟩ v1) B bk vI l xs k n 0 [l] v1 l:=by
 have z1:=g1.size
 simp at z1
 have hvb:some bk≠vI.ownBlock:=fun e=>hvb' e.symm
 have c1:=aU g1 c hvb
 have f1:=bI g1 f hvb (by simp;omega) (by omega)
 have lst:(w1.setCell ⟨bk,0,none⟩ v1).ownsRow B 75 4 l n ((List.replicate n (gL k)).flatMap It.cells):=by
  refine aH (World.ownsRow.kept (World.ownsRow.alloc rq _) g1 ?_) _ _ _ hlb
  cases hq:l.ownBlock with
  | none=>exact .inl rfl
  | some j=>exact .inr (fun e=>hs j hq e.symm)
 have sep:∀j,l.ownBlock=some j->v1.ownBlock≠some j:=fun j hj e=>by
  rcases h1 j e with e | e
  ·exact hs j hj e
  ·have:=(hl j hj).2;simp at e;omega
 refine ⟨rfl,World.cell?_setCell_same' _ _ _ (by rw[c1];rfl),fun o=>?_,?_,fun j hj=>?_,lst,fun j hj=>.inl hj,sep,fun i v hi=>?_,?_,?_,fun j u hu=>?_,fun j u hj hu=>fP (aU g1 (ok.cell hu hlb) hvb) hj⟩
 ·have:=f1 o
  go_simp
 ·have e:(xs++[l].map (fun v=>(v,k))).flatMap bR=xs.flatMap bR++bR (l,k):=by rw[List.flatMap_append];simp
  rw[e]
  exact aH r1 _ _ _ (fun e=>by
   rcases h1 bk e with e | e
   ·exact hvb' e
   ·simp at e;omega)
 ·rcases h1 j hj with hj | hj
  ·exact .inl hj
  ·exact .inr (by simp at hj;omega)
 ·have hi0:i=0:=by have:=(List.getElem?_eq_some_iff.1 hi).1;simp at this;omega
  subst hi0
  simp at hi
  subst hi
  exact MkI.of_own lst (fun j hj=>⟨.inl hj,sep j hj,(lst.lt j hj).2⟩)
 ·have q0:Only w wr (fun j=>j=bk∨vI.ownBlock=some j∨l.ownBlock=some j):=ok.mono (fun _ _ e=>.inr (.inr e))
  have q1:Only wr w1 (fun j=>(j=bk∨vI.ownBlock=some j∨l.ownBlock=some j)∨w.heap.size<=j):=⟨g1.os,g1.tape,g1.output,by omega,fun j hj hn=>by
   rw[g1.block j (by simp;omega) (fun e=>hn (.inl (.inr (.inl e.symm)))),(World.grownBy_alloc wr o none).block j hj (by simp)]⟩
  exact (q0.trans q1).trans ((Only.set w1 bk 0 v1).mono (fun _ _ e=>.inl (.inl e)))
 ·simp;omega
 ·have h2:w1.cell? ⟨w.heap.size,j,none⟩=some u:=aU g1 (bx j u hu) (fun e=>by have:=(hv _ e.symm).2;omega)
  exact (Only.set w1 bk 0 v1).cell h2 (by simp;omega)
theorem Grp.row2 {w wr w2:World}{B bk:Nat}{vI l:Value}{xs:List (Value×Int)}{k:Int}{n r:Nat}{ys:List Value}{vc lc:Value}{o:Obj}(h:Grp w wr B bk vI l xs k n r ys vc lc)(g:(wr.alloc o).grownBy w2 lc.ownBlock):
  w2.ownsRow B 100 2 vc (xs.length+(r+1)) ((xs++ys.map (fun v=>(v,k))).flatMap bR):=by
 refine World.ownsRow.kept (World.ownsRow.alloc h.row _) g ?_
 cases hq:vc.ownBlock with
 | none=>exact .inl rfl
 | some j=>exact .inr (fun e=>h.sep j e.symm hq)
theorem aJx (w:World)(g p:Nat)(a b c d:Value):Only w ((((w.setCell ⟨g,p,none⟩ a).setCell ⟨g,p+1,none⟩ b).setCell ⟨g,p+2,none⟩ c).setCell ⟨g,p+3,none⟩ d) (fun j=>j=g):=
 (((Only.set w g p a).trans ((Only.set _ g (p+1) b).mono (fun _ _ h=>.inl h))).trans ((Only.set _ g (p+2) c).mono (fun _ _ h=>.inl h))).trans ((Only.set _ g (p+3) d).mono (fun _ _ h=>.inl h))
theorem uV (B bk:Nat)(vI:Value)(xs:List (Value×Int))(l:Value)(is:List It)(w:World)(hbk:bk<w.heap.size)(hlb:l.ownBlock≠some bk)(hvb:vI.ownBlock≠some bk)(hB:B<=w.heap.size)(c0:w.cell? ⟨bk,0,none⟩=some vI)(f0:∀o,w.frozen? ⟨bk,o,none⟩=false)
  (rI:w.ownsRow B 100 2 vI xs.length (xs.flatMap bR)) (rl:OwnI B w l is) (hsep:∀j,l.ownBlock=some j->vI.ownBlock≠some j) (hn:is.length<=1000) (hx:xs.length<=10000000):
  Calls prog 110 #[.pointer (some ⟨bk,0,none⟩),l] w fun e w'=>e=.returned (.tuple #[])/\∃ys vc lc,Grp w w' B bk vI l xs (xs.length:Int) is.length 3 ys vc lc:=by
 obtain ⟨aI,cI,hvI⟩:=aJ rI
 obtain ⟨al,cl,hvl⟩:=aJ rl
 obtain ⟨n,hN⟩:∃n,is.length=n:=⟨_,rfl⟩
 obtain ⟨k,hK⟩:∃k,xs.length=k:=⟨_,rfl⟩
 rw[hN] at hn hvl ⊢
 rw[hK] at hx hvI ⊢
 subst hvI hvl
 have RI:=Hid.mk' rI
 have RL:=Hid.mk' rl
 have HS:=Hid.mk' hsep
 have HLK:=Hid.mk' hlb
 have HVK:=Hid.mk' hvb
 have HN:=Hid.mk' hN
 have HK:=Hid.mk' hK
 clear rI rl hsep hN hK hlb hvb
 have hsf:=aK
 go_enter func110,ntmps110
 go_wp2_with fail
 go_loopw [6] (fun t wr=>∃q:Nat,q<=n/\t=.int .i64 q/\Only w wr (fun j=>Value.ownBlock (.slice al n cl)=some j)/\w.heap.size<wr.heap.size/\(∀j u,(gL k).cells[j]?=some u->wr.cell? ⟨w.heap.size,j,none⟩=some u)/\wr.ownsRow B 75 4 (.slice al n cl) n ((List.replicate q (gL k)++is.drop q).flatMap It.cells)) (fun t _=>n -(intOf t).toNat)
 case atStart=>
  refine ⟨0,by omega,rfl,(Only.grown (World.grownBy_alloc w _ none)).mono (by simp),by simp,fun j u hu=>?_,?_⟩
  ·have hj:j<4:=by have:=(List.getElem?_eq_some_iff.1 hu).1;simpa [It.cells] using this
   have hu':=hu
   simp only[It.cells,gL] at hu'
   rcases (by omega:j=0∨j=1∨j=2∨j=3) with rfl | rfl | rfl | rfl<;>(simp at hu';subst hu';go_simp)
  ·have:=RL.out
   unfold OwnI at this
   rw[HN.out] at this
   simpa using World.ownsRow.alloc this _
 case round=>
  obtain ⟨q,hq,rfl,ok,hz,hbx,rq⟩:=hrel
  have OK:=Hid.mk' ok
  have RQ:=Hid.mk' rq
  have b0:=hbx 0 _ rfl
  have b1:=hbx 1 _ rfl
  have b2:=hbx 2 _ rfl
  have b3:=hbx 3 _ rfl
  have HBX:=Hid.mk' hbx
  clear ok rq hbx
  by_cases hlt:q<n
  ·obtain ⟨g,rfl,hgB⟩:∃g,al=some ⟨g,0,none⟩/\B<=g:=by
    rcases RQ.out.2 with ⟨h',hn0⟩ | ⟨g,cap,cur,h',hb,_⟩
    ·omega
    ·injection h' with h1 h2 h3
     exact ⟨g,h1,hb⟩
   have hdr:is.drop q=is[q]'(by rw[HN.out];exact hlt)::is.drop (q+1):=List.drop_eq_getElem_cons (by rw[HN.out];exact hlt)
   obtain ⟨y,hy⟩:∃y,is[q]'(by rw[HN.out];exact hlt)=y:=⟨_,rfl⟩
   have hsplit:(List.replicate q (gL k)++is.drop q).flatMap It.cells=(List.replicate q (gL k)).flatMap It.cells++ .int .i64 y.sh:: .int .i64 y.nu:: .float .f32 y.pl:: .float .f32 y.sp::(is.drop (q+1)).flatMap It.cells:=by
    rw[hdr,hy,List.flatMap_append,List.flatMap_cons];rfl
   have RS:=RQ.out
   rw[hsplit] at RS
   have hAl:((List.replicate q (gL k)).flatMap It.cells).length=q * 4:=by rw[mH,List.length_replicate]
   have d0:wr.cell? ⟨g,q * 4,none⟩=some (.int .i64 y.sh):=(RS.cellAt _ (by omega)).trans (by rw[List.getElem?_append_right (by omega),hAl];simp)
   have d1:wr.cell? ⟨g,q * 4+1,none⟩=some (.int .i64 y.nu):=(RS.cellAt _ (by omega)).trans (by rw[List.getElem?_append_right (by omega),hAl];simp)
   have d2:wr.cell? ⟨g,q * 4+2,none⟩=some (.float .f32 y.pl):=(RS.cellAt _ (by omega)).trans (by rw[List.getElem?_append_right (by omega),hAl];simp)
   have d3:wr.cell? ⟨g,q * 4+3,none⟩=some (.float .f32 y.sp):=(RS.cellAt _ (by omega)).trans (by rw[List.getElem?_append_right (by omega),hAl];simp)
   have fg:∀j,wr.frozen? ⟨g,j,none⟩=false:=fun j=>RS.frozenAt j
   have RS2:=Hid.mk' RS
   have hgw:g<w.heap.size:=(RL.out.lt g rfl).2
   have x0:(0:Int)<=(q:Int):=by omega
   have x1:(q:Int)<(n:Int):=by omega
   clear RS hsplit hdr hy
   simp only[gL] at b0 b1 b2 b3
   go_wp2_with fail
   have O4:=Hid.mk' (aJx wr g (q * 4) (.int .i64 (-9 -(k:Int))) (.int .i64 0) (.float .f32 0) (.float .f32 0))
   have W4:=Hid.mk' (aEG RS2.out hAl (.int .i64 (-9 -(k:Int))) (.int .i64 0) (.float .f32 0) (.float .f32 0))
   generalize ((((wr.setCell ⟨g,q * 4,none⟩ (.int .i64 (-9 -(k:Int)))).setCell ⟨g,q * 4+1,none⟩ (.int .i64 0)).setCell ⟨g,q * 4+2,none⟩ (.float .f32 0)).setCell ⟨g,q * 4+3,none⟩ (.float .f32 0))=w4 at *
   refine ⟨⟨q+1,by omega,by go_num,OK.out.trans (O4.out.mono (fun j _ hj=>.inl (by rw[hj];rfl))),Nat.lt_of_lt_of_le hz O4.out.size,fun j u hu=>O4.out.cell (HBX.out j u hu) (by simp;omega),?_⟩,by simp[intOf];omega⟩
   have e:(List.replicate (q+1) (gL k)++is.drop (q+1)).flatMap It.cells=(List.replicate q (gL k)).flatMap It.cells++ .int .i64 (-9 -(k:Int)):: .int .i64 0:: .float .f32 0:: .float .f32 0::(is.drop (q+1)).flatMap It.cells:=by
    rw[List.replicate_succ',List.flatMap_append,List.flatMap_append,List.flatMap_singleton,List.append_assoc];rfl
   rw[e]
   exact W4.out
  ·have hqn:q=n:=by omega
   subst hqn
   rw[List.drop_of_length_le (by rw[HN.out];exact Nat.le_refl _),List.append_nil] at RQ
   have hnb:¬Value.ownBlock (.slice al q cl)=some bk:=HLK.out
   have e0:wr.cell? ⟨bk,0,none⟩=some (.slice aI k cI):=OK.out.cell c0 hnb
   have fb:∀o,wr.frozen? ⟨bk,o,none⟩=false:=fun o=>(OK.out.frozen (a:=⟨bk,o,none⟩) hbk hnb).trans (f0 o)
   have R1:Hid (wr.ownsRow B 100 2 (.slice aI k cI) k (xs.flatMap bR)):=by
    have:=RI.out
    rw[HK.out] at this
    exact OK.out.own this (fun j hj e=>HS.out j e hj)
   have hsz:=OK.out.size
   clear c0 f0
   have HVb:Hid (some bk≠Value.ownBlock (.slice aI k cI)):=fun e=>HVK.out e.symm
   obtain ⟨iO,hi,hz0,hz1,hz2⟩:=aEH
   go_wp2_with (at_builtin;refine iN rfl _ _ 90 rfl 100 iO _ 2 32 underlying90 hi hz0 hz1 hz2 rfl (by decide) B (.slice aI k cI) k (xs.flatMap bR) rfl (World.ownsRow.alloc R1.out _) ⟨wr.heap.size,0,none⟩ (bR (.slice al q cl,(k:Int))) rfl rfl (aW _ (bR (.slice al q cl,(k:Int))) _ _ rfl) (by simp[bR,Value.oneCell']) (by unfold maxLen;omega) (by omega) (by simp;omega) ?_;intro v1 w1 r1 g1 h1 k1;obtain ⟨a1,c1,rfl⟩:=aJ r1;have s0:=aU g1 e0 HVb.out;have fs:=bI g1 fb HVb.out (by simp;omega) (by omega))
   have hrl:Hid (∀j,Value.ownBlock (.slice al q cl)=some j->B<=j/\j<w.heap.size):=fun j hj=>RL.out.lt j hj
   have hri:Hid (∀j,Value.ownBlock (.slice aI k cI)=some j->B<=j/\j<w.heap.size):=fun j hj=>RI.out.lt j hj
   have GS:Hid (Grp w (w1.setCell ⟨bk,0,none⟩ (.slice a1 (k+1) c1)) B bk (.slice aI k cI) (.slice al q cl) xs (k:Int) q 0 [.slice al q cl] (.slice a1 (k+1) c1) (.slice al q cl)):=
    Grp.start hbk HLK.out HVK.out hrl.out hri.out OK.out hz HBX.out RQ.out e0 fb HS.out g1 (by rw[HK.out];exact r1) h1
   generalize (w1.setCell ⟨bk,0,none⟩ (.slice a1 (k+1) c1))=wg at *
   clear s0 fs g1 r1 h1 k1 e0 fb R1 HVb b0 b1 b2 b3
   go_loopw [1,7] (fun t v wq=>∃(r:Nat) (ys:List Value) (vc:Value),r<=3/\v=.int .i64 r/\Grp w wq B bk (.slice aI k cI) (.slice al q cl) xs (k:Int) q r ys vc t) (fun _ v _=>3 -(intOf v).toNat)
   case atStart=>exact ⟨0,_,_,by omega,rfl,GS.out⟩
   case round=>
    obtain ⟨r,ys,vc,hr,rfl,gr⟩:=hrel
    have GR:=Hid.mk' gr
    have b0:=gr.bx 0 _ rfl
    have b1:=gr.bx 1 _ rfl
    have b2:=gr.bx 2 _ rfl
    have b3:=gr.bx 3 _ rfl
    have e0:=gr.c
    have fb:=gr.f
    have zz:=gr.z
    simp only[gL] at b0 b1 b2 b3
    clear gr
    by_cases hlt:r<3
    ·obtain ⟨iT,hiT,hy0,hy1,hy2⟩:=nW
     have HLb:Hid (some bk≠u1.ownBlock):=fun e=>by
      rcases GR.out.lb bk e.symm with e | e
      ·exact HLK.out e
      ·omega
     have HVb:Hid (some bk≠vc.ownBlock):=fun e=>by
      rcases GR.out.vb bk e.symm with e | e
      ·exact HVK.out e
      ·omega
     go_wp2_with (first | (at_builtin;refine iN rfl _ _ 37 rfl 75 iT _ 4 24 underlying37 hiT hy0 hy1 hy2 rfl (by decide) B u1 (q+r) _ rfl (World.ownsRow.alloc GR.out.lst _) ⟨wr.heap.size,0,none⟩ (gL k).cells rfl rfl (aW _ (gL k).cells _ _ rfl) (by simp[It.cells,Value.oneCell']) (by unfold maxLen;omega) (by omega) (by simp;omega) ?_;intro l2 w2 r2 g2 h2 k2;obtain ⟨a2,c2,rfl⟩:=aJ r2;have R2:=Hid.mk' (GR.out.row2 g2);have e2:=aU g2 e0 HLb.out;have f2:=bI g2 fb HLb.out (by simp;omega) (by omega);have z2:=g2.size) | (at_builtin;refine iN rfl _ _ 90 rfl 100 iO _ 2 32 underlying90 hi hz0 hz1 hz2 rfl (by decide) B vc (xs.length+(r+1)) _ rfl (World.ownsRow.alloc R2.out _) ⟨w2.heap.size,0,none⟩ (bR (.slice a2 (q+r+1) c2,(k:Int))) rfl rfl (aW _ (bR (.slice a2 (q+r+1) c2,(k:Int))) _ _ rfl) (by simp[bR,Value.oneCell']) (by rw[HK.out];unfold maxLen;omega) (by rw[HK.out];omega) (by simp at z2;simp;omega) ?_;intro v3 w3 r3 g3 h3 k3;obtain ⟨a3,c3,rfl⟩:=aJ r3;have e3:=aU g3 e2 HVb.out;have f3:=bI g3 f2 HVb.out (by simp at z2;simp;omega) (by simp at z2;omega)))
     refine ⟨⟨r+1,ys++[.slice a2 (q+r+1) c2],_,by omega,by go_num,GR.out.next hbk HLK.out HVK.out hrl.out hri.out g2 r2 h2 k2 g3 r3 h3⟩,by simp[intOf];omega⟩
    ·have hr3:r=3:=by omega
     subst hr3
     go_wp2
     exact bodyPost_end (v:=.tuple #[]) (by simp[results,results110]) rfl ⟨rfl,ys,vc,u1,GR.out⟩
def gM (k:Int):En:=⟨-9 -k,⟨0,0,0,0⟩⟩
def MkE (w:World)(v:Value)(n:Nat)(k:Int)(A:Nat->Prop):Prop:=
 ∃a c,v=.slice a n c/\(0<n->∃g,a=some ⟨g,0,none⟩/\A g/\∀j u,((List.replicate n (gM k)).flatMap En.cells)[j]?=some u->w.cell? ⟨g,j,none⟩=some u)
theorem aEI:∃i,prog.info? 102=some i/\i.zero=some (.agg #[.slice none 0 0,.int .i64 0])/\i.size=2/\i.bytes=32:=info_parts (by kernel_rfl)
structure GrpE (w wr:World)(B bk:Nat)(vI l:Value)(xs:List (Value×Int))(k:Int)(n r:Nat)(ys:List Value)(vc lc:Value):Prop where
 y:ys.length=r+1
 c:wr.cell? ⟨bk,1,none⟩=some vc
 f:∀o,wr.frozen? ⟨bk,o,none⟩=false
 row:wr.ownsRow B 102 2 vc (xs.length+(r+1)) ((xs++ys.map (fun v=>(v,k))).flatMap bR)
 vb:∀j,vc.ownBlock=some j->vI.ownBlock=some j∨w.heap.size<j
 lst:wr.ownsRow B 87 5 lc (n+r) ((List.replicate (n+r) (gM k)).flatMap En.cells)
 lb:∀j,lc.ownBlock=some j->l.ownBlock=some j∨w.heap.size<j
 sep:∀j,lc.ownBlock=some j->vc.ownBlock≠some j
 m:∀i v,ys[i]?=some v->MkE wr v (n+i) k (fun j=>(l.ownBlock=some j∨w.heap.size<j)/\vc.ownBlock≠some j/\j<wr.heap.size)
 o:Only w wr (fun j=>j=bk∨vI.ownBlock=some j∨l.ownBlock=some j)
 z:w.heap.size<wr.heap.size
 bx:∀j u,(gM k).cells[j]?=some u->wr.cell? ⟨w.heap.size,j,none⟩=some u
 kc:∀j u,j≠1->w.cell? ⟨bk,j,none⟩=some u->wr.cell? ⟨bk,j,none⟩=some u
theorem MkE.step {w w':World}{v:Value}{n:Nat}{k:Int}{A A':Nat->Prop}(h:MkE w v n k A)(hc:∀g j u,A g->j<n * 5->w.cell? ⟨g,j,none⟩=some u->w'.cell? ⟨g,j,none⟩=some u)(hA:∀g,A g->A' g):MkE w' v n k A':=by
 obtain ⟨a,c,rfl,hx⟩:=h
 refine ⟨a,c,rfl,fun hp=>?_⟩
 obtain ⟨g,rfl,hg,hcell⟩:=hx hp
 refine ⟨g,rfl,hA g hg,fun j u hu=>hc g j u hg ?_ (hcell j u hu)⟩
 have:=(List.getElem?_eq_some_iff.1 hu).1
 rw[fM,List.length_replicate] at this
 exact this
theorem MkE.of_own {w:World}{B:Nat}{v:Value}{n:Nat}{k:Int}{A:Nat->Prop}(h:w.ownsRow B 87 5 v n ((List.replicate n (gM k)).flatMap En.cells))(hA:∀j,v.ownBlock=some j->A j):MkE w v n k A:=by
 rcases h.2 with ⟨rfl,rfl⟩ | ⟨g,cap,cur,rfl,_⟩
 ·exact ⟨none,0,rfl,by omega⟩
 ·refine ⟨_,cap,rfl,fun _=>⟨g,rfl,hA g rfl,fun j u hu=>?_⟩⟩
  have hj:=(List.getElem?_eq_some_iff.1 hu).1
  rw[h.1] at hj
  exact (h.cellAt j hj).trans hu
theorem GrpE.next {w wr w2 w3:World}{B bk:Nat}{vI l:Value}{xs:List (Value×Int)}{k:Int}{n r:Nat}{ys:List Value}{vc lc l2 v3:Value}{o o':Obj}(h:GrpE w wr B bk vI l xs k n r ys vc lc)(hbk:bk<w.heap.size)(hlb:l.ownBlock≠some bk)(hvb:vI.ownBlock≠some bk)(hl:∀j,l.ownBlock=some j->B<=j/\j<w.heap.size)(hv:∀j,vI.ownBlock=some j->B<=j/\j<w.heap.size)
  (g:(wr.alloc o).grownBy w2 lc.ownBlock) (r2:w2.ownsRow B 87 5 l2 (n+r+1) ((List.replicate (n+r) (gM k)).flatMap En.cells++(gM k).cells)) (b2:∀j,l2.ownBlock=some j->lc.ownBlock=some j∨(wr.alloc o).heap.size<=j) (kp:aBC (wr.alloc o) w2 lc ((n+r) * 5))
  (g':(w2.alloc o').grownBy w3 vc.ownBlock) (r3:w3.ownsRow B 102 2 v3 (xs.length+(r+1)+1) ((xs++ys.map (fun v=>(v,k))).flatMap bR++bR (l2,k))) (b3:∀j,v3.ownBlock=some j->vc.ownBlock=some j∨(w2.alloc o').heap.size<=j):
  GrpE w (w3.setCell ⟨bk,1,none⟩ v3) B bk vI l xs k n (r+1) (ys++[l2]) v3 l2:=by
 have zr:=h.z
 have z2:=g.size
 have z3:=g'.size
 simp at z2 z3
 have hlc:some bk≠lc.ownBlock:=fun e=>by
  rcases h.lb bk e.symm with e | e
  ·exact hlb e
  ·omega
 have hvc:some bk≠vc.ownBlock:=fun e=>by
  rcases h.vb bk e.symm with e | e
  ·exact hvb e
  ·omega
 have hbw:bk<wr.heap.size:=by omega
 have c2:=aU g h.c hlc
 have c3:=aU g' c2 hvc
 have f2:=bI g h.f hlc (by simp;omega) hbw
 have f3:=bI g' f2 hvc (by simp;omega) (by omega)
 have hv3:v3.ownBlock≠some bk:=fun e=>by
  rcases b3 bk e with e | e
  ·exact hvc e.symm
  ·simp at e;omega
 have hl2:l2.ownBlock≠some bk:=fun e=>by
  rcases b2 bk e with e | e
  ·exact hlc e.symm
  ·simp at e;omega
 have lst:(w3.setCell ⟨bk,1,none⟩ v3).ownsRow B 87 5 l2 (n+(r+1)) ((List.replicate (n+(r+1)) (gM k)).flatMap En.cells):=by
  have e:(List.replicate (n+(r+1)) (gM k)).flatMap En.cells=(List.replicate (n+r) (gM k)).flatMap En.cells++(gM k).cells:=by
   rw[show n+(r+1)=(n+r)+1 by omega,List.replicate_succ',List.flatMap_append,List.flatMap_singleton]
  rw[e]
  refine aH (World.ownsRow.kept (World.ownsRow.alloc r2 _) g' ?_) _ _ _ hl2
  cases hq:l2.ownBlock with
  | none=>exact .inl rfl
  | some j=>
   refine .inr (fun e=>?_)
   rcases b2 j hq with hj | hj
   ·exact h.sep j hj e.symm
   ·have:=(h.row.lt j e.symm).2;simp at hj;omega
 have lb:∀j,l2.ownBlock=some j->l.ownBlock=some j∨w.heap.size<j:=fun j hj=>by
  rcases b2 j hj with hj | hj
  ·exact h.lb j hj
  ·exact .inr (by simp at hj;omega)
 have sep:∀j,l2.ownBlock=some j->v3.ownBlock≠some j:=fun j hj e=>by
  rcases b3 j e with hj3 | hj3
  ·rcases b2 j hj with hj2 | hj2
   ·exact h.sep j hj2 hj3
   ·have:=(h.row.lt j hj3).2;simp at hj2;omega
  ·have:=(r2.lt j hj).2;simp at hj3;omega
 refine ⟨by simp[h.y],World.cell?_setCell_same' _ _ _ (by rw[c3];rfl),fun o=>?_,?_,fun j hj=>?_,lst,lb,sep,fun i v hi=>?_,?_,?_,fun j u hu=>?_,fun j u hj hu=>fP (aU g' (aU g (h.kc j u hj hu) hlc) hvc) hj⟩
 ·have:=f3 o
  go_simp
 ·have e:(xs++(ys++[l2]).map (fun v=>(v,k))).flatMap bR=(xs++ys.map (fun v=>(v,k))).flatMap bR++bR (l2,k):=by
   rw[List.map_append,<- List.append_assoc,List.flatMap_append];simp
  rw[e]
  exact aH r3 _ _ _ hv3
 ·rcases b3 j hj with hj | hj
  ·exact h.vb j hj
  ·exact .inr (by simp at hj;omega)
 ·by_cases hiy:i<ys.length
  ·rw[List.getElem?_append_left hiy] at hi
   have hir:i<=r:=by have:=h.y;omega
   refine (h.m i v hi).step (fun g0 j u hA hj hc=>?_) (fun g0 hA=>⟨hA.1,fun e=>?_,?_⟩)
   ·have h1:(wr.alloc o).cell? ⟨g0,j,none⟩=some u:=(World.grownBy_alloc wr o none).cell hc (by simp)
    have h2:=kp g0 j u (fun _=>Nat.lt_of_lt_of_le hj (Nat.mul_le_mul_right _ (by omega))) h1
    have h3:w3.cell? ⟨g0,j,none⟩=some u:=aU g' h2 (fun e=>hA.2.1 e.symm)
    have hne:g0≠bk:=fun e0=>by
     rcases hA.1 with e | e
     ·exact hlb (by rw[<- e0];exact e)
     ·omega
    exact (Only.set w3 bk 1 v3).cell h3 hne
   ·rcases b3 g0 e with e | e
    ·exact hA.2.1 e
    ·have:=hA.2.2;simp at e;omega
   ·have:=hA.2.2;simp;omega
  ·have hie:i=ys.length:=by
    have:=(List.getElem?_eq_some_iff.1 hi).1
    simp at this;omega
   subst hie
   rw[List.getElem?_append_right (Nat.le_refl _)] at hi
   simp at hi
   subst hi
   rw[h.y]
   exact MkE.of_own lst (fun j hj=>⟨lb j hj,sep j hj,(lst.lt j hj).2⟩)
 ·refine h.o.trans ?_
  have q1:Only wr w2 (fun j=>(j=bk∨vI.ownBlock=some j∨l.ownBlock=some j)∨w.heap.size<=j):=⟨g.os,g.tape,g.output,by omega,fun j hj hn=>by
   rw[g.block j (by simp;omega) (fun e=>by rcases h.lb j e.symm with e | e;exact hn (.inl (.inr (.inr e)));exact hn (.inr (by omega))),(World.grownBy_alloc wr o none).block j hj (by simp)]⟩
  have q2:Only w2 w3 (fun j=>(j=bk∨vI.ownBlock=some j∨l.ownBlock=some j)∨w.heap.size<=j):=⟨g'.os,g'.tape,g'.output,by omega,fun j hj hn=>by
   rw[g'.block j (by simp;omega) (fun e=>by rcases h.vb j e.symm with e | e;exact hn (.inl (.inr (.inl e)));exact hn (.inr (by omega))),(World.grownBy_alloc w2 o' none).block j hj (by simp)]⟩
  exact (q1.trans (q2.mono (fun _ _ e=>.inl e))).trans ((Only.set w3 bk 1 v3).mono (fun _ _ e=>.inl (.inl (.inl e))))
 ·simp;omega
 ·have h0:=h.bx j u hu
  have h1:w2.cell? ⟨w.heap.size,j,none⟩=some u:=aU g h0 (fun e=>by rcases h.lb _ e.symm with e | e;have:=(hl _ e).2;omega;omega)
  have h2:w3.cell? ⟨w.heap.size,j,none⟩=some u:=aU g' h1 (fun e=>by rcases h.vb _ e.symm with e | e;have:=(hv _ e).2;omega;omega)
  exact (Only.set w3 bk 1 v3).cell h2 (by simp;omega)
theorem GrpE.start {w wr w1:World}{B bk:Nat}{vI l:Value}{xs:List (Value×Int)}{k:Int}{n:Nat}{v1:Value}{o:Obj}(hbk:bk<w.heap.size)(hlb:l.ownBlock≠some bk)(hvb':vI.ownBlock≠some bk)(hl:∀j,l.ownBlock=some j->B<=j/\j<w.heap.size)(hv:∀j,vI.ownBlock=some j->B<=j/\j<w.heap.size)
  (ok:Only w wr (fun j=>l.ownBlock=some j)) (z:w.heap.size<wr.heap.size) (bx:∀j u,(gM k).cells[j]?=some u->wr.cell? ⟨w.heap.size,j,none⟩=some u) (rq:wr.ownsRow B 87 5 l n ((List.replicate n (gM k)).flatMap En.cells))
  (c:wr.cell? ⟨bk,1,none⟩=some vI) (f:∀o,wr.frozen? ⟨bk,o,none⟩=false) (hs:∀j,l.ownBlock=some j->vI.ownBlock≠some j)
  (g1:(wr.alloc o).grownBy w1 vI.ownBlock) (r1:w1.ownsRow B 102 2 v1 (xs.length+1) (xs.flatMap bR++bR (l,k))) (h1:∀j,v1.ownBlock=some j->vI.ownBlock=some j∨(wr.alloc o).heap.size<=j):
  GrpE w (w1.setCell ⟨bk,1,none⟩ v1) B bk vI l xs k n 0 [l] v1 l:=by
 have z1:=g1.size
 simp at z1
 have hvb:some bk≠vI.ownBlock:=fun e=>hvb' e.symm
 have c1:=aU g1 c hvb
 have f1:=bI g1 f hvb (by simp;omega) (by omega)
 have lst:(w1.setCell ⟨bk,1,none⟩ v1).ownsRow B 87 5 l n ((List.replicate n (gM k)).flatMap En.cells):=by
  refine aH (World.ownsRow.kept (World.ownsRow.alloc rq _) g1 ?_) _ _ _ hlb
  cases hq:l.ownBlock with
  | none=>exact .inl rfl
  | some j=>exact .inr (fun e=>hs j hq e.symm)
 have sep:∀j,l.ownBlock=some j->v1.ownBlock≠some j:=fun j hj e=>by
  rcases h1 j e with e | e
  ·exact hs j hj e
  ·have:=(hl j hj).2;simp at e;omega
 refine ⟨rfl,World.cell?_setCell_same' _ _ _ (by rw[c1];rfl),fun o=>?_,?_,fun j hj=>?_,lst,fun j hj=>.inl hj,sep,fun i v hi=>?_,?_,?_,fun j u hu=>?_,fun j u hj hu=>fP (aU g1 (ok.cell hu hlb) hvb) hj⟩
 ·have:=f1 o
  go_simp
 ·have e:(xs++[l].map (fun v=>(v,k))).flatMap bR=xs.flatMap bR++bR (l,k):=by rw[List.flatMap_append];simp
  rw[e]
  exact aH r1 _ _ _ (fun e=>by
   rcases h1 bk e with e | e
   ·exact hvb' e
   ·simp at e;omega)
 ·rcases h1 j hj with hj | hj
  ·exact .inl hj
  ·exact .inr (by simp at hj;omega)
 ·have hi0:i=0:=by have:=(List.getElem?_eq_some_iff.1 hi).1;simp at this;omega
  subst hi0
  simp at hi
  subst hi
  exact MkE.of_own lst (fun j hj=>⟨.inl hj,sep j hj,(lst.lt j hj).2⟩)
 ·have q0:Only w wr (fun j=>j=bk∨vI.ownBlock=some j∨l.ownBlock=some j):=ok.mono (fun _ _ e=>.inr (.inr e))
  have q1:Only wr w1 (fun j=>(j=bk∨vI.ownBlock=some j∨l.ownBlock=some j)∨w.heap.size<=j):=⟨g1.os,g1.tape,g1.output,by omega,fun j hj hn=>by
   rw[g1.block j (by simp;omega) (fun e=>hn (.inl (.inr (.inl e.symm)))),(World.grownBy_alloc wr o none).block j hj (by simp)]⟩
  exact (q0.trans q1).trans ((Only.set w1 bk 1 v1).mono (fun _ _ e=>.inl (.inl e)))
 ·simp;omega
 ·have h2:w1.cell? ⟨w.heap.size,j,none⟩=some u:=aU g1 (bx j u hu) (fun e=>by have:=(hv _ e.symm).2;omega)
  exact (Only.set w1 bk 1 v1).cell h2 (by simp;omega)
theorem GrpE.row2 {w wr w2:World}{B bk:Nat}{vI l:Value}{xs:List (Value×Int)}{k:Int}{n r:Nat}{ys:List Value}{vc lc:Value}{o:Obj}(h:GrpE w wr B bk vI l xs k n r ys vc lc)(g:(wr.alloc o).grownBy w2 lc.ownBlock):
  w2.ownsRow B 102 2 vc (xs.length+(r+1)) ((xs++ys.map (fun v=>(v,k))).flatMap bR):=by
 refine World.ownsRow.kept (World.ownsRow.alloc h.row _) g ?_
 cases hq:vc.ownBlock with
 | none=>exact .inl rfl
 | some j=>exact .inr (fun e=>h.sep j e.symm hq)
theorem aJy (w:World)(g p:Nat)(a b c d f:Value):Only w (((((w.setCell ⟨g,p,none⟩ a).setCell ⟨g,p+1,none⟩ b).setCell ⟨g,p+2,none⟩ c).setCell ⟨g,p+3,none⟩ d).setCell ⟨g,p+4,none⟩ f) (fun j=>j=g):=
 ((((Only.set w g p a).trans ((Only.set _ g (p+1) b).mono (fun _ _ h=>.inl h))).trans ((Only.set _ g (p+2) c).mono (fun _ _ h=>.inl h))).trans ((Only.set _ g (p+3) d).mono (fun _ _ h=>.inl h))).trans ((Only.set _ g (p+4) f).mono (fun _ _ h=>.inl h))
theorem rD (B bk:Nat)(vI:Value)(xs:List (Value×Int))(l:Value)(is:List En)(w:World)(hbk:bk<w.heap.size)(hlb:l.ownBlock≠some bk)(hvb:vI.ownBlock≠some bk)(hB:B<=w.heap.size)(c0:w.cell? ⟨bk,1,none⟩=some vI)(f0:∀o,w.frozen? ⟨bk,o,none⟩=false)
  (rI:w.ownsRow B 102 2 vI xs.length (xs.flatMap bR)) (rl:OwnE B w l is) (hsep:∀j,l.ownBlock=some j->vI.ownBlock≠some j) (hn:is.length<=1000) (hx:xs.length<=10000000):
  Calls prog 112 #[.pointer (some ⟨bk,0,none⟩),l] w fun e w'=>e=.returned (.tuple #[])/\∃ys vc lc,GrpE w w' B bk vI l xs (xs.length:Int) is.length 3 ys vc lc:=by
 obtain ⟨aI,cI,hvI⟩:=aJ rI
 obtain ⟨al,cl,hvl⟩:=aJ rl
 obtain ⟨n,hN⟩:∃n,is.length=n:=⟨_,rfl⟩
 obtain ⟨k,hK⟩:∃k,xs.length=k:=⟨_,rfl⟩
 rw[hN] at hn hvl ⊢
 rw[hK] at hx hvI ⊢
 subst hvI hvl
 have RI:=Hid.mk' rI
 have RL:=Hid.mk' rl
 have HS:=Hid.mk' hsep
 have HLK:=Hid.mk' hlb
 have HVK:=Hid.mk' hvb
 have HN:=Hid.mk' hN
 have HK:=Hid.mk' hK
 clear rI rl hsep hN hK hlb hvb
 have hsf:=aK
 go_enter func112,ntmps112
 go_wp2_with fail
 go_loopw [6] (fun t wr=>∃q:Nat,q<=n/\t=.int .i64 q/\Only w wr (fun j=>Value.ownBlock (.slice al n cl)=some j)/\w.heap.size<wr.heap.size/\(∀j u,(gM k).cells[j]?=some u->wr.cell? ⟨w.heap.size,j,none⟩=some u)/\wr.ownsRow B 87 5 (.slice al n cl) n ((List.replicate q (gM k)++is.drop q).flatMap En.cells)) (fun t _=>n -(intOf t).toNat)
 case atStart=>
  refine ⟨0,by omega,rfl,(Only.grown (World.grownBy_alloc w _ none)).mono (by simp),by simp,fun j u hu=>?_,?_⟩
  ·have hj:j<5:=by have:=(List.getElem?_eq_some_iff.1 hu).1;simpa [En.cells] using this
   have hu':=hu
   simp only[En.cells,gM] at hu'
   rcases (by omega:j=0∨j=1∨j=2∨j=3∨j=4) with rfl | rfl | rfl | rfl | rfl<;>(simp at hu';subst hu';go_simp)
  ·have:=RL.out
   unfold OwnE at this
   rw[HN.out] at this
   simpa using World.ownsRow.alloc this _
 case round=>
  obtain ⟨q,hq,rfl,ok,hz,hbx,rq⟩:=hrel
  have OK:=Hid.mk' ok
  have RQ:=Hid.mk' rq
  have b0:=hbx 0 _ rfl
  have b1:=hbx 1 _ rfl
  have b2:=hbx 2 _ rfl
  have b3:=hbx 3 _ rfl
  have b4:=hbx 4 _ rfl
  have HBX:=Hid.mk' hbx
  clear ok rq hbx
  by_cases hlt:q<n
  ·obtain ⟨g,rfl,hgB⟩:∃g,al=some ⟨g,0,none⟩/\B<=g:=by
    rcases RQ.out.2 with ⟨h',hn0⟩ | ⟨g,cap,cur,h',hb,_⟩
    ·omega
    ·injection h' with h1 h2 h3
     exact ⟨g,h1,hb⟩
   have hdr:is.drop q=is[q]'(by rw[HN.out];exact hlt)::is.drop (q+1):=List.drop_eq_getElem_cons (by rw[HN.out];exact hlt)
   obtain ⟨y,hy⟩:∃y,is[q]'(by rw[HN.out];exact hlt)=y:=⟨_,rfl⟩
   have hsplit:(List.replicate q (gM k)++is.drop q).flatMap En.cells=(List.replicate q (gM k)).flatMap En.cells++ .int .i64 y.sq:: .int .i64 y.it.sh:: .int .i64 y.it.nu:: .float .f32 y.it.pl:: .float .f32 y.it.sp::(is.drop (q+1)).flatMap En.cells:=by
    rw[hdr,hy,List.flatMap_append,List.flatMap_cons];rfl
   have RS:=RQ.out
   rw[hsplit] at RS
   have hAl:((List.replicate q (gM k)).flatMap En.cells).length=q * 5:=by rw[fM,List.length_replicate]
   have d0:wr.cell? ⟨g,q * 5,none⟩=some (.int .i64 y.sq):=(RS.cellAt _ (by omega)).trans (by rw[List.getElem?_append_right (by omega),hAl];simp)
   have d1:wr.cell? ⟨g,q * 5+1,none⟩=some (.int .i64 y.it.sh):=(RS.cellAt _ (by omega)).trans (by rw[List.getElem?_append_right (by omega),hAl];simp)
   have d2:wr.cell? ⟨g,q * 5+2,none⟩=some (.int .i64 y.it.nu):=(RS.cellAt _ (by omega)).trans (by rw[List.getElem?_append_right (by omega),hAl];simp)
   have d3:wr.cell? ⟨g,q * 5+3,none⟩=some (.float .f32 y.it.pl):=(RS.cellAt _ (by omega)).trans (by rw[List.getElem?_append_right (by omega),hAl];simp)
   have d4:wr.cell? ⟨g,q * 5+4,none⟩=some (.float .f32 y.it.sp):=(RS.cellAt _ (by omega)).trans (by rw[List.getElem?_append_right (by omega),hAl];simp)
   have fg:∀j,wr.frozen? ⟨g,j,none⟩=false:=fun j=>RS.frozenAt j
   have RS2:=Hid.mk' RS
   have hgw:g<w.heap.size:=(RL.out.lt g rfl).2
   have x0:(0:Int)<=(q:Int):=by omega
   have x1:(q:Int)<(n:Int):=by omega
   clear RS hsplit hdr hy
   simp only[gM] at b0 b1 b2 b3 b4
   go_wp2_with fail
   have O4:=Hid.mk' (aJy wr g (q * 5) (.int .i64 (-9 -(k:Int))) (.int .i64 0) (.int .i64 0) (.float .f32 0) (.float .f32 0))
   have W4:=Hid.mk' (xA RS2.out hAl (.int .i64 (-9 -(k:Int))) (.int .i64 0) (.int .i64 0) (.float .f32 0) (.float .f32 0))
   generalize (((((wr.setCell ⟨g,q * 5,none⟩ (.int .i64 (-9 -(k:Int)))).setCell ⟨g,q * 5+1,none⟩ (.int .i64 0)).setCell ⟨g,q * 5+2,none⟩ (.int .i64 0)).setCell ⟨g,q * 5+3,none⟩ (.float .f32 0)).setCell ⟨g,q * 5+4,none⟩ (.float .f32 0))=w4 at *
   refine ⟨⟨q+1,by omega,by go_num,OK.out.trans (O4.out.mono (fun j _ hj=>.inl (by rw[hj];rfl))),Nat.lt_of_lt_of_le hz O4.out.size,fun j u hu=>O4.out.cell (HBX.out j u hu) (by simp;omega),?_⟩,by simp[intOf];omega⟩
   have e:(List.replicate (q+1) (gM k)++is.drop (q+1)).flatMap En.cells=(List.replicate q (gM k)).flatMap En.cells++ .int .i64 (-9 -(k:Int)):: .int .i64 0:: .int .i64 0:: .float .f32 0:: .float .f32 0::(is.drop (q+1)).flatMap En.cells:=by
    rw[List.replicate_succ',List.flatMap_append,List.flatMap_append,List.flatMap_singleton,List.append_assoc];rfl
   rw[e]
   exact W4.out
  ·have hqn:q=n:=by omega
   subst hqn
   rw[List.drop_of_length_le (by rw[HN.out];exact Nat.le_refl _),List.append_nil] at RQ
   have hnb:¬Value.ownBlock (.slice al q cl)=some bk:=HLK.out
   have e0:wr.cell? ⟨bk,1,none⟩=some (.slice aI k cI):=OK.out.cell c0 hnb
   have fb:∀o,wr.frozen? ⟨bk,o,none⟩=false:=fun o=>(OK.out.frozen (a:=⟨bk,o,none⟩) hbk hnb).trans (f0 o)
   have R1:Hid (wr.ownsRow B 102 2 (.slice aI k cI) k (xs.flatMap bR)):=by
    have:=RI.out
    rw[HK.out] at this
    exact OK.out.own this (fun j hj e=>HS.out j e hj)
   have hsz:=OK.out.size
   clear c0 f0
   have HVb:Hid (some bk≠Value.ownBlock (.slice aI k cI)):=fun e=>HVK.out e.symm
   obtain ⟨iO,hi,hz0,hz1,hz2⟩:=aEI
   go_wp2_with (at_builtin;refine iN rfl _ _ 91 rfl 102 iO _ 2 32 underlying91 hi hz0 hz1 hz2 rfl (by decide) B (.slice aI k cI) k (xs.flatMap bR) rfl (World.ownsRow.alloc R1.out _) ⟨wr.heap.size,0,none⟩ (bR (.slice al q cl,(k:Int))) rfl rfl (aW _ (bR (.slice al q cl,(k:Int))) _ _ rfl) (by simp[bR,Value.oneCell']) (by unfold maxLen;omega) (by omega) (by simp;omega) ?_;intro v1 w1 r1 g1 h1 k1;obtain ⟨a1,c1,rfl⟩:=aJ r1;have s0:=aU g1 e0 HVb.out;have fs:=bI g1 fb HVb.out (by simp;omega) (by omega))
   have hrl:Hid (∀j,Value.ownBlock (.slice al q cl)=some j->B<=j/\j<w.heap.size):=fun j hj=>RL.out.lt j hj
   have hri:Hid (∀j,Value.ownBlock (.slice aI k cI)=some j->B<=j/\j<w.heap.size):=fun j hj=>RI.out.lt j hj
   have GS:Hid (GrpE w (w1.setCell ⟨bk,1,none⟩ (.slice a1 (k+1) c1)) B bk (.slice aI k cI) (.slice al q cl) xs (k:Int) q 0 [.slice al q cl] (.slice a1 (k+1) c1) (.slice al q cl)):=
    GrpE.start hbk HLK.out HVK.out hrl.out hri.out OK.out hz HBX.out RQ.out e0 fb HS.out g1 (by rw[HK.out];exact r1) h1
   generalize (w1.setCell ⟨bk,1,none⟩ (.slice a1 (k+1) c1))=wg at *
   clear s0 fs g1 r1 h1 k1 e0 fb R1 HVb b0 b1 b2 b3 b4
   go_loopw [1,7] (fun t v wq=>∃(r:Nat) (ys:List Value) (vc:Value),r<=3/\v=.int .i64 r/\GrpE w wq B bk (.slice aI k cI) (.slice al q cl) xs (k:Int) q r ys vc t) (fun _ v _=>3 -(intOf v).toNat)
   case atStart=>exact ⟨0,_,_,by omega,rfl,GS.out⟩
   case round=>
    obtain ⟨r,ys,vc,hr,rfl,gr⟩:=hrel
    have GR:=Hid.mk' gr
    have b0:=gr.bx 0 _ rfl
    have b1:=gr.bx 1 _ rfl
    have b2:=gr.bx 2 _ rfl
    have b3:=gr.bx 3 _ rfl
    have b4:=gr.bx 4 _ rfl
    have e0:=gr.c
    have fb:=gr.f
    have zz:=gr.z
    simp only[gM] at b0 b1 b2 b3 b4
    clear gr
    by_cases hlt:r<3
    ·obtain ⟨iT,hiT,hy0,hy1,hy2⟩:=mG
     have HLb:Hid (some bk≠u1.ownBlock):=fun e=>by
      rcases GR.out.lb bk e.symm with e | e
      ·exact HLK.out e
      ·omega
     have HVb:Hid (some bk≠vc.ownBlock):=fun e=>by
      rcases GR.out.vb bk e.symm with e | e
      ·exact HVK.out e
      ·omega
     go_wp2_with (first | (at_builtin;refine iN rfl _ _ 49 rfl 87 iT _ 5 32 underlying49 hiT hy0 hy1 hy2 rfl (by decide) B u1 (q+r) _ rfl (World.ownsRow.alloc GR.out.lst _) ⟨wr.heap.size,0,none⟩ (gM k).cells rfl rfl (aW _ (gM k).cells _ _ rfl) (by simp[En.cells,Value.oneCell']) (by unfold maxLen;omega) (by omega) (by simp;omega) ?_;intro l2 w2 r2 g2 h2 k2;obtain ⟨a2,c2,rfl⟩:=aJ r2;have R2:=Hid.mk' (GR.out.row2 g2);have e2:=aU g2 e0 HLb.out;have f2:=bI g2 fb HLb.out (by simp;omega) (by omega);have z2:=g2.size) | (at_builtin;refine iN rfl _ _ 91 rfl 102 iO _ 2 32 underlying91 hi hz0 hz1 hz2 rfl (by decide) B vc (xs.length+(r+1)) _ rfl (World.ownsRow.alloc R2.out _) ⟨w2.heap.size,0,none⟩ (bR (.slice a2 (q+r+1) c2,(k:Int))) rfl rfl (aW _ (bR (.slice a2 (q+r+1) c2,(k:Int))) _ _ rfl) (by simp[bR,Value.oneCell']) (by rw[HK.out];unfold maxLen;omega) (by rw[HK.out];omega) (by simp at z2;simp;omega) ?_;intro v3 w3 r3 g3 h3 k3;obtain ⟨a3,c3,rfl⟩:=aJ r3;have e3:=aU g3 e2 HVb.out;have f3:=bI g3 f2 HVb.out (by simp at z2;simp;omega) (by simp at z2;omega)))
     refine ⟨⟨r+1,ys++[.slice a2 (q+r+1) c2],_,by omega,by go_num,GR.out.next hbk HLK.out HVK.out hrl.out hri.out g2 r2 h2 k2 g3 r3 h3⟩,by simp[intOf];omega⟩
    ·have hr3:r=3:=by omega
     subst hr3
     go_wp2
     exact bodyPost_end (v:=.tuple #[]) (by simp[results,results112]) rfl ⟨rfl,ys,vc,u1,GR.out⟩
structure Book (w:World)(B bk:Nat)(vI vE:Value)(xi xe:List (Value×Int))(A:Nat->Prop):Prop where
 hb:bk<w.heap.size
 nI:vI.ownBlock≠some bk
 nE:vE.ownBlock≠some bk
 hB:B<=w.heap.size
 c0:w.cell? ⟨bk,0,none⟩=some vI
 c1:w.cell? ⟨bk,1,none⟩=some vE
 c2:w.cell? ⟨bk,2,none⟩=some (.slice none 0 0)
 f:∀o,w.frozen? ⟨bk,o,none⟩=false
 rI:w.ownsRow B 100 2 vI xi.length (xi.flatMap bR)
 rE:w.ownsRow B 102 2 vE xe.length (xe.flatMap bR)
 sep:∀j,vI.ownBlock=some j->vE.ownBlock≠some j
 mi:∀p∈xi,∃n,n<=1010/\MkI w p.1 n p.2 A
 me:∀p∈xe,∃n,n<=1010/\MkE w p.1 n p.2 A
 ha:∀j,A j->j≠bk/\j<w.heap.size/\vI.ownBlock≠some j/\vE.ownBlock≠some j
 bi:∀p∈xi,0<=p.2/\p.2<=20000000
 be:∀p∈xe,0<=p.2/\p.2<=20000000
theorem Book.grow {w w':World}{B bk:Nat}{vI vE:Value}{xi xe:List (Value×Int)}{A:Nat->Prop}(h:Book w B bk vI vE xi xe A)(g:w.grownBy w' none):Book w' B bk vI vE xi xe A:=
 ⟨Nat.lt_of_lt_of_le h.hb g.size,h.nI,h.nE,Nat.le_trans h.hB g.size,g.cell h.c0 (by simp),g.cell h.c1 (by simp),g.cell h.c2 (by simp),fun o=>(World.frozen?_of_block (a:=⟨bk,o,none⟩) (g.block bk h.hb (by simp))).trans (h.f o),aO h.rI g,aO h.rE g,h.sep,
  fun p hp=>by obtain ⟨n,hn,hm⟩:=h.mi p hp;exact ⟨n,hn,hm.step (fun _ _ _ _ _ hc=>g.cell hc (by simp)) (fun _ e=>e)⟩,
  fun p hp=>by obtain ⟨n,hn,hm⟩:=h.me p hp;exact ⟨n,hn,hm.step (fun _ _ _ _ _ hc=>g.cell hc (by simp)) (fun _ e=>e)⟩,
  fun j hj=>by have:=h.ha j hj;have:=g.size;exact ⟨(h.ha j hj).1,by omega,(h.ha j hj).2.2.1,(h.ha j hj).2.2.2⟩,h.bi,h.be⟩
theorem Book.items {w w':World}{B bk:Nat}{vI vE:Value}{xi xe:List (Value×Int)}{A:Nat->Prop}(h:Book w B bk vI vE xi xe A){l:Value}{is:List It}(_rl:OwnI B w l is)(hn:is.length<=1000)(hx:xi.length<=10000000)
  (hlb:l.ownBlock≠some bk) (hA:∀j,l.ownBlock=some j->¬A j/\vE.ownBlock≠some j) {ys:List Value} {vc lc:Value} (g:Grp w w' B bk vI l xi (xi.length:Int) is.length 3 ys vc lc):
  Book w' B bk vc vE (xi++ys.map (fun v=>(v,(xi.length:Int)))) xe (fun j=>A j∨((l.ownBlock=some j∨w.heap.size<j)/\vc.ownBlock≠some j/\j<w'.heap.size)):=by
 have hb:=h.hb
 have hB:=h.hB
 have hz:=g.z
 have keepA:∀j,A j->¬(j=bk∨vI.ownBlock=some j∨l.ownBlock=some j):=fun j hj e=>by
  have h1:=h.ha j hj
  rcases e with e | e | e
  ·exact h1.1 e
  ·exact h1.2.2.1 e
  ·exact (hA j e).1 hj
 have vcA:∀j,A j->vc.ownBlock≠some j:=fun j hj e=>by
  have h1:=h.ha j hj
  rcases g.vb j e with e | e
  ·exact h1.2.2.1 e
  ·omega
 refine ⟨by omega,fun e=>by
  rcases g.vb bk e with e | e
  ·exact h.nI e
  ·omega,h.nE,by omega,g.c,g.kc 1 _ (by omega) h.c1,g.kc 2 _ (by omega) h.c2,g.f,?_,?_,fun j hj e=>?_,fun p hp=>?_,fun p hp=>?_,fun j hj=>?_,fun p hp=>by
  rcases List.mem_append.1 hp with hp | hp
  ·exact h.bi p hp
  ·obtain ⟨v,_,rfl⟩:=List.mem_map.1 hp
   exact ⟨by simp,by simp;omega⟩,h.be⟩
 ·have:=g.row
  rw[List.length_append,List.length_map,g.y]
  exact this
 ·refine g.o.own h.rE (fun j hj e=>?_)
  rcases e with e | e | e
  ·exact h.nE (by rw[<- e];exact hj)
  ·exact h.sep j e hj
  ·exact (hA j e).2 hj
 ·rcases g.vb j hj with e' | e'
  ·exact h.sep j e' e
  ·have:=(h.rE.lt j e).2;omega
 ·rcases List.mem_append.1 hp with hp | hp
  ·obtain ⟨n,hn,hm⟩:=h.mi p hp
   exact ⟨n,hn,hm.step (fun g0 j u hg _ hc=>g.o.cell hc (keepA g0 hg)) (fun _ e=>.inl e)⟩
  ·obtain ⟨v,hv,rfl⟩:=List.mem_map.1 hp
   obtain ⟨i,hi,hvi⟩:=List.getElem_of_mem hv
   have hy:=g.y
   refine ⟨is.length+i,by omega,(g.m i v (by rw[List.getElem?_eq_getElem hi,hvi])).step (fun _ _ _ _ _ hc=>hc) (fun _ e=>.inr e)⟩
 ·obtain ⟨n,hn,hm⟩:=h.me p hp
  exact ⟨n,hn,hm.step (fun g0 j u hg _ hc=>g.o.cell hc (keepA g0 hg)) (fun _ e=>.inl e)⟩
 ·rcases hj with hj | ⟨hj,hv,hl⟩
  ·have:=h.ha j hj
   exact ⟨this.1,by omega,vcA j hj,this.2.2.2⟩
  ·refine ⟨fun e0=>?_,hl,hv,fun e=>?_⟩
   ·rcases hj with hj | hj
    ·exact hlb (by rw[<- e0];exact hj)
    ·omega
   ·rcases hj with hj | hj
    ·exact (hA j hj).2 e
    ·have:=(h.rE.lt j e).2;omega
theorem Book.entries {w w':World}{B bk:Nat}{vI vE:Value}{xi xe:List (Value×Int)}{A:Nat->Prop}(h:Book w B bk vI vE xi xe A){l:Value}{es:List En}(_rl:OwnE B w l es)(hn:es.length<=1000)(hx:xe.length<=10000000)
  (hlb:l.ownBlock≠some bk) (hA:∀j,l.ownBlock=some j->¬A j/\vI.ownBlock≠some j) {ys:List Value} {vc lc:Value} (g:GrpE w w' B bk vE l xe (xe.length:Int) es.length 3 ys vc lc):
  Book w' B bk vI vc xi (xe++ys.map (fun v=>(v,(xe.length:Int)))) (fun j=>A j∨((l.ownBlock=some j∨w.heap.size<j)/\vc.ownBlock≠some j/\j<w'.heap.size)):=by
 have hb:=h.hb
 have hB:=h.hB
 have hz:=g.z
 have keepA:∀j,A j->¬(j=bk∨vE.ownBlock=some j∨l.ownBlock=some j):=fun j hj e=>by
  have h1:=h.ha j hj
  rcases e with e | e | e
  ·exact h1.1 e
  ·exact h1.2.2.2 e
  ·exact (hA j e).1 hj
 have vcA:∀j,A j->vc.ownBlock≠some j:=fun j hj e=>by
  have h1:=h.ha j hj
  rcases g.vb j e with e | e
  ·exact h1.2.2.2 e
  ·omega
 refine ⟨by omega,h.nI,fun e=>by
  rcases g.vb bk e with e | e
  ·exact h.nE e
  ·omega,by omega,g.kc 0 _ (by omega) h.c0,g.c,g.kc 2 _ (by omega) h.c2,g.f,?_,?_,fun j hj e=>?_,fun p hp=>?_,fun p hp=>?_,fun j hj=>?_,h.bi,fun p hp=>by
  rcases List.mem_append.1 hp with hp | hp
  ·exact h.be p hp
  ·obtain ⟨v,_,rfl⟩:=List.mem_map.1 hp
   exact ⟨by simp,by simp;omega⟩⟩
 ·refine g.o.own h.rI (fun j hj e=>?_)
  rcases e with e | e | e
  ·exact h.nI (by rw[<- e];exact hj)
  ·exact h.sep j hj e
  ·exact (hA j e).2 hj
 ·have:=g.row
  rw[List.length_append,List.length_map,g.y]
  exact this
 ·rcases g.vb j e with e' | e'
  ·exact h.sep j hj e'
  ·have:=(h.rI.lt j hj).2;omega
 ·obtain ⟨n,hn,hm⟩:=h.mi p hp
  exact ⟨n,hn,hm.step (fun g0 j u hg _ hc=>g.o.cell hc (keepA g0 hg)) (fun _ e=>.inl e)⟩
 ·rcases List.mem_append.1 hp with hp | hp
  ·obtain ⟨n,hn,hm⟩:=h.me p hp
   exact ⟨n,hn,hm.step (fun g0 j u hg _ hc=>g.o.cell hc (keepA g0 hg)) (fun _ e=>.inl e)⟩
  ·obtain ⟨v,hv,rfl⟩:=List.mem_map.1 hp
   obtain ⟨i,hi,hvi⟩:=List.getElem_of_mem hv
   have hy:=g.y
   refine ⟨es.length+i,by omega,(g.m i v (by rw[List.getElem?_eq_getElem hi,hvi])).step (fun _ _ _ _ _ hc=>hc) (fun _ e=>.inr e)⟩
 ·rcases hj with hj | ⟨hj,hv,hl⟩
  ·have:=h.ha j hj
   exact ⟨this.1,by omega,this.2.2.1,vcA j hj⟩
  ·refine ⟨fun e0=>?_,hl,fun e=>?_,hv⟩
   ·rcases hj with hj | hj
    ·exact hlb (by rw[<- e0];exact hj)
    ·omega
   ·rcases hj with hj | hj
    ·exact (hA j hj).2 e
    ·have:=(h.rI.lt j e).2;omega
theorem kH (xs:List (Value×Int))(i j:Nat)(hi:i<xs.length)(hj:j<2):(xs.flatMap bR)[i * 2+j]?=(bR xs[i])[j]?:=by
 induction xs generalizing i with
 | nil=>simp at hi
 | cons a t ih=>
  rw[List.flatMap_cons]
  cases i with
  | zero=>rw[List.getElem?_append_left (by simp[bR];omega)];simp
  | succ i=>
   rw[List.getElem?_append_right (by simp[bR];omega)]
   have:=ih i (by simp at hi;omega)
   simp only[List.getElem_cons_succ]
   rw[<- this]
   congr 1
   simp[bR]
   omega
theorem aHf:FloatKind.f32.format.order 0 0=some .eq:=by decide+kernel
end Go.Proofs.YtammnaafdhhjaaaGreat
