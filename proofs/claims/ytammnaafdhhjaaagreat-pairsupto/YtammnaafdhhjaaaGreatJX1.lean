import Derived.Test.YtammnaafdhhjaaaGreatJC4
import Derived.Test.YtammnaafdhhjaaaGreatJB2
set_option maxHeartbeats 16000000
set_option maxRecDepth 100000
namespace Go.Proofs.YtammnaafdhhjaaaGreat
open Go.RowKit Go.Proofs.Tryz
structure Tx where
 s:ByteArray
def Tx.cells (t:Tx):List Value:=[.string t.s]
theorem rH (l:List Tx):(l.flatMap Tx.cells).length=l.length * 1:=by
 induction l with
 | nil=>rfl
 | cons a t ih=>rw[List.flatMap_cons,List.length_append,ih,List.length_cons];simp[Tx.cells];omega
def OwnT (B:Nat)(w:World)(v:Value)(ts:List Tx):Prop:=w.ownsRow B 9 1 v ts.length (ts.flatMap Tx.cells)
theorem lN:∃i,prog.info? 9=some i/\i.zero=some (.string ⟨#[]⟩)/\i.size=1/\i.bytes=16:=info_parts (by kernel_rfl)
def dg (q:Int):UInt8:=u8 (48+q % 10)
def txL:Nat->Int->List UInt8
 | 0,_=>[109,97,114,107]
 | n+1,k=>txL n k++[dg (k / 10 ^ n)]
def txS (k:Int):ByteArray:=S (txL 8 k)
theorem aHj (n:Nat)(k:Int):(txL n k).length=4+n:=by
 induction n with
 | zero=>rfl
 | succ n ih=>simp[txL,ih];omega
theorem rJ (k:Int)(w:World)(h0:0<=k)(h1:k<=100000000):Calls prog 63 #[.int .i64 k] w fun e w'=>e=.returned (.string (txS k))/\w.grownBy w' none/\w.heap.size<w'.heap.size:=by
 go_enter func63,ntmps63
 go_wp2
 go_loopw [0,3,4] (fun m s i wr=>∃n:Nat,n<=8/\i=.int .i64 n/\m=.int .i64 (k / 10 ^ n)/\s=.string (S (txL n k))/\w.grownBy wr none/\(0<n->w.heap.size<wr.heap.size)) (fun _ _ i _=>8 -(intOf i).toNat)
 case atStart=>exact ⟨0,by omega,rfl,by simp,rfl,aD _ _,by omega⟩
 case round=>
  obtain ⟨n,hn,rfl,rfl,rfl,g,hz⟩:=hrel
  have G:=Hid.mk' g
  have HZ:=Hid.mk' hz
  have zs:=aQ (txL n k)
  rw[aHj] at zs
  have zr:=g.size
  obtain ⟨q,hq⟩:∃q,k / 10 ^ n=q:=⟨_,rfl⟩
  have q0:0<=q:=by rw[<- hq];exact Int.ediv_nonneg h0 (by exact Int.le_of_lt (Int.pow_pos (by decide)))
  have q1:q<=100000000:=by rw[<- hq];exact Int.le_trans (Int.ediv_le_self _ h0) h1
  have HQ:=Hid.mk' hq
  have HX:Hid (txL (n+1) k=txL n k++[dg q]):=by show _=_;rw[<- hq];rfl
  have HD:Hid (k / 10 ^ (n+1)=q / 10):=by
   show _=_
   rw[<- hq,Int.pow_succ,Int.ediv_ediv_of_nonneg (by exact Int.le_of_lt (Int.pow_pos (by decide)))]
  rw[hq]
  clear g hz hq
  by_cases hlt:n<8
  ·have m0:0<=q % 10:=Int.emod_nonneg _ (by decide)
   have m1:q % 10<10:=Int.emod_lt_of_pos _ (by decide)
   have E2:Hid (#[.int .u8 (48+q % 10)]=(([dg q]:List UInt8).map qI).toArray):=by
    show _=_
    simp only[List.map_cons,List.map_nil]
    unfold dg
    rw[gJ _ (by omega) (by omega)]
   have k2:=oB _ _ _ _ (uW wr [dg q] _ E2.out (by simp))
   have o8:(S [dg q]).size=1:=by rw[aQ];rfl
   have hc:S (txL n k)++S [dg q]=S (txL (n+1) k):=by rw[HX.out];exact kJ _ _
   have hn1:([dg q]:List UInt8).length=1:=rfl
   simp only[hn1] at k2
   go_wp2
   exact ⟨⟨n+1,by omega,by go_num,by rw[HD.out],rfl,aG G.out _,fun _=>by simp;omega⟩,by simp[intOf];omega⟩
  ·obtain rfl:n=8:=by omega
   go_wp2
   go_ret
   exact ⟨rfl,G.out,HZ.out (by omega)⟩
def jB (k:Int):Tx:=⟨txS k⟩
def MkT (w:World)(v:Value)(n:Nat)(k:Int)(A:Nat->Prop):Prop:=
 ∃a c,v=.slice a n c/\(0<n->∃g,a=some ⟨g,0,none⟩/\A g/\∀j u,((List.replicate n (jB k)).flatMap Tx.cells)[j]?=some u->w.cell? ⟨g,j,none⟩=some u)
theorem aEK:∃i,prog.info? 106=some i/\i.zero=some (.agg #[.slice none 0 0,.int .i64 0])/\i.size=2/\i.bytes=32:=info_parts (by kernel_rfl)
structure GrpT (w wr:World)(B bk:Nat)(vI l:Value)(xs:List (Value×Int))(k:Int)(n r:Nat)(ys:List Value)(vc lc:Value):Prop where
 y:ys.length=r+1
 c:wr.cell? ⟨bk,2,none⟩=some vc
 f:∀o,wr.frozen? ⟨bk,o,none⟩=false
 row:wr.ownsRow B 106 2 vc (xs.length+(r+1)) ((xs++ys.map (fun v=>(v,k))).flatMap bR)
 vb:∀j,vc.ownBlock=some j->vI.ownBlock=some j∨w.heap.size<j
 lst:wr.ownsRow B 9 1 lc (n+r) ((List.replicate (n+r) (jB k)).flatMap Tx.cells)
 lb:∀j,lc.ownBlock=some j->l.ownBlock=some j∨w.heap.size<j
 sep:∀j,lc.ownBlock=some j->vc.ownBlock≠some j
 m:∀i v,ys[i]?=some v->MkT wr v (n+i) k (fun j=>(l.ownBlock=some j∨w.heap.size<j)/\vc.ownBlock≠some j/\j<wr.heap.size)
 o:Only w wr (fun j=>j=bk∨vI.ownBlock=some j∨l.ownBlock=some j)
 z:w.heap.size<wr.heap.size
 kc:∀j u,j≠2->w.cell? ⟨bk,j,none⟩=some u->wr.cell? ⟨bk,j,none⟩=some u
theorem MkT.step {w w':World}{v:Value}{n:Nat}{k:Int}{A A':Nat->Prop}(h:MkT w v n k A)(hc:∀g j u,A g->j<n * 1->w.cell? ⟨g,j,none⟩=some u->w'.cell? ⟨g,j,none⟩=some u)(hA:∀g,A g->A' g):MkT w' v n k A':=by
 obtain ⟨a,c,rfl,hx⟩:=h
 refine ⟨a,c,rfl,fun hp=>?_⟩
 obtain ⟨g,rfl,hg,hcell⟩:=hx hp
 refine ⟨g,rfl,hA g hg,fun j u hu=>hc g j u hg ?_ (hcell j u hu)⟩
 have:=(List.getElem?_eq_some_iff.1 hu).1
 rw[rH,List.length_replicate] at this
 exact this
theorem MkT.of_own {w:World}{B:Nat}{v:Value}{n:Nat}{k:Int}{A:Nat->Prop}(h:w.ownsRow B 9 1 v n ((List.replicate n (jB k)).flatMap Tx.cells))(hA:∀j,v.ownBlock=some j->A j):MkT w v n k A:=by
 rcases h.2 with ⟨rfl,rfl⟩ | ⟨g,cap,cur,rfl,_⟩
 ·exact ⟨none,0,rfl,by omega⟩
 ·refine ⟨_,cap,rfl,fun _=>⟨g,rfl,hA g rfl,fun j u hu=>?_⟩⟩
  have hj:=(List.getElem?_eq_some_iff.1 hu).1
  rw[h.1] at hj
  exact (h.cellAt j hj).trans hu
theorem GrpT.next {w wr w2 w3:World}{B bk:Nat}{vI l:Value}{xs:List (Value×Int)}{k:Int}{n r:Nat}{ys:List Value}{vc lc l2 v3:Value}{o o':Obj}(h:GrpT w wr B bk vI l xs k n r ys vc lc)(hbk:bk<w.heap.size)(hlb:l.ownBlock≠some bk)(hvb:vI.ownBlock≠some bk)
  (g:(wr.alloc o).grownBy w2 lc.ownBlock) (r2:w2.ownsRow B 9 1 l2 (n+r+1) ((List.replicate (n+r) (jB k)).flatMap Tx.cells++(jB k).cells)) (b2:∀j,l2.ownBlock=some j->lc.ownBlock=some j∨(wr.alloc o).heap.size<=j) (kp:aBC (wr.alloc o) w2 lc ((n+r) * 1))
  (g':(w2.alloc o').grownBy w3 vc.ownBlock) (r3:w3.ownsRow B 106 2 v3 (xs.length+(r+1)+1) ((xs++ys.map (fun v=>(v,k))).flatMap bR++bR (l2,k))) (b3:∀j,v3.ownBlock=some j->vc.ownBlock=some j∨(w2.alloc o').heap.size<=j):
  GrpT w (w3.setCell ⟨bk,2,none⟩ v3) B bk vI l xs k n (r+1) (ys++[l2]) v3 l2:=by
 have zr:=h.z
 have z2:=g.size
 have z3:=g'.size
 simp at z2 z3
 have hlc:some bk≠lc.ownBlock:=fun e=>by
  rcases h.lb bk e.symm with e | e
  ·exact hlb e
  ·omega
 have hvc:some bk≠vc.ownBlock:=fun e=>by
  rcases h.vb bk e.symm with e | e
  ·exact hvb e
  ·omega
 have hbw:bk<wr.heap.size:=by omega
 have c2:=aU g h.c hlc
 have c3:=aU g' c2 hvc
 have f2:=bI g h.f hlc (by simp;omega) hbw
 have f3:=bI g' f2 hvc (by simp;omega) (by omega)
 have hv3:v3.ownBlock≠some bk:=fun e=>by
  rcases b3 bk e with e | e
  ·exact hvc e.symm
  ·simp at e;omega
 have hl2:l2.ownBlock≠some bk:=fun e=>by
  rcases b2 bk e with e | e
  ·exact hlc e.symm
  ·simp at e;omega
 have lst:(w3.setCell ⟨bk,2,none⟩ v3).ownsRow B 9 1 l2 (n+(r+1)) ((List.replicate (n+(r+1)) (jB k)).flatMap Tx.cells):=by
  have e:(List.replicate (n+(r+1)) (jB k)).flatMap Tx.cells=(List.replicate (n+r) (jB k)).flatMap Tx.cells++(jB k).cells:=by
   rw[show n+(r+1)=(n+r)+1 by omega,List.replicate_succ',List.flatMap_append,List.flatMap_singleton]
  rw[e]
  refine aH (World.ownsRow.kept (World.ownsRow.alloc r2 _) g' ?_) _ _ _ hl2
  cases hq:l2.ownBlock with
  | none=>exact .inl rfl
  | some j=>
   refine .inr (fun e=>?_)
   rcases b2 j hq with hj | hj
   ·exact h.sep j hj e.symm
   ·have:=(h.row.lt j e.symm).2;simp at hj;omega
 have lb:∀j,l2.ownBlock=some j->l.ownBlock=some j∨w.heap.size<j:=fun j hj=>by
  rcases b2 j hj with hj | hj
  ·exact h.lb j hj
  ·exact .inr (by simp at hj;omega)
 have sep:∀j,l2.ownBlock=some j->v3.ownBlock≠some j:=fun j hj e=>by
  rcases b3 j e with hj3 | hj3
  ·rcases b2 j hj with hj2 | hj2
   ·exact h.sep j hj2 hj3
   ·have:=(h.row.lt j hj3).2;simp at hj2;omega
  ·have:=(r2.lt j hj).2;simp at hj3;omega
 refine ⟨by simp[h.y],World.cell?_setCell_same' _ _ _ (by rw[c3];rfl),fun o=>?_,?_,fun j hj=>?_,lst,lb,sep,fun i v hi=>?_,?_,?_,fun j u hj hu=>fP (aU g' (aU g (h.kc j u hj hu) hlc) hvc) hj⟩
 ·have:=f3 o
  go_simp
 ·have e:(xs++(ys++[l2]).map (fun v=>(v,k))).flatMap bR=(xs++ys.map (fun v=>(v,k))).flatMap bR++bR (l2,k):=by
   rw[List.map_append,<- List.append_assoc,List.flatMap_append];simp
  rw[e]
  exact aH r3 _ _ _ hv3
 ·rcases b3 j hj with hj | hj
  ·exact h.vb j hj
  ·exact .inr (by simp at hj;omega)
 ·by_cases hiy:i<ys.length
  ·rw[List.getElem?_append_left hiy] at hi
   have hir:i<=r:=by have:=h.y;omega
   refine (h.m i v hi).step (fun g0 j u hA hj hc=>?_) (fun g0 hA=>⟨hA.1,fun e=>?_,?_⟩)
   ·have h1:(wr.alloc o).cell? ⟨g0,j,none⟩=some u:=(World.grownBy_alloc wr o none).cell hc (by simp)
    have h2:=kp g0 j u (fun _=>Nat.lt_of_lt_of_le hj (Nat.mul_le_mul_right _ (by omega))) h1
    have h3:w3.cell? ⟨g0,j,none⟩=some u:=aU g' h2 (fun e=>hA.2.1 e.symm)
    have hne:g0≠bk:=fun e0=>by
     rcases hA.1 with e | e
     ·exact hlb (by rw[<- e0];exact e)
     ·omega
    exact (Only.set w3 bk 2 v3).cell h3 hne
   ·rcases b3 g0 e with e | e
    ·exact hA.2.1 e
    ·have:=hA.2.2;simp at e;omega
   ·have:=hA.2.2;simp;omega
  ·have hie:i=ys.length:=by
    have:=(List.getElem?_eq_some_iff.1 hi).1
    simp at this;omega
   subst hie
   rw[List.getElem?_append_right (Nat.le_refl _)] at hi
   simp at hi
   subst hi
   rw[h.y]
   exact MkT.of_own lst (fun j hj=>⟨lb j hj,sep j hj,(lst.lt j hj).2⟩)
 ·refine h.o.trans ?_
  have q1:Only wr w2 (fun j=>(j=bk∨vI.ownBlock=some j∨l.ownBlock=some j)∨w.heap.size<=j):=⟨g.os,g.tape,g.output,by omega,fun j hj hn=>by
   rw[g.block j (by simp;omega) (fun e=>by rcases h.lb j e.symm with e | e;exact hn (.inl (.inr (.inr e)));exact hn (.inr (by omega))),(World.grownBy_alloc wr o none).block j hj (by simp)]⟩
  have q2:Only w2 w3 (fun j=>(j=bk∨vI.ownBlock=some j∨l.ownBlock=some j)∨w.heap.size<=j):=⟨g'.os,g'.tape,g'.output,by omega,fun j hj hn=>by
   rw[g'.block j (by simp;omega) (fun e=>by rcases h.vb j e.symm with e | e;exact hn (.inl (.inr (.inl e)));exact hn (.inr (by omega))),(World.grownBy_alloc w2 o' none).block j hj (by simp)]⟩
  exact (q1.trans (q2.mono (fun _ _ e=>.inl e))).trans ((Only.set w3 bk 2 v3).mono (fun _ _ e=>.inl (.inl (.inl e))))
 ·simp;omega
theorem GrpT.start {w wr w1:World}{B bk:Nat}{vI l:Value}{xs:List (Value×Int)}{k:Int}{n:Nat}{v1:Value}{o:Obj}(hbk:bk<w.heap.size)(hlb:l.ownBlock≠some bk)(hvb':vI.ownBlock≠some bk)(hl:∀j,l.ownBlock=some j->B<=j/\j<w.heap.size)
  (ok:Only w wr (fun j=>l.ownBlock=some j)) (z:w.heap.size<wr.heap.size) (rq:wr.ownsRow B 9 1 l n ((List.replicate n (jB k)).flatMap Tx.cells))
  (c:wr.cell? ⟨bk,2,none⟩=some vI) (f:∀o,wr.frozen? ⟨bk,o,none⟩=false) (hs:∀j,l.ownBlock=some j->vI.ownBlock≠some j)
  (g1:(wr.alloc o).grownBy w1 vI.ownBlock) (r1:w1.ownsRow B 106 2 v1 (xs.length+1) (xs.flatMap bR++bR (l,k))) (h1:∀j,v1.ownBlock=some j->vI.ownBlock=some j∨(wr.alloc o).heap.size<=j):
  GrpT w (w1.setCell ⟨bk,2,none⟩ v1) B bk vI l xs k n 0 [l] v1 l:=by
 have z1:=g1.size
 simp at z1
 have hvb:some bk≠vI.ownBlock:=fun e=>hvb' e.symm
 have c1:=aU g1 c hvb
 have f1:=bI g1 f hvb (by simp;omega) (by omega)
 have lst:(w1.setCell ⟨bk,2,none⟩ v1).ownsRow B 9 1 l n ((List.replicate n (jB k)).flatMap Tx.cells):=by
  refine aH (World.ownsRow.kept (World.ownsRow.alloc rq _) g1 ?_) _ _ _ hlb
  cases hq:l.ownBlock with
  | none=>exact .inl rfl
  | some j=>exact .inr (fun e=>hs j hq e.symm)
 have sep:∀j,l.ownBlock=some j->v1.ownBlock≠some j:=fun j hj e=>by
  rcases h1 j e with e | e
  ·exact hs j hj e
  ·have:=(hl j hj).2;simp at e;omega
 refine ⟨rfl,World.cell?_setCell_same' _ _ _ (by rw[c1];rfl),fun o=>?_,?_,fun j hj=>?_,lst,fun j hj=>.inl hj,sep,fun i v hi=>?_,?_,?_,fun j u hj hu=>fP (aU g1 (ok.cell hu hlb) hvb) hj⟩
 ·have:=f1 o
  go_simp
 ·have e:(xs++[l].map (fun v=>(v,k))).flatMap bR=xs.flatMap bR++bR (l,k):=by rw[List.flatMap_append];simp
  rw[e]
  exact aH r1 _ _ _ (fun e=>by
   rcases h1 bk e with e | e
   ·exact hvb' e
   ·simp at e;omega)
 ·rcases h1 j hj with hj | hj
  ·exact .inl hj
  ·exact .inr (by simp at hj;omega)
 ·have hi0:i=0:=by have:=(List.getElem?_eq_some_iff.1 hi).1;simp at this;omega
  subst hi0
  simp at hi
  subst hi
  exact MkT.of_own lst (fun j hj=>⟨.inl hj,sep j hj,(lst.lt j hj).2⟩)
 ·have q0:Only w wr (fun j=>j=bk∨vI.ownBlock=some j∨l.ownBlock=some j):=ok.mono (fun _ _ e=>.inr (.inr e))
  have q1:Only wr w1 (fun j=>(j=bk∨vI.ownBlock=some j∨l.ownBlock=some j)∨w.heap.size<=j):=⟨g1.os,g1.tape,g1.output,by omega,fun j hj hn=>by
   rw[g1.block j (by simp;omega) (fun e=>hn (.inl (.inr (.inl e.symm)))),(World.grownBy_alloc wr o none).block j hj (by simp)]⟩
  exact (q0.trans q1).trans ((Only.set w1 bk 2 v1).mono (fun _ _ e=>.inl (.inl e)))
 ·simp;omega
theorem GrpT.row2 {w wr w2:World}{B bk:Nat}{vI l:Value}{xs:List (Value×Int)}{k:Int}{n r:Nat}{ys:List Value}{vc lc:Value}{o:Obj}(h:GrpT w wr B bk vI l xs k n r ys vc lc)(g:(wr.alloc o).grownBy w2 lc.ownBlock):
  w2.ownsRow B 106 2 vc (xs.length+(r+1)) ((xs++ys.map (fun v=>(v,k))).flatMap bR):=by
 refine World.ownsRow.kept (World.ownsRow.alloc h.row _) g ?_
 cases hq:vc.ownBlock with
 | none=>exact .inl rfl
 | some j=>exact .inr (fun e=>h.sep j e.symm hq)
def qG (v:Value)(A:Nat->Prop)(j:Nat):Prop:=v.ownBlock=some j∨A j
structure Lst (w:World)(bk off:Nat)(e:TypeId)(MK:World->Value->Nat->Int->(Nat->Prop)->Prop)(v:Value)(xs:List (Value×Int))(A:Nat->Prop):Prop where
 c:w.cell? ⟨bk,off,none⟩=some v
 r:w.ownsRow 0 e 2 v xs.length (xs.flatMap bR)
 n:v.ownBlock≠some bk
 m:∀p∈xs,∃n,n<=1010/\MK w p.1 n p.2 A
 b:∀p∈xs,0<=p.2/\p.2<=20000000
 ha:∀j,A j->j≠bk/\j<w.heap.size/\v.ownBlock≠some j
def MKs (MK:World->Value->Nat->Int->(Nat->Prop)->Prop):Prop:=∀(w w':World) (v:Value) (n:Nat) (k:Int) (A A':Nat->Prop),MK w v n k A->(∀g j u,A g->w.cell? ⟨g,j,none⟩=some u->w'.cell? ⟨g,j,none⟩=some u)->(∀g,A g->A' g)->MK w' v n k A'
theorem aBF:MKs MkI:=fun _ _ _ _ _ _ _ h h1 h2=>h.step (fun g j u hg _ hc=>h1 g j u hg hc) h2
theorem aBG:MKs MkE:=fun _ _ _ _ _ _ _ h h1 h2=>h.step (fun g j u hg _ hc=>h1 g j u hg hc) h2
theorem aBH:MKs MkT:=fun _ _ _ _ _ _ _ h h1 h2=>h.step (fun g j u hg _ hc=>h1 g j u hg hc) h2
theorem Lst.only {w w':World}{bk off:Nat}{e:TypeId}{MK:World->Value->Nat->Int->(Nat->Prop)->Prop}{v:Value}{xs:List (Value×Int)}{A F:Nat->Prop}(hm:MKs MK)(h:Lst w bk off e MK v xs A)(o:Only w w' F)(hc:w'.cell? ⟨bk,off,none⟩=some v)(hF:∀j,qG v A j->¬F j):Lst w' bk off e MK v xs A:=
 ⟨hc,o.own h.r (fun j hj=>hF j (.inl hj)),h.n,fun p hp=>by obtain ⟨n,hn,q⟩:=h.m p hp;exact ⟨n,hn,hm _ _ _ _ _ _ _ q (fun g j u hg hc=>o.cell hc (hF g (.inr hg))) (fun _ e=>e)⟩,h.b,fun j hj=>⟨(h.ha j hj).1,Nat.lt_of_lt_of_le (h.ha j hj).2.1 o.size,(h.ha j hj).2.2⟩⟩
theorem Lst.put {w w':World}{bk off:Nat}{e:TypeId}{MK:World->Value->Nat->Int->(Nat->Prop)->Prop}{v l vc:Value}{xs:List (Value×Int)}{A:Nat->Prop}{n:Nat}{ys:List Value}(hm:MKs MK)(h:Lst w bk off e MK v xs A)(hb:bk<w.heap.size)(hn:n<=1000)(hx:xs.length<=10000000)(hlb:l.ownBlock≠some bk)(hA:∀j,l.ownBlock=some j->¬A j)
  (y:ys.length=3+1) (c:w'.cell? ⟨bk,off,none⟩=some vc) (row:w'.ownsRow 0 e 2 vc (xs.length+(3+1)) ((xs++ys.map (fun v=>(v,(xs.length:Int)))).flatMap bR)) (vb:∀j,vc.ownBlock=some j->v.ownBlock=some j∨w.heap.size<j) (m:∀i u,ys[i]?=some u->MK w' u (n+i) (xs.length:Int) (fun j=>(l.ownBlock=some j∨w.heap.size<j)/\vc.ownBlock≠some j/\j<w'.heap.size)) (o:Only w w' (fun j=>j=bk∨v.ownBlock=some j∨l.ownBlock=some j)):
  Lst w' bk off e MK vc (xs++ys.map (fun v=>(v,(xs.length:Int)))) (fun j=>A j∨((l.ownBlock=some j∨w.heap.size<j)/\vc.ownBlock≠some j/\j<w'.heap.size)):=by
 have keepA:∀j,A j->¬(j=bk∨v.ownBlock=some j∨l.ownBlock=some j):=fun j hj e=>by
  have h1:=h.ha j hj
  rcases e with e | e | e
  ·exact h1.1 e
  ·exact h1.2.2 e
  ·exact hA j e hj
 refine ⟨c,by rw[List.length_append,List.length_map,y];exact row,fun e=>?_,fun p hp=>?_,fun p hp=>?_,fun j hj=>?_⟩
 ·rcases vb bk e with e | e
  ·exact h.n e
  ·omega
 ·rcases List.mem_append.1 hp with hp | hp
  ·obtain ⟨n,hn,q⟩:=h.m p hp
   exact ⟨n,hn,hm _ _ _ _ _ _ _ q (fun g0 j u hg hc=>o.cell hc (keepA g0 hg)) (fun _ e=>.inl e)⟩
  ·obtain ⟨u,hu,rfl⟩:=List.mem_map.1 hp
   obtain ⟨i,hi,hvi⟩:=List.getElem_of_mem hu
   exact ⟨n+i,by omega,hm _ _ _ _ _ _ _ (m i u (by rw[List.getElem?_eq_getElem hi,hvi])) (fun _ _ _ _ hc=>hc) (fun _ e=>.inr e)⟩
 ·rcases List.mem_append.1 hp with hp | hp
  ·exact h.b p hp
  ·obtain ⟨u,_,rfl⟩:=List.mem_map.1 hp
   exact ⟨by simp,by simp;omega⟩
 ·rcases hj with hj | ⟨hj,hv,hl⟩
  ·have h1:=h.ha j hj
   refine ⟨h1.1,Nat.lt_of_lt_of_le h1.2.1 o.size,fun e=>?_⟩
   rcases vb j e with e | e
   ·exact h1.2.2 e
   ·omega
  ·refine ⟨fun e0=>?_,hl,hv⟩
   rcases hj with hj | hj
   ·exact hlb (by rw[<- e0];exact hj)
   ·omega
structure BKx (w:World)(bk:Nat)(R:Nat->Prop)(vI vE vT:Value)(xi xe xt:List (Value×Int))(AI AE AT:Nat->Prop):Prop where
 hb:bk<w.heap.size
 f:∀o,w.frozen? ⟨bk,o,none⟩=false
 li:Lst w bk 0 100 MkI vI xi AI
 le:Lst w bk 1 102 MkE vE xe AE
 lt:Lst w bk 2 106 MkT vT xt AT
 d1:∀j,qG vI AI j->¬qG vE AE j
 d2:∀j,qG vI AI j->¬qG vT AT j
 d3:∀j,qG vE AE j->¬qG vT AT j
 rb:R bk
 ri:∀j,qG vI AI j->R j
 re:∀j,qG vE AE j->R j
 rt:∀j,qG vT AT j->R j
def BK (w:World)(bk:Nat)(R:Nat->Prop)(nI nE nT:Nat):Prop:=∃vI vE vT xi xe xt AI AE AT,BKx w bk R vI vE vT xi xe xt AI AE AT/\xi.length=nI/\xe.length=nE/\xt.length=nT
theorem BK.only {w w':World}{bk:Nat}{R F:Nat->Prop}{nI nE nT:Nat}(h:BK w bk R nI nE nT)(o:Only w w' F)(hF:∀j,R j->¬F j):BK w' bk R nI nE nT:=by
 obtain ⟨vI,vE,vT,xi,xe,xt,AI,AE,AT,b,h1,h2,h3⟩:=h
 have hbk:=hF bk b.rb
 exact ⟨vI,vE,vT,xi,xe,xt,AI,AE,AT,⟨Nat.lt_of_lt_of_le b.hb o.size,fun j=>(o.frozen (a:=⟨bk,j,none⟩) b.hb hbk).trans (b.f j),b.li.only aBF o (o.cell b.li.c hbk) (fun j hj=>hF j (b.ri j hj)),b.le.only aBG o (o.cell b.le.c hbk) (fun j hj=>hF j (b.re j hj)),b.lt.only aBH o (o.cell b.lt.c hbk) (fun j hj=>hF j (b.rt j hj)),b.d1,b.d2,b.d3,b.rb,b.ri,b.re,b.rt⟩,h1,h2,h3⟩
def RX (w w':World)(R:Nat->Prop)(l:Value)(j:Nat):Prop:=(R j∨l.ownBlock=some j∨w.heap.size<j)/\j<w'.heap.size
theorem dQ {w:World}{bk off:Nat}{e:TypeId}{MK:World->Value->Nat->Int->(Nat->Prop)->Prop}{v:Value}{xs:List (Value×Int)}{A:Nat->Prop}(h:Lst w bk off e MK v xs A){j:Nat}(hj:qG v A j):j<w.heap.size/\j≠bk:=by
 rcases hj with hj | hj
 ·exact ⟨(h.r.lt j hj).2,fun e=>h.n (e ▸ hj)⟩
 ·exact ⟨(h.ha j hj).2.1,(h.ha j hj).1⟩
theorem BK.items {w:World}{bk:Nat}{R:Nat->Prop}{nI nE nT:Nat}(h:BK w bk R nI nE nT)(hnn:nI<=10000000)(l:Value)(is:List It){B:Nat}(ho:OwnI B w l is)(hn:is.length<=1000)(hlb:l.ownBlock≠some bk)(hR:∀j,l.ownBlock=some j->¬R j):
  Calls prog 110 #[.pointer (some ⟨bk,0,none⟩),l] w fun e w'=>e=.returned (.tuple #[])/\BK w' bk (RX w w' R (l)) (nI+4) nE nT/\Only w w' (fun j=>R j∨Value.ownBlock (l)=some j):=by
 obtain ⟨vI,vE,vT,xi,xe,xt,AI,AE,AT,b,h1,h2,h3⟩:=h
 refine (uV 0 bk vI xi l is w b.hb hlb b.li.n (Nat.zero_le _) b.li.c b.f b.li.r (bP ho (Nat.zero_le _)) (fun j hj e=>hR j hj (b.ri j (.inl e))) hn (by omega)).mono ?_
 rintro e w' ⟨he,ys,vc,lc,g⟩
 have nblk:∀j,qG vc (fun j=>AI j∨((l.ownBlock=some j∨w.heap.size<j)/\vc.ownBlock≠some j/\j<w'.heap.size)) j->qG vI AI j∨l.ownBlock=some j∨w.heap.size<j:=fun j hj=>by
  rcases hj with hj | hj | ⟨hj,_⟩
  ·rcases g.vb j hj with e | e
   ·exact .inl (.inl e)
   ·exact .inr (.inr e)
  ·exact .inl (.inr hj)
  ·exact .inr hj
 have L:=(b.li.put aBF b.hb hn (by omega) hlb (fun j hj hA=>hR j hj (b.ri j (.inr hA))) g.y g.c g.row g.vb g.m g.o)
 refine ⟨he,⟨vc,vE,vT,_,xe,xt,(fun j=>AI j∨((l.ownBlock=some j∨w.heap.size<j)/\vc.ownBlock≠some j/\j<w'.heap.size)),AE,AT,⟨Nat.lt_of_lt_of_le b.hb g.o.size,g.f,L,(b.le.only aBG g.o (g.kc 1 _ (by omega) b.le.c) (fun j hj e=>by
  rcases e with e | e | e
  ·exact (dQ b.le hj).2 e
  ·exact b.d1 j (.inl e) hj
  ·exact hR j e (b.re j hj))),(b.lt.only aBH g.o (g.kc 2 _ (by omega) b.lt.c) (fun j hj e=>by
  rcases e with e | e | e
  ·exact (dQ b.lt hj).2 e
  ·exact b.d2 j (.inl e) hj
  ·exact hR j e (b.rt j hj))),fun j hj hj'=>by
  rcases nblk j hj with e | e | e
  ·exact b.d1 j e hj'
  ·exact hR j e (b.re j hj')
  ·have:=(dQ b.le hj').1;omega,fun j hj hj'=>by
  rcases nblk j hj with e | e | e
  ·exact b.d2 j e hj'
  ·exact hR j e (b.rt j hj')
  ·have:=(dQ b.lt hj').1;omega,b.d3,⟨.inl b.rb,Nat.lt_of_lt_of_le b.hb g.o.size⟩,fun j hj=>⟨by rcases nblk j hj with e | e | e;exact .inl (b.ri j e);exact .inr (.inl e);exact .inr (.inr e),(dQ L hj).1⟩,fun j hj=>⟨.inl (b.re j hj),Nat.lt_of_lt_of_le (dQ b.le hj).1 g.o.size⟩,fun j hj=>⟨.inl (b.rt j hj),Nat.lt_of_lt_of_le (dQ b.lt hj).1 g.o.size⟩⟩,by rw[List.length_append,List.length_map,g.y,h1],h2,h3⟩,g.o.mono (fun j _ e=>?_)⟩
 rcases e with e | e | e
 ·exact .inl (e ▸ b.rb)
 ·exact .inl (b.ri j (.inl e))
 ·exact .inr e
theorem BK.entries {w:World}{bk:Nat}{R:Nat->Prop}{nI nE nT:Nat}(h:BK w bk R nI nE nT)(hnn:nE<=10000000)(l:Value)(es:List En){B:Nat}(ho:OwnE B w l es)(hn:es.length<=1000)(hlb:l.ownBlock≠some bk)(hR:∀j,l.ownBlock=some j->¬R j):
  Calls prog 112 #[.pointer (some ⟨bk,0,none⟩),l] w fun e w'=>e=.returned (.tuple #[])/\BK w' bk (RX w w' R (l)) nI (nE+4) nT/\Only w w' (fun j=>R j∨Value.ownBlock (l)=some j):=by
 obtain ⟨vI,vE,vT,xi,xe,xt,AI,AE,AT,b,h1,h2,h3⟩:=h
 refine (rD 0 bk vE xe l es w b.hb hlb b.le.n (Nat.zero_le _) b.le.c b.f b.le.r (bP ho (Nat.zero_le _)) (fun j hj e=>hR j hj (b.re j (.inl e))) hn (by omega)).mono ?_
 rintro e w' ⟨he,ys,vc,lc,g⟩
 have nblk:∀j,qG vc (fun j=>AE j∨((l.ownBlock=some j∨w.heap.size<j)/\vc.ownBlock≠some j/\j<w'.heap.size)) j->qG vE AE j∨l.ownBlock=some j∨w.heap.size<j:=fun j hj=>by
  rcases hj with hj | hj | ⟨hj,_⟩
  ·rcases g.vb j hj with e | e
   ·exact .inl (.inl e)
   ·exact .inr (.inr e)
  ·exact .inl (.inr hj)
  ·exact .inr hj
 have L:=(b.le.put aBG b.hb hn (by omega) hlb (fun j hj hA=>hR j hj (b.re j (.inr hA))) g.y g.c g.row g.vb g.m g.o)
 refine ⟨he,⟨vI,vc,vT,xi,_,xt,AI,(fun j=>AE j∨((l.ownBlock=some j∨w.heap.size<j)/\vc.ownBlock≠some j/\j<w'.heap.size)),AT,⟨Nat.lt_of_lt_of_le b.hb g.o.size,g.f,(b.li.only aBF g.o (g.kc 0 _ (by omega) b.li.c) (fun j hj e=>by
  rcases e with e | e | e
  ·exact (dQ b.li hj).2 e
  ·exact b.d1 j hj (.inl e)
  ·exact hR j e (b.ri j hj))),L,(b.lt.only aBH g.o (g.kc 2 _ (by omega) b.lt.c) (fun j hj e=>by
  rcases e with e | e | e
  ·exact (dQ b.lt hj).2 e
  ·exact b.d3 j (.inl e) hj
  ·exact hR j e (b.rt j hj))),fun j hj hj'=>by
  rcases nblk j hj' with e | e | e
  ·exact b.d1 j hj e
  ·exact hR j e (b.ri j hj)
  ·have:=(dQ b.li hj).1;omega,b.d2,fun j hj hj'=>by
  rcases nblk j hj with e | e | e
  ·exact b.d3 j e hj'
  ·exact hR j e (b.rt j hj')
  ·have:=(dQ b.lt hj').1;omega,⟨.inl b.rb,Nat.lt_of_lt_of_le b.hb g.o.size⟩,fun j hj=>⟨.inl (b.ri j hj),Nat.lt_of_lt_of_le (dQ b.li hj).1 g.o.size⟩,fun j hj=>⟨by rcases nblk j hj with e | e | e;exact .inl (b.re j e);exact .inr (.inl e);exact .inr (.inr e),(dQ L hj).1⟩,fun j hj=>⟨.inl (b.rt j hj),Nat.lt_of_lt_of_le (dQ b.lt hj).1 g.o.size⟩⟩,h1,by rw[List.length_append,List.length_map,g.y,h2],h3⟩,g.o.mono (fun j _ e=>?_)⟩
 rcases e with e | e | e
 ·exact .inl (e ▸ b.rb)
 ·exact .inl (b.re j (.inl e))
 ·exact .inr e
theorem aHk (n:Nat)(mk:Int):(List.replicate n (jB mk)).flatMap Tx.cells=List.replicate n (.string (txS mk)):=by
 induction n with
 | zero=>rfl
 | succ n ih=>rw[List.replicate_succ,List.flatMap_cons,ih];rfl
theorem BK.looks {w:World}{bk:Nat}{R:Nat->Prop}{nI0 nE0 nT0:Nat}(hh:BK w bk R nI0 nE0 nT0)(hxi0:nI0<=10000000)(hxe0:nE0<=10000000)(hxt0:nT0<=10000000):
  Calls prog 23 #[.pointer (some ⟨bk,0,none⟩)] w fun e w'=>e=.returned (.bool true)/\w.grownBy w' none:=by
 obtain ⟨vI,vE,vT,xi,xe,xt,AI,AE,AT,h,hxi1,hxe1,hxt1⟩:=hh
 have hxi:xi.length<=10000000:=by omega
 have hxe:xe.length<=10000000:=by omega
 have hxt:xt.length<=10000000:=by omega
 clear hxi0 hxe0 hxt0 hxi1 hxe1 hxt1
 obtain ⟨aT,cT,hvT⟩:=aJ h.lt.r
 obtain ⟨nT,hnT⟩:∃n,xt.length=n:=⟨_,rfl⟩
 have HVT:=Hid.mk' hvT
 have HNT:=Hid.mk' hnT
 rw[hnT] at hxt
 obtain ⟨aI,cI,hvI⟩:=aJ h.li.r
 obtain ⟨aE,cE,hvE⟩:=aJ h.le.r
 have HH:=Hid.mk' h
 obtain ⟨nI,hnI⟩:∃n,xi.length=n:=⟨_,rfl⟩
 obtain ⟨nE,hnE⟩:∃n,xe.length=n:=⟨_,rfl⟩
 have c0:=h.li.c
 have c1:=h.le.c
 have c2:=h.lt.c
 rw[hvT,hnT] at c2
 rw[hvI,hnI] at c0
 rw[hvE,hnE] at c1
 have HVI:=Hid.mk' hvI
 have HVE:=Hid.mk' hvE
 have HNI:=Hid.mk' hnI
 have HNE:=Hid.mk' hnE
 rw[hnI] at hxi
 rw[hnE] at hxe
 clear h hvI hvE hnI hnE hvT hnT
 have hq:=iD
 have hsf:=aK
 have o00:=aHf
 go_enter func23,ntmps23
 go_wp2_with fail
 go_loopw [3] (fun t wr=>∃i:Nat,i<=nI/\t=.int .i64 i/\w.grownBy wr none) (fun t _=>nI -(intOf t).toNat)
 case atStart=>exact ⟨0,by omega,rfl,aD _ _⟩
 case round=>
  obtain ⟨i,hi,rfl,gi⟩:=hrel
  have GI:=Hid.mk' gi
  have k0:=gi.cell c0 (by simp)
  have k1:=gi.cell c1 (by simp)
  have k2:=gi.cell c2 (by simp)
  clear gi
  by_cases hlt:i<nI
  ·have hil:i<xi.length:=by rw[HNI.out];exact hlt
   obtain ⟨gI,hgI⟩:∃gI,aI=some ⟨gI,0,none⟩:=by
    have hr:=HH.out.li.r
    rw[HVI.out] at hr
    rcases hr.2 with ⟨h',hn0⟩ | ⟨g,cap,cur,h',_⟩
    ·omega
    ·injection h' with h1 h2 h3
     exact ⟨g,h1⟩
   subst hgI
   obtain ⟨p,hp⟩:∃p,xi[i]=p:=⟨_,rfl⟩
   obtain ⟨v,mk⟩:=p
   have hpm:(v,mk)∈xi:=by rw[<- hp];exact List.getElem_mem _
   obtain ⟨n,hn,a,c,hv,hcell⟩:=HH.out.li.m (v,mk) hpm
   simp only at hv
   subst hv
   have hr:=HH.out.li.r
   rw[HVI.out] at hr
   have d0:wr.cell? ⟨gI,i * 2,none⟩=some (.slice a n c):=GI.out.cell ((hr.cellAt (i * 2) (by omega)).trans (by have:=kH xi i 0 hil (by omega);rw[Nat.add_zero] at this;rw[this,hp];rfl)) (by simp)
   have d1:wr.cell? ⟨gI,i * 2+1,none⟩=some (.int .i64 mk):=GI.out.cell ((hr.cellAt (i * 2+1) (by omega)).trans (by rw[kH xi i 1 hil (by omega),hp];rfl)) (by simp)
   have HC:=Hid.mk' hcell
   clear hr hcell hp
   have x0:(0:Int)<=(i:Int):=by omega
   have x1:(i:Int)<(nI:Int):=by omega
   have hm:=HH.out.li.b _ hpm
   simp only at hm
   have m5:IntKind.i64.wrap (-9 -mk)=-9 -mk:=by simp[IntKind.wrap,IntKind.bits,IntKind.signed];omega
   have m6:wrap64 (-9 -mk)=-9 -mk:=by simp[wrap64];omega
   go_wp2_with fail
   have W0:=Hid.mk' (GI.out.trans (World.grownBy_alloc wr (.cells #[.int .i64 (-9 -mk),.int .i64 0,.float .f32 0,.float .f32 0] 75) none))
   have kk:∀w',(wr.alloc (.cells #[.int .i64 (-9 -mk),.int .i64 0,.float .f32 0,.float .f32 0] 75)).grownBy w' none->w'.cell? ⟨bk,0,none⟩=some (.slice (some ⟨gI,0,none⟩) nI cI)/\w'.cell? ⟨gI,i * 2,none⟩=some (.slice a n c)/\w'.cell? ⟨wr.heap.size,0,none⟩=some (.int .i64 (-9 -mk))/\w'.cell? ⟨wr.heap.size,1,none⟩=some (.int .i64 0)/\w'.cell? ⟨wr.heap.size,2,none⟩=some (.float .f32 0)/\w'.cell? ⟨wr.heap.size,3,none⟩=some (.float .f32 0):=fun w' g=>
    ⟨g.cell ((World.grownBy_alloc wr _ none).cell k0 (by simp)) (by simp),g.cell ((World.grownBy_alloc wr _ none).cell d0 (by simp)) (by simp),g.cell (by go_simp) (by simp),g.cell (by go_simp) (by simp),g.cell (by go_simp) (by simp),g.cell (by go_simp) (by simp)⟩
   have KK:=Hid.mk' kk
   clear kk k0 d0 d1
   generalize (wr.alloc (.cells #[.int .i64 (-9 -mk),.int .i64 0,.float .f32 0,.float .f32 0] 75))=w0 at *
   go_loopw [5] (fun t wq=>∃q:Nat,q<=n/\t=.int .i64 q/\w0.grownBy wq none) (fun t _=>n -(intOf t).toNat)
   case atStart=>exact ⟨0,by omega,rfl,aD _ _⟩
   case round=>
    obtain ⟨q,hq2,rfl,gq⟩:=hrel
    obtain ⟨r0,r1,r2,r3,r4,r5⟩:=KK.out _ gq
    have GQ:=Hid.mk' gq
    clear gq
    by_cases hqn:q<n
    ·obtain ⟨g,hg,_,hcs⟩:=HC.out (by omega)
     subst hg
     have e:∀j (hj:j<4) u,(gL mk).cells[j]?=some u->wr.cell? ⟨g,q * 4+j,none⟩=some u:=fun j hj u hu=>by
      have:=hcs (4 * q+j) u (by rw[cQ _ q j (by simp;exact hqn) hj];simpa using hu)
      rw[show 4 * q+j=q * 4+j by omega] at this
      exact (W0.out.trans GQ.out).cell this (by simp)
     have e0:=e 0 (by omega) _ rfl
     have e1:=e 1 (by omega) _ rfl
     have e2:=e 2 (by omega) _ rfl
     have e3:=e 3 (by omega) _ rfl
     rw[Nat.add_zero] at e0
     simp only[gL] at e0 e1 e2 e3
     clear e hcs
     have y0:(0:Int)<=(q:Int):=by omega
     have y1:(q:Int)<(n:Int):=by omega
     go_wp2_with fail
     go_quiet (fail)
     go_wp2
     exact ⟨⟨q+1,by omega,by go_num,aL GQ.out nq⟩,by simp[intOf];omega⟩
    ·go_wp2_with fail
     exact ⟨⟨i+1,by omega,by go_num,W0.out.trans GQ.out⟩,by simp[intOf];omega⟩
  ·go_wp2_with fail
   clear k0 c0
   go_loopw [6] (fun t wr=>∃i:Nat,i<=nE/\t=.int .i64 i/\w.grownBy wr none) (fun t _=>nE -(intOf t).toNat)
   case atStart=>exact ⟨0,by omega,rfl,GI.out⟩
   case round=>
    obtain ⟨i,hi,rfl,gi⟩:=hrel
    clear GI k1 k2
    have GI:=Hid.mk' gi
    have k1:=gi.cell c1 (by simp)
    have k2:=gi.cell c2 (by simp)
    clear gi
    by_cases hlt:i<nE
    ·have hil:i<xe.length:=by rw[HNE.out];exact hlt
     obtain ⟨gE,hgE⟩:∃gE,aE=some ⟨gE,0,none⟩:=by
      have hr:=HH.out.le.r
      rw[HVE.out] at hr
      rcases hr.2 with ⟨h',hn0⟩ | ⟨g,cap,cur,h',_⟩
      ·omega
      ·injection h' with h1 h2 h3
       exact ⟨g,h1⟩
     subst hgE
     obtain ⟨p,hp⟩:∃p,xe[i]=p:=⟨_,rfl⟩
     obtain ⟨v,mk⟩:=p
     have hpm:(v,mk)∈xe:=by rw[<- hp];exact List.getElem_mem _
     obtain ⟨n,hn,a,c,hv,hcell⟩:=HH.out.le.m (v,mk) hpm
     simp only at hv
     subst hv
     have hr:=HH.out.le.r
     rw[HVE.out] at hr
     have d0:wr.cell? ⟨gE,i * 2,none⟩=some (.slice a n c):=GI.out.cell ((hr.cellAt (i * 2) (by omega)).trans (by have:=kH xe i 0 hil (by omega);rw[Nat.add_zero] at this;rw[this,hp];rfl)) (by simp)
     have d1:wr.cell? ⟨gE,i * 2+1,none⟩=some (.int .i64 mk):=GI.out.cell ((hr.cellAt (i * 2+1) (by omega)).trans (by rw[kH xe i 1 hil (by omega),hp];rfl)) (by simp)
     have HC:=Hid.mk' hcell
     clear hr hcell hp
     have x0:(0:Int)<=(i:Int):=by omega
     have x1:(i:Int)<(nE:Int):=by omega
     have hm:=HH.out.le.b _ hpm
     simp only at hm
     have m5:IntKind.i64.wrap (-9 -mk)=-9 -mk:=by simp[IntKind.wrap,IntKind.bits,IntKind.signed];omega
     have m6:wrap64 (-9 -mk)=-9 -mk:=by simp[wrap64];omega
     go_wp2_with fail
     have W0:=Hid.mk' (GI.out.trans (World.grownBy_alloc wr (.cells #[.int .i64 (-9 -mk),.int .i64 0,.int .i64 0,.float .f32 0,.float .f32 0] 87) none))
     have kk:∀w',(wr.alloc (.cells #[.int .i64 (-9 -mk),.int .i64 0,.int .i64 0,.float .f32 0,.float .f32 0] 87)).grownBy w' none->w'.cell? ⟨bk,1,none⟩=some (.slice (some ⟨gE,0,none⟩) nE cE)/\w'.cell? ⟨gE,i * 2,none⟩=some (.slice a n c)/\w'.cell? ⟨wr.heap.size,0,none⟩=some (.int .i64 (-9 -mk))/\w'.cell? ⟨wr.heap.size,1,none⟩=some (.int .i64 0)/\w'.cell? ⟨wr.heap.size,2,none⟩=some (.int .i64 0)/\w'.cell? ⟨wr.heap.size,3,none⟩=some (.float .f32 0)/\w'.cell? ⟨wr.heap.size,4,none⟩=some (.float .f32 0):=fun w' g=>
      ⟨g.cell ((World.grownBy_alloc wr _ none).cell k1 (by simp)) (by simp),g.cell ((World.grownBy_alloc wr _ none).cell d0 (by simp)) (by simp),g.cell (by go_simp) (by simp),g.cell (by go_simp) (by simp),g.cell (by go_simp) (by simp),g.cell (by go_simp) (by simp),g.cell (by go_simp) (by simp)⟩
     have KK:=Hid.mk' kk
     clear kk k1 d0 d1
     generalize (wr.alloc (.cells #[.int .i64 (-9 -mk),.int .i64 0,.int .i64 0,.float .f32 0,.float .f32 0] 87))=w0 at *
     go_loopw [8] (fun t wq=>∃q:Nat,q<=n/\t=.int .i64 q/\w0.grownBy wq none) (fun t _=>n -(intOf t).toNat)
     case atStart=>exact ⟨0,by omega,rfl,aD _ _⟩
     case round=>
      obtain ⟨q,hq2,rfl,gq⟩:=hrel
      obtain ⟨r0,r1,r2,r3,r4,r5,r6⟩:=KK.out _ gq
      have GQ:=Hid.mk' gq
      clear gq
      by_cases hqn:q<n
      ·obtain ⟨g,hg,_,hcs⟩:=HC.out (by omega)
       subst hg
       have e:∀j (hj:j<5) u,(gM mk).cells[j]?=some u->wr.cell? ⟨g,q * 5+j,none⟩=some u:=fun j hj u hu=>by
        have:=hcs (5 * q+j) u (by rw[dY _ q j (by simp;exact hqn) hj];simpa using hu)
        rw[show 5 * q+j=q * 5+j by omega] at this
        exact (W0.out.trans GQ.out).cell this (by simp)
       have e0:=e 0 (by omega) _ rfl
       have e1:=e 1 (by omega) _ rfl
       have e2:=e 2 (by omega) _ rfl
       have e3:=e 3 (by omega) _ rfl
       have e4:=e 4 (by omega) _ rfl
       rw[Nat.add_zero] at e0
       simp only[gM] at e0 e1 e2 e3 e4
       clear e hcs
       have y0:(0:Int)<=(q:Int):=by omega
       have y1:(q:Int)<(n:Int):=by omega
       go_wp2_with fail
       go_quiet (fail)
       go_wp2
       exact ⟨⟨q+1,by omega,by go_num,aL GQ.out nq⟩,by simp[intOf];omega⟩
      ·go_wp2_with fail
       exact ⟨⟨i+1,by omega,by go_num,W0.out.trans GQ.out⟩,by simp[intOf];omega⟩
    ·go_wp2_with fail
     clear k1 c1
     go_loopw [9] (fun t wr=>∃i:Nat,i<=nT/\t=.int .i64 i/\w.grownBy wr none) (fun t _=>nT -(intOf t).toNat)
     case atStart=>exact ⟨0,by omega,rfl,GI.out⟩
     case round=>
      obtain ⟨i,hi,rfl,gi⟩:=hrel
      clear GI k2
      have GI:=Hid.mk' gi
      have k2:=gi.cell c2 (by simp)
      clear gi
      by_cases hlt:i<nT
      ·have hil:i<xt.length:=by rw[HNT.out];exact hlt
       obtain ⟨gT,hgT⟩:∃gT,aT=some ⟨gT,0,none⟩:=by
        have hr:=HH.out.lt.r
        rw[HVT.out] at hr
        rcases hr.2 with ⟨h',hn0⟩ | ⟨g,cap,cur,h',_⟩
        ·omega
        ·injection h' with h1 h2 h3
         exact ⟨g,h1⟩
       subst hgT
       obtain ⟨p,hp⟩:∃p,xt[i]=p:=⟨_,rfl⟩
       obtain ⟨v,mk⟩:=p
       have hpm:(v,mk)∈xt:=by rw[<- hp];exact List.getElem_mem _
       obtain ⟨n,hn,a,c,hv,hcell⟩:=HH.out.lt.m (v,mk) hpm
       simp only at hv
       subst hv
       have hr:=HH.out.lt.r
       rw[HVT.out] at hr
       have d0:wr.cell? ⟨gT,i * 2,none⟩=some (.slice a n c):=GI.out.cell ((hr.cellAt (i * 2) (by omega)).trans (by have:=kH xt i 0 hil (by omega);rw[Nat.add_zero] at this;rw[this,hp];rfl)) (by simp)
       have d1:wr.cell? ⟨gT,i * 2+1,none⟩=some (.int .i64 mk):=GI.out.cell ((hr.cellAt (i * 2+1) (by omega)).trans (by rw[kH xt i 1 hil (by omega),hp];rfl)) (by simp)
       have HC:=Hid.mk' hcell
       clear hr hcell hp
       have x0:(0:Int)<=(i:Int):=by omega
       have x1:(i:Int)<(nT:Int):=by omega
       have hm:=HH.out.lt.b _ hpm
       simp only at hm
       go_wp2_with fail
       refine Calls.mono (rJ mk _ hm.1 (by omega)) ?_
       rintro e w0 ⟨rfl,g0,_⟩
       have W0:=Hid.mk' (GI.out.trans g0)
       have KK:Hid (∀w',w0.grownBy w' none->w'.cell? ⟨bk,2,none⟩=some (.slice (some ⟨gT,0,none⟩) nT cT)/\w'.cell? ⟨gT,i * 2,none⟩=some (.slice a n c)):=Hid.mk' fun w' g=>⟨g.cell (g0.cell k2 (by simp)) (by simp),g.cell (g0.cell d0 (by simp)) (by simp)⟩
       clear k2 d0 d1 g0
       generalize hT:txS mk=TT at *
       go_wp2_with fail
       go_loopw [11] (fun t wq=>∃q:Nat,q<=n/\t=.int .i64 q/\w0.grownBy wq none) (fun t _=>n -(intOf t).toNat)
       case atStart=>exact ⟨0,by omega,rfl,aD _ _⟩
       case round=>
        obtain ⟨q,hq2,rfl,gq⟩:=hrel
        obtain ⟨r0,r1⟩:=KK.out _ gq
        have GQ:=Hid.mk' gq
        clear gq
        by_cases hqn:q<n
        ·obtain ⟨g,hg,_,hcs⟩:=HC.out (by omega)
         subst hg
         have e0:wr.cell? ⟨g,q,none⟩=some (.string TT):=by
          have e1:((List.replicate n (jB mk)).flatMap Tx.cells)[q]?=some (.string TT):=by
           rw[aHk,hT]
           simp[hqn]
          exact (W0.out.trans GQ.out).cell (hcs q _ e1) (by simp)
         clear hcs
         have y0:(0:Int)<=(q:Int):=by omega
         have y1:(q:Int)<(n:Int):=by omega
         go_wp2
         exact ⟨⟨q+1,by omega,by go_num,GQ.out⟩,by simp[intOf];omega⟩
        ·go_wp2_with fail
         exact ⟨⟨i+1,by omega,by go_num,W0.out.trans GQ.out⟩,by simp[intOf];omega⟩
      ·go_wp2
       go_ret
       exact ⟨rfl,GI.out⟩
theorem aEL {w:World}{B:Nat}{e:TypeId}{g n cap m:Nat}{xs ys:List Value}{u:Value}(h:w.ownsRow B e 1 (.slice (some ⟨g,0,none⟩) n cap) n (xs++u::ys))(hx:xs.length=m)(v:Value):
  (w.setCell ⟨g,m,none⟩ v).ownsRow B e 1 (.slice (some ⟨g,0,none⟩) n cap) n (xs++v::ys):=by
 have:=(h.stored m v).1
 subst hx
 simpa [List.set_append] using this
theorem uY (B bk:Nat)(vI:Value)(xs:List (Value×Int))(l:Value)(is:List Tx)(w:World)(hbk:bk<w.heap.size)(hlb:l.ownBlock≠some bk)(hvb:vI.ownBlock≠some bk)(hB:B<=w.heap.size)(c0:w.cell? ⟨bk,2,none⟩=some vI)(f0:∀o,w.frozen? ⟨bk,o,none⟩=false)
  (rI:w.ownsRow B 106 2 vI xs.length (xs.flatMap bR)) (rl:OwnT B w l is) (hsep:∀j,l.ownBlock=some j->vI.ownBlock≠some j) (hn:is.length<=1000) (hx:xs.length<=10000000):
  Calls prog 117 #[.pointer (some ⟨bk,0,none⟩),l] w fun e w'=>e=.returned (.tuple #[])/\∃ys vc lc,GrpT w w' B bk vI l xs (xs.length:Int) is.length 3 ys vc lc:=by
 obtain ⟨aI,cI,hvI⟩:=aJ rI
 obtain ⟨al,cl,hvl⟩:=aJ rl
 obtain ⟨n,hN⟩:∃n,is.length=n:=⟨_,rfl⟩
 obtain ⟨k,hK⟩:∃k,xs.length=k:=⟨_,rfl⟩
 rw[hN] at hn hvl ⊢
 rw[hK] at hx hvI ⊢
 subst hvI hvl
 have RI:=Hid.mk' rI
 have RL:=Hid.mk' rl
 have HS:=Hid.mk' hsep
 have HLK:=Hid.mk' hlb
 have HVK:=Hid.mk' hvb
 have HN:=Hid.mk' hN
 have HK:=Hid.mk' hK
 have TO:=Hid.mk' (rJ (k:Int) w (by omega) (by omega))
 clear rI rl hsep hN hK hlb hvb
 go_enter func117,ntmps117
 go_wp2_with fail
 refine Calls.mono TO.out ?_
 rintro e w0 ⟨rfl,g0,hz⟩
 have G0:=Hid.mk' g0
 clear g0
 generalize hT:txS k=TT at *
 have HT:=Hid.mk' hT
 have MC:Hid ((jB k).cells=[.string TT]):=by show _=_;rw[<- hT];rfl
 clear hT
 go_wp2_with fail
 go_loopw [6] (fun t wr=>∃q:Nat,q<=n/\t=.int .i64 q/\Only w wr (fun j=>Value.ownBlock (.slice al n cl)=some j)/\w.heap.size<wr.heap.size/\wr.ownsRow B 9 1 (.slice al n cl) n ((List.replicate q (jB k)++is.drop q).flatMap Tx.cells)) (fun t _=>n -(intOf t).toNat)
 case atStart=>
  refine ⟨0,by omega,rfl,(Only.grown G0.out).mono (by simp),hz,?_⟩
  have:=RL.out
  unfold OwnT at this
  rw[HN.out] at this
  simpa using aO this G0.out
 case round=>
  obtain ⟨q,hq,rfl,ok,hz,rq⟩:=hrel
  have OK:=Hid.mk' ok
  have RQ:=Hid.mk' rq
  clear ok rq
  by_cases hlt:q<n
  ·obtain ⟨g,rfl,hgB⟩:∃g,al=some ⟨g,0,none⟩/\B<=g:=by
    rcases RQ.out.2 with ⟨h',hn0⟩ | ⟨g,cap,cur,h',hb,_⟩
    ·omega
    ·injection h' with h1 h2 h3
     exact ⟨g,h1,hb⟩
   have hdr:is.drop q=is[q]'(by rw[HN.out];exact hlt)::is.drop (q+1):=List.drop_eq_getElem_cons (by rw[HN.out];exact hlt)
   obtain ⟨y,hy⟩:∃y,is[q]'(by rw[HN.out];exact hlt)=y:=⟨_,rfl⟩
   have hsplit:(List.replicate q (jB k)++is.drop q).flatMap Tx.cells=(List.replicate q (jB k)).flatMap Tx.cells++ .string y.s::(is.drop (q+1)).flatMap Tx.cells:=by
    rw[hdr,hy,List.flatMap_append,List.flatMap_cons];rfl
   have RS:=RQ.out
   rw[hsplit] at RS
   have hAl:((List.replicate q (jB k)).flatMap Tx.cells).length=q:=by rw[rH,List.length_replicate];omega
   have d0:wr.cell? ⟨g,q,none⟩=some (.string y.s):=(RS.cellAt _ (by omega)).trans (by rw[List.getElem?_append_right (by omega),hAl];simp)
   have fg:∀j,wr.frozen? ⟨g,j,none⟩=false:=fun j=>RS.frozenAt j
   have RS2:=Hid.mk' RS
   have hgw:g<w.heap.size:=(RL.out.lt g rfl).2
   have x0:(0:Int)<=(q:Int):=by omega
   have x1:(q:Int)<(n:Int):=by omega
   clear RS hsplit hdr hy
   go_wp2_with fail
   have O4:=Hid.mk' (Only.set wr g q (.string TT))
   have W4:=Hid.mk' (aEL RS2.out hAl (.string TT))
   have z4:wr.heap.size<=(wr.setCell ⟨g,q,none⟩ (.string TT)).heap.size:=O4.out.size
   refine ⟨⟨q+1,by omega,by go_num,OK.out.trans (O4.out.mono (fun j _ hj=>.inl (by rw[hj];rfl))),Nat.lt_of_lt_of_le hz z4,?_⟩,by simp[intOf];omega⟩
   have e:(List.replicate (q+1) (jB k)++is.drop (q+1)).flatMap Tx.cells=(List.replicate q (jB k)).flatMap Tx.cells++ .string TT::(is.drop (q+1)).flatMap Tx.cells:=by
    rw[List.replicate_succ',List.flatMap_append,List.flatMap_append,List.flatMap_singleton,List.append_assoc,MC.out];rfl
   rw[e]
   exact W4.out
  ·have hqn:q=n:=by omega
   subst hqn
   rw[List.drop_of_length_le (by rw[HN.out];exact Nat.le_refl _),List.append_nil] at RQ
   have hnb:¬Value.ownBlock (.slice al q cl)=some bk:=HLK.out
   have e0:wr.cell? ⟨bk,2,none⟩=some (.slice aI k cI):=OK.out.cell c0 hnb
   have fb:∀o,wr.frozen? ⟨bk,o,none⟩=false:=fun o=>(OK.out.frozen (a:=⟨bk,o,none⟩) hbk hnb).trans (f0 o)
   have R1:Hid (wr.ownsRow B 106 2 (.slice aI k cI) k (xs.flatMap bR)):=by
    have:=RI.out
    rw[HK.out] at this
    exact OK.out.own this (fun j hj e=>HS.out j e hj)
   have hsz:=OK.out.size
   clear c0 f0
   have HVb:Hid (some bk≠Value.ownBlock (.slice aI k cI)):=fun e=>HVK.out e.symm
   have hrl:Hid (∀j,Value.ownBlock (.slice al q cl)=some j->B<=j/\j<w.heap.size):=fun j hj=>RL.out.lt j hj
   obtain ⟨iO,hi,hz0,hz1,hz2⟩:=aEK
   go_wp2_with (at_builtin;refine iN rfl _ _ 92 rfl 106 iO _ 2 32 underlying92 hi hz0 hz1 hz2 rfl (by decide) B (.slice aI k cI) k (xs.flatMap bR) rfl (World.ownsRow.alloc R1.out _) ⟨wr.heap.size,0,none⟩ (bR (.slice al q cl,(k:Int))) rfl rfl (aW _ (bR (.slice al q cl,(k:Int))) _ _ rfl) (by simp[bR,Value.oneCell']) (by unfold maxLen;omega) (by omega) (by simp;omega) ?_;intro v1 w1 r1 g1 h1 k1;obtain ⟨a1,c1,rfl⟩:=aJ r1;have s0:=aU g1 e0 HVb.out;have fs:=bI g1 fb HVb.out (by simp;omega) (by omega))
   have GS:Hid (GrpT w (w1.setCell ⟨bk,2,none⟩ (.slice a1 (k+1) c1)) B bk (.slice aI k cI) (.slice al q cl) xs (k:Int) q 0 [.slice al q cl] (.slice a1 (k+1) c1) (.slice al q cl)):=
    GrpT.start hbk HLK.out HVK.out hrl.out OK.out hz RQ.out e0 fb HS.out g1 (by rw[HK.out];exact r1) h1
   generalize (w1.setCell ⟨bk,2,none⟩ (.slice a1 (k+1) c1))=wg at *
   clear s0 fs g1 r1 h1 k1 e0 fb R1 HVb
   go_loopw [1,7] (fun t v wq=>∃(r:Nat) (ys:List Value) (vc:Value),r<=3/\v=.int .i64 r/\GrpT w wq B bk (.slice aI k cI) (.slice al q cl) xs (k:Int) q r ys vc t) (fun _ v _=>3 -(intOf v).toNat)
   case atStart=>exact ⟨0,_,_,by omega,rfl,GS.out⟩
   case round=>
    obtain ⟨r,ys,vc,hr,rfl,gr⟩:=hrel
    have GR:=Hid.mk' gr
    have e0:=gr.c
    have fb:=gr.f
    have zz:=gr.z
    have EN:Hid (∀w' v m,World.ownsRow w' B 9 1 v m ((List.replicate (q+r) (jB k)).flatMap Tx.cells++[.string TT])->World.ownsRow w' B 9 1 v m ((List.replicate (q+r) (jB k)).flatMap Tx.cells++(jB k).cells)):=Hid.mk' fun w' v m h=>by rw[MC.out];exact h
    clear gr
    by_cases hlt:r<3
    ·obtain ⟨iT,hiT,hy0,hy1,hy2⟩:=lN
     have HLb:Hid (some bk≠u1.ownBlock):=fun e=>by
      rcases GR.out.lb bk e.symm with e | e
      ·exact HLK.out e
      ·omega
     have HVb:Hid (some bk≠vc.ownBlock):=fun e=>by
      rcases GR.out.vb bk e.symm with e | e
      ·exact HVK.out e
      ·omega
     go_wp2_with (first | (at_builtin;refine iN rfl _ _ 104 rfl 9 iT _ 1 16 underlying104 hiT hy0 hy1 hy2 rfl (by decide) B u1 (q+r) _ rfl (World.ownsRow.alloc GR.out.lst _) ⟨wr.heap.size,0,none⟩ [.string TT] rfl rfl (aW _ [.string TT] _ _ rfl) (by simp[Value.oneCell']) (by unfold maxLen;omega) (by omega) (by simp;omega) ?_;intro l2 w2 r2 g2 h2 k2;obtain ⟨a2,c2,e2q⟩:=aJ r2;subst e2q;have R2:=Hid.mk' (GR.out.row2 g2);have e2:=aU g2 e0 HLb.out;have f2:=bI g2 fb HLb.out (by simp;omega) (by omega);have z2:=g2.size) | (at_builtin;refine iN rfl _ _ 92 rfl 106 iO _ 2 32 underlying92 hi hz0 hz1 hz2 rfl (by decide) B vc (xs.length+(r+1)) _ rfl (World.ownsRow.alloc R2.out _) ⟨w2.heap.size,0,none⟩ (bR (.slice a2 (q+r+1) c2,(k:Int))) rfl rfl (aW _ (bR (.slice a2 (q+r+1) c2,(k:Int))) _ _ rfl) (by simp[bR,Value.oneCell']) (by rw[HK.out];unfold maxLen;omega) (by rw[HK.out];omega) (by simp at z2;simp;omega) ?_;intro v3 w3 r3 g3 h3 k3;obtain ⟨a3,c3,rfl⟩:=aJ r3;have e3:=aU g3 e2 HVb.out;have f3:=bI g3 f2 HVb.out (by simp at z2;simp;omega) (by simp at z2;omega)))
     refine ⟨⟨r+1,ys++[.slice a2 (q+r+1) c2],_,by omega,by go_num,GR.out.next hbk HLK.out HVK.out g2 (EN.out _ _ _ r2) h2 k2 g3 r3 h3⟩,by simp[intOf];omega⟩
    ·have hr3:r=3:=by omega
     subst hr3
     go_wp2
     exact bodyPost_end (v:=.tuple #[]) (by simp[results,results117]) rfl ⟨rfl,ys,vc,u1,GR.out⟩
theorem BK.textsL {w:World}{bk:Nat}{R:Nat->Prop}{nI nE nT:Nat}(h:BK w bk R nI nE nT)(hnn:nT<=10000000)(l:Value)(ts:List Tx){B:Nat}(ho:OwnT B w l ts)(hn:ts.length<=1000)(hlb:l.ownBlock≠some bk)(hR:∀j,l.ownBlock=some j->¬R j):
  Calls prog 117 #[.pointer (some ⟨bk,0,none⟩),l] w fun e w'=>e=.returned (.tuple #[])/\BK w' bk (RX w w' R l) nI nE (nT+4)/\Only w w' (fun j=>R j∨l.ownBlock=some j):=by
 obtain ⟨vI,vE,vT,xi,xe,xt,AI,AE,AT,b,h1,h2,h3⟩:=h
 refine (uY 0 bk vT xt l ts w b.hb hlb b.lt.n (Nat.zero_le _) b.lt.c b.f b.lt.r (bP ho (Nat.zero_le _)) (fun j hj e=>hR j hj (b.rt j (.inl e))) hn (by omega)).mono ?_
 rintro e w' ⟨he,ys,vc,lc,g⟩
 have nblk:∀j,qG vc (fun j=>AT j∨((l.ownBlock=some j∨w.heap.size<j)/\vc.ownBlock≠some j/\j<w'.heap.size)) j->qG vT AT j∨l.ownBlock=some j∨w.heap.size<j:=fun j hj=>by
  rcases hj with hj | hj | ⟨hj,_⟩
  ·rcases g.vb j hj with e | e
   ·exact .inl (.inl e)
   ·exact .inr (.inr e)
  ·exact .inl (.inr hj)
  ·exact .inr hj
 have L:=(b.lt.put aBH b.hb hn (by omega) hlb (fun j hj hA=>hR j hj (b.rt j (.inr hA))) g.y g.c g.row g.vb g.m g.o)
 refine ⟨he,⟨vI,vE,vc,xi,xe,_,AI,AE,(fun j=>AT j∨((l.ownBlock=some j∨w.heap.size<j)/\vc.ownBlock≠some j/\j<w'.heap.size)),⟨Nat.lt_of_lt_of_le b.hb g.o.size,g.f,(b.li.only aBF g.o (g.kc 0 _ (by omega) b.li.c) (fun j hj e=>by
  rcases e with e | e | e
  ·exact (dQ b.li hj).2 e
  ·exact b.d2 j hj (.inl e)
  ·exact hR j e (b.ri j hj))),(b.le.only aBG g.o (g.kc 1 _ (by omega) b.le.c) (fun j hj e=>by
  rcases e with e | e | e
  ·exact (dQ b.le hj).2 e
  ·exact b.d3 j hj (.inl e)
  ·exact hR j e (b.re j hj))),L,b.d1,fun j hj hj'=>by
  rcases nblk j hj' with e | e | e
  ·exact b.d2 j hj e
  ·exact hR j e (b.ri j hj)
  ·have:=(dQ b.li hj).1;omega,fun j hj hj'=>by
  rcases nblk j hj' with e | e | e
  ·exact b.d3 j hj e
  ·exact hR j e (b.re j hj)
  ·have:=(dQ b.le hj).1;omega,⟨.inl b.rb,Nat.lt_of_lt_of_le b.hb g.o.size⟩,fun j hj=>⟨.inl (b.ri j hj),Nat.lt_of_lt_of_le (dQ b.li hj).1 g.o.size⟩,fun j hj=>⟨.inl (b.re j hj),Nat.lt_of_lt_of_le (dQ b.le hj).1 g.o.size⟩,fun j hj=>⟨by rcases nblk j hj with e | e | e;exact .inl (b.rt j e);exact .inr (.inl e);exact .inr (.inr e),(dQ L hj).1⟩⟩,h1,h2,by rw[List.length_append,List.length_map,g.y,h3]⟩,g.o.mono (fun j _ e=>?_)⟩
 rcases e with e | e | e
 ·exact .inl (e ▸ b.rb)
 ·exact .inl (b.rt j (.inl e))
 ·exact .inr e
end Go.Proofs.YtammnaafdhhjaaaGreat
