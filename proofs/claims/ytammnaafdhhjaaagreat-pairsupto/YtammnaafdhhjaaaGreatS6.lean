import Derived.Test.YtammnaafdhhjaaaGreatJC4
import Derived.Test.YtammnaafdhhjaaaGreatJS2
set_option maxHeartbeats 16000000
set_option maxRecDepth 100000
namespace Go.Proofs.YtammnaafdhhjaaaGreat
open Go.RowKit
def aHu (K:Int):Rw:=⟨⟨K,0,bT,aZ,[],[]⟩,.slice none 0 0,.slice none 0 0⟩
def mR (w:World)(g:Nat):Nat->List Value->World
 | _,[]=>w
 | p,v::r=>mR (w.setCell ⟨g,p,none⟩ v) g (p+1) r
theorem cW (g:Nat):∀(vs:List Value) (w:World) (p:Nat),Only w (mR w g p vs) (fun j=>j=g)
 | [],w,_=>Only.refl w _
 | v::r,w,p=>(Only.set w g p v).trans ((cW g r _ (p+1)).mono (fun _ _ h=>.inl h))
theorem aIX (K:Int)(n k:Nat)(h:k<n):((List.replicate n (aHu K)).flatMap Rw.cells)[k * 13]?=some (.int .i64 K):=by
 induction n generalizing k with
 | zero=>omega
 | succ n ih=>
  rw[List.replicate_succ,List.flatMap_cons]
  cases k with
  | zero=>rfl
  | succ k=>
   rw[List.getElem?_append_right (by simp[Rw.cells];omega)]
   have:=ih k (by omega)
   rw[<- this]
   congr 1
   simp[Rw.cells]
   omega
def MkR (w:World)(p:Value×Int×Nat)(G:Nat->Prop):Prop:=
 ∃a c,p.1=.slice a p.2.2 c/\(0<p.2.2->∃g,a=some ⟨g,0,none⟩/\G g/\∀k,k<p.2.2->w.cell? ⟨g,k * 13,none⟩=some (.int .i64 p.2.1))
theorem MkR.step {w w':World}{p:Value×Int×Nat}{G G':Nat->Prop}(h:MkR w p G)(hc:∀g k u,G g->k<p.2.2->w.cell? ⟨g,k * 13,none⟩=some u->w'.cell? ⟨g,k * 13,none⟩=some u)(hG:∀g,0<p.2.2->G g->G' g):MkR w' p G':=by
 obtain ⟨a,c,e,hx⟩:=h
 refine ⟨a,c,e,fun hp=>?_⟩
 obtain ⟨g,ea,hg,hk⟩:=hx hp
 exact ⟨g,ea,hG g hp hg,fun k hk'=>hc g k _ hg hk' (hk k hk')⟩
structure Mrk (w wr:World)(B:Nat)(F G:Nat->Prop)(vs lc:Value)(N:Nat)(ys:List (Value×Int×Nat)):Prop where
 row:wr.ownsRow B 133 1 vs ys.length (ys.map (·.1))
 sep:∀j,lc.ownBlock=some j->vs.ownBlock≠some j
 m:∀p∈ys,MkR wr p (fun g=>G g/\g<wr.heap.size/\vs.ownBlock≠some g/\(lc.ownBlock=some g->p.2.2<=N))
 o:Only w wr F
 v:∀j,vs.ownBlock=some j->w.heap.size<=j
 l:∀j,lc.ownBlock=some j->G j/\(F j∨w.heap.size<=j)
theorem Mrk.down {w wr w':World}{B:Nat}{F G:Nat->Prop}{vs lc v':Value}{N:Nat}{K:Int}{ys:List (Value×Int×Nat)}{ob:Obj}(h:Mrk w wr B F G vs lc N ys)(lst:wr.ownsRow B 139 13 lc N ((List.replicate N (aHu K)).flatMap Rw.cells))
  (g:(wr.alloc ob).grownBy w' vs.ownBlock) (r:w'.ownsRow B 133 1 v' (ys.length+1) (ys.map (·.1)++[lc])) (b:∀j,v'.ownBlock=some j->vs.ownBlock=some j∨(wr.alloc ob).heap.size<=j):
  Mrk w w' B F G v' lc N (ys++[(lc,K,N)])/\w'.ownsRow B 139 13 lc N ((List.replicate N (aHu K)).flatMap Rw.cells):=by
 have z:=g.size
 have zo:=h.o.size
 simp at z
 have lst':w'.ownsRow B 139 13 lc N ((List.replicate N (aHu K)).flatMap Rw.cells):=by
  refine World.ownsRow.kept (World.ownsRow.alloc lst _) g ?_
  cases hq:lc.ownBlock with
  | none=>exact .inl rfl
  | some j=>exact .inr (fun e=>h.sep j hq e.symm)
 have nb:∀j,j<wr.heap.size->vs.ownBlock≠some j->v'.ownBlock≠some j:=fun j hj hn e=>by
  rcases b j e with e | e
  ·exact hn e
  ·simp at e;omega
 have sep:∀j,lc.ownBlock=some j->v'.ownBlock≠some j:=fun j hj=>nb j (lst.lt j hj).2 (h.sep j hj)
 refine ⟨⟨?_,sep,fun p hp=>?_,h.o.trans ⟨g.os,g.tape,g.output,by omega,fun j hj hn=>?_⟩,fun j hj=>?_,h.l⟩,lst'⟩
 ·rw[List.length_append,List.map_append]
  exact r
 ·rcases List.mem_append.1 hp with hp | hp
  ·refine (h.m p hp).step (fun g0 k u hg hk hc=>aU g hc (fun e=>hg.2.2.1 e.symm)) (fun g0 _ hg=>⟨hg.1,by omega,nb g0 hg.2.1 hg.2.2.1,hg.2.2.2⟩)
  ·rw[List.mem_singleton] at hp
   subst hp
   rcases lst'.2 with ⟨e,rfl⟩ | ⟨g0,cap,cur,e,_⟩
   ·exact ⟨none,0,e,fun hp=>by simp at hp⟩
   ·refine ⟨_,cap,e,fun _=>⟨g0,rfl,⟨(h.l g0 (by rw[e];rfl)).1,(lst'.lt g0 (by rw[e];rfl)).2,sep g0 (by rw[e];rfl),fun _=>Nat.le_refl _⟩,fun k hk=>?_⟩⟩
    have hk':k<N:=hk
    subst e
    exact (lst'.cellAt (k * 13) (by omega)).trans (aIX K N k hk')
 ·rw[g.block j (by simp;omega) (fun e=>hn (.inr (h.v j e.symm))),(World.grownBy_alloc wr ob none).block j hj (by simp)]
 ·rcases b j hj with e | e
  ·exact h.v j e
  ·simp at e;omega
end Go.Proofs.YtammnaafdhhjaaaGreat
