import Derived.LoopIn
import Derived.LoopNIn
import Derived.OwnWalkIn
import Derived.RangeFuncBound
import Derived.RangeFuncNested
import Derived.Shelf.RegionOpen
import Derived.Test.YtammnaafdhhjaaaGreatJG5
set_option maxHeartbeats 16000000
set_option maxRecDepth 100000
namespace Go.Proofs.YtammnaafdhhjaaaGreat
open Go.RowKit Go.Shelf Go.MapKept Go.Proofs.Tryz
attribute [local go_sem] Oper.semAt_some
def aIB (n r:Nat)(w:World):Nat:=match w.heap[r]? with
 | some (.mapIter _ _ seen _)=>n -seen.size
 | _=>0
theorem oO {es:Array MapEntry}{seen:Array Nat}{e:MapEntry}(h:e∈(leftOf es seen).toList):e∈es.toList/\e.born ∉ seen.toList:=by
 simp[leftOf] at h
 exact ⟨by simpa using h.1,by simpa using h.2⟩
theorem aDc {es:Array MapEntry}{seen:Array Nat}(h:(leftOf es seen).size=0):∀e∈es.toList,e.born∈seen.toList:=fun e he=>by
 have h0:leftOf es seen=#[]:=Array.eq_empty_of_size_eq_zero h
 have hn:e ∉ (leftOf es seen).toList:=by rw[h0];simp
 have hm:e∈es:=by simpa using he
 apply Classical.byContradiction
 intro hc
 apply hn
 simp[leftOf]
 exact ⟨hm,by simpa using hc⟩
structure Got (es:Array MapEntry)(sel:List MapEntry)(ss:List It)(seen:Array Nat):Prop where
 s:seen.toList=sel.map (·.born)
 m:∀e∈sel,e∈es.toList
 nd:(sel.map (·.born)).Nodup
 p:sel.map eR=ss.map iI
theorem kT {α β:Type}(f:α->β){l:List α}(h:(l.map f).Nodup):l.Nodup:=by
 have:=List.pairwise_map.1 h
 exact this.imp (fun hne e=>hne (by rw[e]))
def aIC:Value×Value->It
 | (_,.agg cs)=>match cs.toList with
  | [.int _ a,.int _ b,.float _ p,.float _ q]=>⟨a,b,p,q⟩
  | _=>bT
 | _=>bT
theorem aDd (i:It):aIC (iI i)=i:=rfl
theorem xS {l m:List It}(h:(l.map iI).Perm (m.map iI)):l.Perm m:=by
 have:=h.map aIC
 simpa [Function.comp_def,aDd] using this
theorem Got.perm {es:Array MapEntry}{sel:List MapEntry}{ss th:List It}{seen:Array Nat}{clock:Nat}(h:Got es sel ss seen)(hs:Stamped es clock)(hp:es.toList.map eR=th.map iI)(h0:(leftOf es seen).size=0):ss.Perm th:=by
 have hall:=aDc h0
 have hse:sel.Perm es.toList:=by
  refine (List.perm_ext_iff_of_nodup (kT _ h.nd) (kT _ hs.2.1)).2 (fun a=>⟨h.m a,fun ha=>?_⟩)
  have hb:=hall a ha
  rw[h.s] at hb
  obtain ⟨e,he,heq⟩:=List.mem_map.1 hb
  have:e=a:=by
   have h1:=find_born e es.toList hs.2.1 (h.m e he)
   have h2:=find_born a es.toList hs.2.1 ha
   have heq':e.born=a.born:=heq
   rw[heq',h2] at h1
   injection h1 with h1
   exact h1.symm
  rw[<- this]
  exact he
 refine xS ?_
 rw[<- h.p,<- hp]
 exact hse.map _
theorem Got.step {es:Array MapEntry}{sel:List MapEntry}{ss:List It}{seen:Array Nat}{e:MapEntry}{x:It}(h:Got es sel ss seen)(he:e∈(leftOf es seen).toList)(hx:eR e=iI x):Got es (sel++[e]) (ss++[x]) (seen.push e.born):=by
 obtain ⟨h1,h2⟩:=oO he
 refine ⟨by simp[h.s],fun y hy=>?_,?_,by simp[h.p,hx]⟩
 ·rcases List.mem_append.1 hy with hy | hy
  ·exact h.m y hy
  ·rw[List.mem_singleton] at hy;subst hy;exact h1
 ·rw[List.map_append,List.nodup_append]
  refine ⟨h.nd,by simp,fun a ha b hb=>?_⟩
  simp at hb
  subst hb
  intro e1
  rw[h.s,<- e1] at h2
  exact h2 ha
theorem Got.short {es:Array MapEntry}{sel:List MapEntry}{ss th:List It}{seen:Array Nat}{e:MapEntry}(h:Got es sel ss seen)(he:e∈(leftOf es seen).toList)(hp:es.toList.map eR=th.map iI):ss.length<th.length:=by
 obtain ⟨h1,h2⟩:=oO he
 have l1:ss.length=sel.length:=by have:=congrArg List.length h.p;simpa using this.symm
 have l2:th.length=es.toList.length:=by have:=congrArg List.length hp;simpa using this.symm
 have hnd:(e::sel).Nodup:=by
  refine List.nodup_cons.2 ⟨fun hm=>h2 ?_,kT _ h.nd⟩
  rw[h.s]
  exact List.mem_map.2 ⟨e,hm,rfl⟩
 have hsub:∀y∈e::sel,y∈es.toList:=fun y hy=>by
  rcases List.mem_cons.1 hy with rfl | hy
  ·exact h1
  ·exact h.m y hy
 have:=List.Nodup.length_le_of_subset hnd hsub
 rw[List.length_cons] at this
 omega
theorem aAz {w W w':World}{b:Nat}(g:W.grownBy w' (some b))(h:w.grownBy W none):w.grownBy w' (some b):=
 ⟨g.os.trans h.os,g.tape.trans h.tape,g.output.trans h.output,Nat.le_trans h.size g.size,fun k hk hn=>by
  have hz:=h.size
  rw[g.block k (by omega) hn,h.block k hk (by simp)]⟩
theorem aDe (F:Fence)(n:Nat)(hf:F.fn 136)(hro:F.round=none)(mb:Option Nat)(w:World):
  CallsIn F n prog 136 #[.map mb] w fun e w'=>e=.returned (.func (.func 166) #[] #[.pointer (some ⟨w.heap.size,0,none⟩)])/\w'=w.alloc (.cells #[.map mb] 128):=by
 refine callsIn_of_wp func136 rfl hf ?_ hro
 simp only[ntmps136,List.size_toArray,List.length_cons,List.length_nil,Nat.reduceAdd,Nat.reduceSub,Array.replicate_succ,Array.replicate_zero,List.push_toArray,List.append_toArray,List.nil_append,List.cons_append]
 gi_wp2
 go_ret
 exact ⟨rfl,rfl⟩
theorem aAA (F:Fence)(n:Nat)(hf:F.fn 166)(hro:F.round=none)(hn:1<=n)(l Bm bm:Nat)(th:List It)(J Jx:List It->World->Prop)
  (hY:∀pre x W,J pre W->pre.length<th.length->YieldAt F (n -1) prog l #[kD x] W fun e W'=>(e=.returned (.bool true)/\J (pre++[x]) W'/\KeepsWalks W W')∨(e=.returned (.bool false)/\Jx (pre++[x]) W'))
  (W:World) (hJ:AbidesFrom W.heap.size J) (hm:W.cell? ⟨Bm,0,none⟩=some (.map (some bm))) (hown:Mp W bm th) (h0:J [] W):
  CallsIn F n prog 166 #[.func (.yield l) #[] #[],.pointer (some ⟨Bm,0,none⟩)] W fun e W'=>(∃v,e=.returned v)/\((∃ss,ss.Perm th/\J ss W')∨(∃pre,True/\Jx pre W')):=by
 obtain ⟨es,clock,hb,hst,hmp⟩:=hown.ex
 have hwl:=hown.lt
 refine callsIn_of_wp func166 rfl hf ?_ hro
 simp only[ntmps166,List.size_toArray,List.length_cons,List.length_nil,Nat.reduceAdd,Nat.reduceSub,Array.replicate_succ,Array.replicate_zero,List.push_toArray,List.append_toArray,List.nil_append,List.cons_append]
 have hrng:(Instr.range 128 (.map (some bm))).run prog W=.ok (.pointer (some ⟨W.heap.size,0,none⟩)) (W.alloc (.mapIter (some bm) clock #[] clock)):=by
  simp[Instr.range,run_underlying underlying128,MapKept.run_getObj_map hb,Result.andThen,newObj]
  rfl
 gi_wp2
 gi_loopw [4] (fun _ wr=>∃(sel:List MapEntry) (ss:List It) (seen:Array Nat),wr.heap[W.heap.size]?=some (.mapIter (some bm) clock seen clock)/\wr.heap[bm]?=some (.map es clock)/\Got es sel ss seen/\W.heap.size<wr.heap.size/\J ss wr)
  (fun _ wr=>aIB es.size W.heap.size wr)
 case atStart=>
  exact ⟨[],[],#[],heap_alloc_new W _,((World.grownBy_alloc W _ none).block bm hwl (by simp)).trans hb,⟨rfl,by simp,by simp,rfl⟩,by simp,hJ [] W _ none h0 (World.grownBy_alloc W _ none) (fun r e=>by cases e)⟩
 case round=>
  obtain ⟨sel,ss,seen,hr,hb',got,hsz,hJs⟩:=hrel
  rcases run_next_at (P:=prog) wr 0 W.heap.size bm clock clock seen es clock hr hb' hst.1 (Nat.le_refl _) with ⟨hz,hrun⟩ | ⟨e,he,w1,hw1,hrun⟩
  ·gi_wp2
   go_end0
   exact ⟨⟨_,rfl⟩,.inl ⟨ss,got.perm hst hmp hz,hJs⟩⟩
  ·have hg1:wr.grownBy w1 none:=by
    rcases hw1 with rfl | rfl
    ·exact aD _ _
    ·exact aA (aD _ _)
   obtain ⟨w2,hw2⟩:∃w2,ChangeMaps.setBlock w1 W.heap.size (.mapIter (some bm) clock (seen.push e.born) clock)=w2:=⟨_,rfl⟩
   rw[hw2] at hrun
   have hsz1:W.heap.size<w1.heap.size:=Nat.lt_of_lt_of_le hsz hg1.size
   have hr2:w2.heap[W.heap.size]?=some (.mapIter (some bm) clock (seen.push e.born) clock):=by rw[<- hw2];exact jC _ _ _ hsz1
   have hg2:wr.grownBy w2 (some W.heap.size):=by rw[<- hw2];exact aAz (fE w1 _ _) hg1
   have hb2:w2.heap[bm]?=some (.map es clock):=(hg2.block bm (by omega) (by simp;omega)).trans hb'
   have hent:=run_entry_at (P:=prog) w2 W.heap.size bm clock seen es clock e hr2 hb2 (oO he).1 hst.2.1
   obtain ⟨x,hx⟩:∃x,eR e=iI x:=by
    have:eR e∈th.map iI:=by rw[<- hmp];exact List.mem_map.2 ⟨e,(oO he).1,rfl⟩
    obtain ⟨x,_,hx⟩:=List.mem_map.1 this
    exact ⟨x,hx.symm⟩
   have hval:e.val=kD x:=congrArg Prod.snd hx
   rw[hval] at hrun hent
   have hJ2:J ss w2:=hJ ss wr w2 (some W.heap.size) hJs hg2 (fun r e=>by cases e;exact ⟨Nat.le_refl _,_,hr,rfl⟩)
   have hJ3:=hJ ss w2 (w2.alloc (.cells #[.int .i64 x.sh,.int .i64 x.nu,.float .f32 x.pl,.float .f32 x.sp] 75)) none hJ2 (World.grownBy_alloc w2 _ none) (fun r e=>by cases e)
   obtain ⟨fn,tmps,assign,cG,hy,hR⟩:=hY ss x _ hJ3 (got.short he hmp)
   have hsf:=aK
   unfold kD at hrun hent hy
   clear hw2
   gi_wp2
   refine hR.mono ?_
   have hw2l:=hg2.size
   have hA:=World.grownBy_alloc w2 (.cells #[.int .i64 x.sh,.int .i64 x.nu,.float .f32 x.pl,.float .f32 x.sp] 75) none
   have hr2a:=(hA.block W.heap.size (by omega) (by simp)).trans hr2
   have hb2a:=(hA.block bm (by omega) (by simp)).trans hb2
   have hcount:seen.size<es.size:=by
    have h1:=got.short he hmp
    have h2:=congrArg List.length got.p
    have h3:=congrArg List.length got.s
    have h4:=congrArg List.length hmp
    simp at h2 h3 h4
    omega
   rintro e9 W3 (⟨rfl,hJ4,hk3⟩ | ⟨rfl,hJx3⟩)
   ·gi_wp2
    have hr3:=hk3.same W.heap.size _ hr2a rfl
    have hb3:=hk3.same bm _ hb2a rfl
    have hs3:W.heap.size<W3.heap.size:=(Array.getElem?_eq_some_iff.1 hr3).1
    go_roundw
    case rel=>exact ⟨sel++[e],ss++[x],seen.push e.born,hr3,hb3,got.step he hx,hs3,hJ4⟩
    case measure=>
     unfold aIB
     rw[hr3,hr]
     simp
     omega
   ·gi_wp2
    refine bodyPost_ret (results_none rfl _ _ _) rfl ?_
    exact ⟨⟨_,rfl⟩,.inr ⟨_,trivial,hJx3⟩⟩
theorem vO (F:Fence)(n:Nat)(hf:F.fn 166)(hro:F.round=none)(hn:1<=n)(Bm bm:Nat)(th:List It)(w:World)(hBm:Bm<w.heap.size)(hm:w.cell? ⟨Bm,0,none⟩=some (.map (some bm)))(hown:Mp w bm th):
  SeqStopsK F n prog 166 #[.pointer (some ⟨Bm,0,none⟩)] (fun x:It=>#[kD x]) KeepsWalks (fun ss=>ss.Perm th) (fun _=>True) th.length w:=fun l J Jx W hW hJ _ hY h0=>
 aAA F n hf hro hn l Bm bm th J Jx hY W hJ ((hW.cell (p:=⟨Bm,0,none⟩) hBm).trans hm) (hown.block (hW.block bm hown.lt)) h0
end Go.Proofs.YtammnaafdhhjaaaGreat
