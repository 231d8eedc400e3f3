import Derived.Lib.OwnBridge
import Derived.Test.YtammnaafdhhjaaaGreatK3
set_option maxHeartbeats 16000000
set_option maxRecDepth 100000
namespace Go.Proofs.YtammnaafdhhjaaaGreat
open Go.RowKit Go.Shelf Go.Lib Go.Sort Go.Proofs.Tryz
theorem rW (w:World)(os:Array Obj):w.grownBy (grow w os) none:=by
 refine ⟨rfl,rfl,rfl,by simp[grow],fun k hk _=>?_⟩
 simp[grow,Array.getElem?_append_left hk]
theorem pW (w:World)(q:Nat):w.grownBy (Sort.ahead w q) none:=⟨rfl,rfl,rfl,Nat.le_refl _,fun _ _ _=>rfl⟩
theorem aDf [Inhabited It](w:World)(g:Nat)(d:Array It):w.grownBy (putRowK It.cells 4 w g 0 d) (some g):=by
 refine ⟨rfl,rfl,rfl,by simp[putRowK,putRow,mapBlock],fun k _ hn=>?_⟩
 have hne:g≠k:=fun e=>hn (by rw[e])
 simp[putRowK,putRow,mapBlock,Array.getElem?_modify,hne]
theorem xU [Inhabited It]{w:World}{B:Nat}{e:TypeId}{g n cap:Nat}{xs:List Value}{d:Array It}(h:w.ownsRow B e 4 (.slice (some ⟨g,0,none⟩) n cap) n xs)(hd:d.size=n):
  (putRowK It.cells 4 w g 0 d).ownsRow B e 4 (.slice (some ⟨g,0,none⟩) n cap) n (d.toList.flatMap It.cells):=by
 rcases h.2 with ⟨e0,_⟩ | ⟨g',cap',cur,e0,hb,hg,hn,hm,hs,ht⟩
 ·cases e0
 ·injection e0 with e1 _ e3
  injection e1 with e1
  injection e1 with e1
  subst e1;subst e3
  refine ⟨by rw[mH];simp[hd],.inr ⟨g,cap,putCells id 0 (flatK It.cells 4 d) cur,rfl,hb,?_,hn,hm,by simpa [putCells] using hs,?_⟩⟩
  ·simp[putRowK,putRow,mapBlock,Array.getElem?_modify,hg,onCells]
  ·rw[<- pV]
   apply List.ext_getElem?
   intro j
   rw[List.getElem?_take,Array.getElem?_toList,Array.getElem?_toList]
   by_cases hj:j<n * 4
   ·have hjc:j<cur.size:=by omega
    simp only[if_pos hj,putCells,Array.getElem?_mapIdx,Array.getElem?_eq_getElem hjc,Option.map_some]
    rw[if_pos (by simp[hd];omega),Array.getElem?_eq_getElem (by simp[hd];omega)]
    simp[getElem!_pos,hd,hj]
   ·rw[if_neg hj,Array.getElem?_eq_none (by simp[hd];omega)]
def Srt (l:List It):Prop:=l.Pairwise (fun a b=>ltOf lT b a=false)
theorem aIZ [Inhabited It]{d:Array It}(h:SortedIn (ltOf lT) 0 d.size d):Srt d.toList:=by
 refine List.pairwise_iff_getElem.2 (fun i j hi hj hij=>?_)
 have hi':i<d.size:=by simpa using hi
 have hj':j<d.size:=by simpa using hj
 have:=h i j (Nat.zero_le _) hij hj'
 rw[getElem!_pos d i hi',getElem!_pos d j hj'] at this
 simpa using this
theorem sZ (ss:List It)(v:Value)(B:Nat)(w:World)(h:w.ownsRow B 75 4 v ss.length (ss.flatMap It.cells))(hl:ss.length<=1000):
  Calls prog 165 #[v,.func (.func 137) #[] #[]] w fun e w'=>e=.returned (.tuple #[])/\∃ss':List It,ss'.Perm ss/\Srt ss'/\w'.ownsRow B 75 4 v ss'.length (ss'.flatMap It.cells)/\w.grownBy w' v.ownBlock:=by
 have inh:Inhabited It:=⟨bT⟩
 by_cases hp:0<ss.length
 ·obtain ⟨g,cap,rfl⟩:∃g cap,v=.slice (some ⟨g,0,none⟩) ss.length cap:=by
   rcases h.2 with ⟨_,h'⟩ | ⟨g,cap,cur,h',_⟩
   ·omega
   ·exact ⟨g,cap,h'⟩
  have hlt:g<w.heap.size:=(h.lt g rfl).2
  have eg:∀args w,(callFunc 137 args).run prog w=.ok (.enter 137 args) w:=enters_of func137 (by kernel_rfl) rfl
  have hH:HoldsK It.cells 4 w g 0 ss.toArray:=fun j hj=>by
   rw[size_flatK] at hj
   have hj':j<ss.length * 4:=by simpa using hj
   refine ⟨?_,by rw[Nat.zero_add];exact h.frozenAt j⟩
   rw[Nat.zero_add,h.cellAt j hj']
   have e2:(flatK It.cells 4 ss.toArray).toList[j]?=some (flatK It.cells 4 ss.toArray)[j]! :=by
    rw[Array.getElem?_toList,Array.getElem?_eq_getElem (by simpa using hj),getElem!_pos _ j (by simpa using hj)]
   rw[pV] at e2
   exact e2
  have hcon:=AnyQ.slices_SortFunc Tryz.sortItems 4 Tryz.isAgg75 Tryz.sizeOf75 It.cells (fun _=>rfl) (fun x v hv=>by simp[It.cells] at hv;rcases hv with rfl | rfl | rfl | rfl<;>rfl) lT aIY 137 #[] g 0 cap ss.toArray w eg (aHv g 0 ss.toArray.size w) hH hlt (by simp;omega)
  change Calls prog 165 _ _ _ at hcon
  refine Calls.mono hcon ?_
  rintro e w' ⟨rfl,d,n,os,hperm,hsort,rfl⟩
  have hds:d.size=ss.length:=by have:=hperm.1;simpa using this
  have hpm:d.toList.Perm ss:=by
   have:=hperm.2.2
   rw[show (ss.toArray.size)=d.size by simp[hds]] at this
   have hp2:(List.take ss.length d.toList).Perm ss:=by simpa [hds] using this
   rwa [List.take_of_length_le (by simp[hds])] at hp2
  refine ⟨rfl,d.toList,hpm,aIZ (by rw[show d.size=ss.toArray.size by simp[hds]];exact hsort),?_,?_⟩
  ·rw[show d.toList.length=ss.length by simp[hds]]
   exact aO (xU (aO h (pW w n)) hds) (rW _ os)
  ·have g1:=pW w n
   have g2:=aDf (Sort.ahead w n) g d
   have g3:=rW (putRowK It.cells 4 (Sort.ahead w n) g 0 d) os
   exact ⟨rfl,rfl,rfl,Nat.le_trans g2.size g3.size,fun k hk hn=>by
    rw[show (sortWorldK It.cells 4 w g 0 n d os).heap[k]?=(putRowK It.cells 4 (Sort.ahead w n) g 0 d).heap[k]? from g3.block k (Nat.lt_of_lt_of_le hk g2.size) (by simp)]
    exact g2.block k hk hn⟩
 ·have e0:ss=[]:=List.eq_nil_of_length_eq_zero (by omega)
  subst e0
  obtain ⟨a,c,rfl⟩:=aJ h
  have hcon:=AnyF.slices_SortFunc_none Tryz.sortItems a c (.func (.func 137) #[] #[]) w
  change Calls prog 165 _ _ _ at hcon
  refine Calls.mono hcon ?_
  rintro e w' ⟨rfl,rfl⟩
  exact ⟨rfl,[],List.Perm.refl _,List.Pairwise.nil,h,aD _ _⟩
theorem rX (g:Nat)(lb:Array Value)(eg:∀args w,(callFunc g args).run prog w=.ok (.enter g args) w)(th:List It)(hN:th.length<=1000)(w:World)
  (hseq:SeqStopsK Fence.wide 1 prog g lb (fun x:It=>#[kD x]) KeepsWalks (fun ss=>ss.Perm th) (fun _=>True) th.length w):
  Calls prog 135 #[.func (.func g) #[] lb,.func (.func 137) #[] #[]] w fun e w'=>∃v,∃ss:List It,e=.returned v/\ss.Perm th/\Srt ss/\w'.ownsRow w.heap.size 75 4 v ss.length (ss.flatMap It.cells)/\w.grownBy w' none:=by
 have hcol:=callsIn_wide.1 (aAB Fence.wide 3 trivial trivial rfl (by omega) g lb trivial eg th hN w hseq)
 go_enter func135,ntmps135
 go_wp2_with fail
 refine Calls.mono hcol ?_
 rintro e w1 ⟨v,ss,rfl,hp,hr,hb⟩
 have hlen:ss.length<=1000:=by rw[hp.length_eq];exact hN
 have g1:w.grownBy w1 none:=⟨hb.os,hb.tape,hb.output,hb.size,fun k hk _=>hb.block k hk⟩
 have HR:=Hid.mk' hr
 have HP:=Hid.mk' hp
 have G1:=Hid.mk' g1
 clear hr hp g1 hb
 go_wp2_with fail
 refine Calls.mono (sZ ss v w.heap.size w1 HR.out hlen) ?_
 rintro e w2 ⟨rfl,ss',hp',hs',hr',g2⟩
 go_wp2
 go_ret
 exact ⟨v,ss',rfl,hp'.trans HP.out,hs',hr',dL g2 G1.out (fun j hj=>(HR.out.lt j hj).1)⟩
theorem lU (b o bm:Nat)(th:List It)(w:World)(hc:w.cell? ⟨b,o,none⟩=some (.map (some bm)))(hm:Mp w bm th)(hl:th.length<=1000):
  Calls prog 83 #[.pointer (some ⟨b,o,none⟩)] w fun e w'=>∃v,∃ss:List It,e=.returned v/\ss.Perm th/\Srt ss/\OwnI w.heap.size w' v ss/\w.grownBy w' none:=by
 have HM:=Hid.mk' hm
 clear hm
 have eg:∀args w,(callFunc 166 args).run prog w=.ok (.enter 166 args) w:=enters_of func166 (by kernel_rfl) rfl
 have G0:=Hid.mk' (World.grownBy_alloc w (.cells #[.map (some bm)] 128) none)
 have A0:=Hid.mk' (At.new w [.map (some bm)] 128)
 have hseq:=vO Fence.wide 1 trivial rfl (by omega) w.heap.size bm th (w.alloc (.cells #[.map (some bm)] 128)) (by simp) (A0.out.c 0 _ rfl) (HM.out.only (Only.grown G0.out) (by simp))
 have SF:=Hid.mk' (rX 166 #[.pointer (some ⟨w.heap.size,0,none⟩)] eg th hl _ hseq)
 have VI:=Hid.mk' (callsIn_wide.1 (aDe Fence.wide 1 trivial rfl (some bm) w))
 clear hseq eg
 go_enter func83,ntmps83
 go_wp2_with fail
 refine Calls.mono VI.out ?_
 rintro e w1 ⟨rfl,rfl⟩
 go_wp2_with fail
 refine Calls.mono SF.out ?_
 rintro e w2 ⟨v,ss,rfl,hp,hs,hr,g2⟩
 go_wp2
 go_ret
 exact ⟨v,ss,rfl,hp,hs,bP hr (by simp),G0.out.trans g2⟩
end Go.Proofs.YtammnaafdhhjaaaGreat
