import Derived.DeepKeys4
import Derived.Test.YtammnaafdhhjaaaGreatJG1
set_option maxHeartbeats 16000000
set_option maxRecDepth 100000
namespace Go.Proofs.YtammnaafdhhjaaaGreat
open Go.RowKit Go.MapKept Go.WideMaps Go.Proofs.Tryz
def mW (a b:Int):Value:=.agg #[.int .i64 a,.int .i64 b]
def kD (i:It):Value:=.agg #[.int .i64 i.sh,.int .i64 i.nu,.float .f32 i.pl,.float .f32 i.sp]
theorem Tryz.laidOutG:laidOutB prog=true:=by kernel_rfl
theorem aIz:(32:TypeId)<prog.types.size:=of_decide_eq_true (by kernel_rfl)
theorem aIP:(match prog.underlying 32 with | some (.array _ _) | some (.struct _)=>true | _=>false)=true:=by rw[underlying32]
theorem idLaw:KeyLaw prog 32:=deep_law_laid Tryz.laidOutG (m:=2) (by omega) aIz (by kernel_rfl) aIP
def bD (a:Int):Prop:=-9223372036854775808<=a/\a<=9223372036854775807
theorem aBJ:prog.cellsOf 32=2:=by kernel_rfl
theorem aEO:prog.cellsOf 3=1:=by kernel_rfl
theorem aCD:prog.keyType 32=true:=by kernel_rfl
theorem xE (a b:Int)(ha:bD a)(hb:bD b):∃l,keyOf prog 32 (mW a b)=some l:=by
 have wa:(Lit.int .i64 a).wf=true:=by simp[Lit.wf];exact ha
 have wb:(Lit.int .i64 b).wf=true:=by simp[Lit.wf];exact hb
 have hf:(mW a b).formed prog 32=true:=by
  unfold Value.formed mW
  rw[underlying32,aBJ]
  rfl
 have hp:0<prog.types.size:=Nat.lt_of_le_of_lt (Nat.zero_le _) aIz
 obtain ⟨n,hn⟩:∃n,prog.types.size+1=n+2:=⟨prog.types.size -1,by omega⟩
 have hi:∀x:Int,(Lit.int .i64 x).wf=true->prog.keyLits (n+1) 3 [.int .i64 x]=some [.int .i64 x]:=fun x hx=>by
  unfold Program.keyLits
  rw[underlying3]
  simp[hx]
 unfold keyOf
 rw[underlying32]
 simp only[aCD,hf,Bool.and_self,if_true]
 rw[hn]
 unfold Program.keyLits
 rw[underlying32,aBJ]
 simp[mW,Value.cells,aEO,hi a wa,hi b wb]
@[reducible] def It.same (i j:It):Prop:=i.sh=j.sh/\i.nu=j.nu
def eR (e:MapEntry):Value×Value:=(e.key,e.val)
def iI (i:It):Value×Value:=(mW i.sh i.nu,kD i)
theorem aBK {a b c d:Int}(h:mW a b=mW c d):a=c/\b=d:=by
 unfold mW at h
 injection h with h
 simp at h
 exact h
structure Mp (w:World)(bm:Nat)(th:List It):Prop where
 ex:∃es clock,w.heap[bm]?=some (.map es clock)/\Stamped es clock/\es.toList.map eR=th.map iI
 wf:∀i∈th,bD i.sh/\bD i.nu
theorem Mp.block {w w':World}{bm:Nat}{th:List It}(h:Mp w bm th)(e:w'.heap[bm]?=w.heap[bm]?):Mp w' bm th:=by
 obtain ⟨es,clock,hb,hs,hm⟩:=h.ex
 exact ⟨⟨es,clock,e.trans hb,hs,hm⟩,h.wf⟩
theorem Mp.lt {w:World}{bm:Nat}{th:List It}(h:Mp w bm th):bm<w.heap.size:=by
 obtain ⟨es,clock,hb,_⟩:=h.ex
 exact (Array.getElem?_eq_some_iff.1 hb).1
theorem Mp.only {w w':World}{bm:Nat}{th:List It}{A:Nat->Prop}(h:Mp w bm th)(o:Only w w' A)(hn:¬A bm):Mp w' bm th:=h.block (o.block bm h.lt hn)
theorem Mp.nd {w:World}{bm:Nat}{th:List It}(h:Mp w bm th):th.Pairwise (fun a b=>¬a.same b):=by
 obtain ⟨es,clock,_,hs,hm⟩:=h.ex
 have hk:(th.map (fun i=>mW i.sh i.nu))=es.toList.map (·.key):=by
  have:=congrArg (List.map Prod.fst) hm
  simpa [eR,iI,Function.comp_def] using this.symm
 have hnd:=hs.2.2
 rw[<- hk] at hnd
 refine (List.pairwise_map.1 hnd).imp (fun {a b} hne hs=>hne ?_)
 show mW _ _=mW _ _
 rw[hs.1,hs.2]
theorem Mp.keys {es:Array MapEntry}{th:List It}(hm:es.toList.map eR=th.map iI)(wf:∀i∈th,bD i.sh/\bD i.nu):∀e∈es.toList,∃l,keyOf prog 32 e.key=some l:=fun e he=>by
 have:eR e∈th.map iI:=by rw[<- hm];exact List.mem_map.2 ⟨e,he,rfl⟩
 obtain ⟨i,hi,h⟩:=List.mem_map.1 this
 have hk:e.key=mW i.sh i.nu:=(congrArg Prod.fst h).symm
 rw[hk]
 exact xE _ _ (wf i hi).1 (wf i hi).2
def dB (th:List It)(i:It):List It:=if th.any (fun x=>decide (x.same i))=true then th.map (fun x=>if x.same i then i else x) else th++[i]
def eJ (th:List It)(a b:Int):List It:=th.filter (fun x=> !decide (x.sh=a/\x.nu=b))
def cM (th:List It)(a b:Int):Bool:=th.any (fun x=>decide (x.sh=a/\x.nu=b))
theorem rL {th:List It}{a b:Int}(h0:cM th a b=false):eJ th a b=th:=by
 unfold eJ
 rw[List.filter_eq_self]
 intro x hx
 unfold cM at h0
 rw[List.any_eq_false] at h0
 have:=h0 x hx
 show (!decide (x.sh=a/\x.nu=b))=true
 rw[Bool.not_eq_true'] at *
 exact Bool.eq_false_iff.2 this
theorem aCE {th:List It}{j:Nat}{i:It}{a b:Int}(nd:th.Pairwise (fun a b=>¬a.same b))(hi:th[j]?=some i)(ea:i.sh=a)(eb:i.nu=b):th.eraseIdx j=eJ th a b:=by
 induction th generalizing j with
 | nil=>simp at hi
 | cons x t ih=>
  have hp:=List.pairwise_cons.1 nd
  cases j with
  | zero=>
   simp at hi
   subst hi
   have hno:cM t a b=false:=by
    unfold cM
    rw[List.any_eq_false]
    intro y hy hd
    have:=of_decide_eq_true hd
    exact hp.1 y hy ⟨by rw[ea,this.1],by rw[eb,this.2]⟩
   have:=rL hno
   unfold eJ at this ⊢
   rw[List.filter_cons_of_neg (by simp[ea,eb]),this]
   rfl
  | succ j=>
   have hi':t[j]?=some i:=by simpa using hi
   have hx:¬(x.sh=a/\x.nu=b):=fun e=>hp.1 i (List.mem_of_getElem? hi') ⟨by rw[e.1,ea],by rw[e.2,eb]⟩
   have:=ih hp.2 hi'
   unfold eJ at this ⊢
   rw[List.filter_cons_of_pos (by rw[decide_eq_false hx];rfl),<- this]
   rfl
theorem aHn {th:List It}{j:Nat}{y i:It}(nd:th.Pairwise (fun a b=>¬a.same b))(hi:th[j]?=some y)(ea:y.sh=i.sh)(eb:y.nu=i.nu):th.map (fun x=>if x.same i then i else x)=th.set j i:=by
 induction th generalizing j with
 | nil=>simp at hi
 | cons x t ih=>
  have hp:=List.pairwise_cons.1 nd
  cases j with
  | zero=>
   simp at hi
   subst hi
   rw[List.map_cons,if_pos ⟨ea,eb⟩,List.set_cons_zero]
   congr 1
   refine (List.map_congr_left (fun z hz=>?_)).trans (List.map_id t)
   rw[if_neg]
   ·rfl
   ·intro hs
    exact hp.1 z hz ⟨by rw[ea,hs.1],by rw[eb,hs.2]⟩
  | succ j=>
   have hi':t[j]?=some y:=by simpa using hi
   rw[List.map_cons,List.set_cons_succ,ih hp.2 hi',if_neg]
   intro hs
   exact hp.1 y (List.mem_of_getElem? hi') ⟨by rw[hs.1,ea],by rw[hs.2,eb]⟩
theorem Mp.find {w:World}{bm:Nat}{th:List It}(h:Mp w bm th)(a b:Int)(ha:bD a)(hb:bD b):∃es clock,w.heap[bm]?=some (.map es clock)/\Stamped es clock/\es.toList.map eR=th.map iI∧
  ((cM th a b=false/\(Instr.findKey 32 (mW a b) es.toList).run prog w=.ok none w)∨
   (cM th a b=true/\∃j i e,es.toList[j]?=some e/\th[j]?=some i/\i.sh=a/\i.nu=b/\e.key=mW a b/\(Instr.findKey 32 (mW a b) es.toList).run prog w=.ok (some (j,e.val)) w)):=by
 obtain ⟨es,clock,hbm,hs,hm⟩:=h.ex
 refine ⟨es,clock,hbm,hs,hm,?_⟩
 obtain ⟨l,hl⟩:=xE a b ha hb
 rcases idLaw.find w hl es.toList (Mp.keys hm h.wf) with ⟨hr,hno⟩ | ⟨j,e,hr,hj,hk⟩
 ·refine .inl ⟨?_,hr⟩
  unfold cM
  rw[List.any_eq_false]
  intro i hi hd
  have hd':=of_decide_eq_true hd
  have:iI i∈es.toList.map eR:=by rw[hm];exact List.mem_map.2 ⟨i,hi,rfl⟩
  obtain ⟨e,he,hh⟩:=List.mem_map.1 this
  refine hno e he ?_
  have:e.key=mW i.sh i.nu:=congrArg Prod.fst hh
  rw[this,hd'.1,hd'.2]
 ·have h1:(es.toList.map eR)[j]?=some (eR e):=by rw[List.getElem?_map,hj];rfl
  rw[hm,List.getElem?_map] at h1
  obtain ⟨i,hi,hh⟩:=Option.map_eq_some_iff.1 h1
  have hki:mW i.sh i.nu=e.key:=congrArg Prod.fst hh
  rw[hk] at hki
  obtain ⟨e1,e2⟩:=aBK hki
  refine .inr ⟨?_,j,i,e,hj,hi,e1,e2,hk,hr⟩
  unfold cM
  rw[List.any_eq_true]
  exact ⟨i,List.mem_of_getElem? hi,by simp[e1,e2]⟩
theorem Mp.len {w:World}{bm:Nat}{th:List It}(h:Mp w bm th):∃es clock,w.heap[bm]?=some (.map es clock)/\es.size=th.length:=by
 obtain ⟨es,clock,hbm,_,hm⟩:=h.ex
 refine ⟨es,clock,hbm,?_⟩
 have:=congrArg List.length hm
 simpa using this
theorem fE (w:World)(bm:Nat)(o:Obj):w.grownBy (ChangeMaps.setBlock w bm o) (some bm):=by
 refine ⟨rfl,rfl,rfl,by simp[ChangeMaps.setBlock],fun k hk hne=>?_⟩
 have:k≠bm:=fun e=>hne (by rw[e])
 simp[ChangeMaps.setBlock,Array.getElem?_setIfInBounds_ne (Ne.symm this)]
theorem jC (w:World)(bm:Nat)(o:Obj)(h:bm<w.heap.size):(ChangeMaps.setBlock w bm o).heap[bm]?=some o:=by
 simp[ChangeMaps.setBlock,h]
theorem Mp.drop {w:World}{bm:Nat}{th:List It}(h:Mp w bm th)(a b:Int)(ha:bD a)(hb:bD b):
  ∃w',(∀ty,(Builtin.delete_ #[128,32] ty #[.map (some bm),mW a b]).run prog w=.ok (.tuple #[]) w')/\Mp w' bm (eJ th a b)/\w.grownBy w' (some bm):=by
 have hlt:=h.lt
 obtain ⟨es,clock,hbm,hs,hm,hf⟩:=h.find a b ha hb
 obtain ⟨l,hl⟩:=xE a b ha hb
 have hwf:∀i∈eJ th a b,bD i.sh/\bD i.nu:=fun i hi=>h.wf i ((List.mem_filter.1 hi).1)
 rcases hf with ⟨h0,hr⟩ | ⟨h1,j,i,e,hj,hi,ea,eb,hk,hr⟩
 ·refine ⟨ChangeMaps.setBlock w bm (.map es clock),fun ty=>?_,⟨⟨es,clock,jC _ _ _ hlt,hs,?_⟩,hwf⟩,fE _ _ _⟩
  ·simp[Builtin.delete_,run_underlying underlying128,MapKept.run_getObj_map hbm,idLaw.check w _ hl,hr,MapKept.run_setObj_map _ hbm,Result.andThen,ChangeMaps.setBlock]
  ·rw[hm,rL h0]
 ·have hjl:j<es.toList.length:=(List.getElem?_eq_some_iff.1 hj).1
  have hjs:j<es.size:=by simpa using hjl
  have hsub:(es.eraseIdxIfInBounds j).toList=es.toList.eraseIdx j:=by
   unfold Array.eraseIdxIfInBounds
   rw[dif_pos hjs]
   simp
  refine ⟨ChangeMaps.setBlock w bm (.map (es.eraseIdxIfInBounds j) clock),fun ty=>?_,⟨⟨_,clock,jC _ _ _ hlt,stamped_erase hs j,?_⟩,hwf⟩,fE _ _ _⟩
  ·simp[Builtin.delete_,run_underlying underlying128,MapKept.run_getObj_map hbm,idLaw.check w _ hl,hr,MapKept.run_setObj_map _ hbm,Result.andThen,ChangeMaps.setBlock]
  ·rw[hsub,ChangeMaps.map_eraseIdx,hm,<- ChangeMaps.map_eraseIdx,aCE h.nd hi ea eb]
theorem Mp.store {w:World}{bm:Nat}{th:List It}(h:Mp w bm th)(i:It)(ha:bD i.sh)(hb:bD i.nu):
  ∃w',(Instr.mapUpdate 128 (.map (some bm)) (mW i.sh i.nu) (kD i)).run prog w=.ok () w'/\Mp w' bm (dB th i)/\w.grownBy w' (some bm):=by
 have hlt:=h.lt
 have hwf:∀x∈dB th i,bD x.sh/\bD x.nu:=fun x hx=>by
  unfold dB at hx
  split at hx
  ·obtain ⟨y,hy,rfl⟩:=List.mem_map.1 hx
   split
   ·exact ⟨ha,hb⟩
   ·exact h.wf y hy
  ·rcases List.mem_append.1 hx with hx | hx
   ·exact h.wf x hx
   ·rw[List.mem_singleton] at hx
    subst hx
    exact ⟨ha,hb⟩
 obtain ⟨es,clock,hbm,hs,hm,hf⟩:=h.find i.sh i.nu ha hb
 obtain ⟨l,hl⟩:=xE i.sh i.nu ha hb
 rcases hf with ⟨h0,hr⟩ | ⟨h1,j,y,e,hj,hi,ea,eb,hk,hr⟩
 ·have h2:∀x∈es.toList,x.key≠mW i.sh i.nu:=fun x hx hxk=>by
   have:eR x∈th.map iI:=by rw[<- hm];exact List.mem_map.2 ⟨x,hx,rfl⟩
   obtain ⟨z,hz,hh⟩:=List.mem_map.1 this
   have hzk:mW z.sh z.nu=x.key:=congrArg Prod.fst hh
   rw[hxk] at hzk
   obtain ⟨z1,z2⟩:=aBK hzk
   unfold cM at h0
   rw[List.any_eq_false] at h0
   exact h0 z hz (by simp[z1,z2])
  refine ⟨ChangeMaps.setBlock w bm (.map (es.push ⟨mW i.sh i.nu,kD i,clock⟩) (clock+1)),?_,⟨⟨_,_,jC _ _ _ hlt,stamped_push hs h2,?_⟩,hwf⟩,fE _ _ _⟩
  ·simp[Instr.mapUpdate,run_underlying underlying128,MapKept.run_getObj_map hbm,idLaw.check w false hl,hr,MapKept.run_setObj_map _ hbm,Result.andThen,ChangeMaps.setBlock]
  ·rw[Array.toList_push,List.map_append,hm]
   have:dB th i=th++[i]:=by
    unfold dB
    rw[if_neg]
    rw[Bool.not_eq_true]
    exact h0
   rw[this,List.map_append]
   rfl
 ·have hj':es[j]?=some e:=by simpa using hj
  have hkeyf:∀e',es[j]?=some e'->({e' with key:=mW i.sh i.nu,val:=kD i}:MapEntry).key=e'.key:=fun e' he'=>by rw[hj'] at he';cases he';exact hk.symm
  have hlist:(es.modify j (fun e'=>{e' with key:=mW i.sh i.nu,val:=kD i})).toList=es.toList.set j {e with key:=mW i.sh i.nu,val:=kD i}:=by rw[Array.toList_modify,ChangeMaps.modify_eq_set _ _ _ _ hj]
  refine ⟨ChangeMaps.setBlock w bm (.map (es.modify j (fun e'=>{e' with key:=mW i.sh i.nu,val:=kD i})) clock),?_,⟨⟨_,_,jC _ _ _ hlt,stamped_modify hs _ _ (fun _ _=>rfl) (fun e' _ he'=>hkeyf e' he'),?_⟩,hwf⟩,fE _ _ _⟩
  ·simp[Instr.mapUpdate,run_underlying underlying128,MapKept.run_getObj_map hbm,idLaw.check w false hl,hr,hj',hk,idLaw.stays w hl,MapKept.run_setObj_map _ hbm,Result.andThen,ChangeMaps.setBlock]
  ·rw[hlist,List.map_set,hm]
   have:dB th i=th.set j i:=by
    unfold dB
    rw[if_pos (by exact h1),aHn h.nd hi ea eb]
   rw[this,List.map_set]
   rfl
end Go.Proofs.YtammnaafdhhjaaaGreat
namespace Go.Proofs.YtammnaafdhhjaaaGreat
open Go.RowKit Go.MapKept Go.WideMaps Go.Proofs.Tryz
theorem tQ {w W w':World}{b:Nat}(g:W.grownBy w' (some b))(h:w.grownBy W none):w.grownBy w' (some b):=
 ⟨g.os.trans h.os,g.tape.trans h.tape,g.output.trans h.output,Nat.le_trans h.size g.size,fun k hk hn=>by
  have hz:=h.size
  rw[g.block k (by omega) hn,h.block k hk (by simp)]⟩
theorem iV (b o bm:Nat)(th:List It)(i:It)(w:World)(hc:w.cell? ⟨b,o,none⟩=some (.map (some bm)))(hm:Mp w bm th)(ha:bD i.sh)(hb:bD i.nu):
  Calls prog 142 #[.pointer (some ⟨b,o,none⟩),kD i] w fun e w'=>e=.returned (.tuple #[])/\Mp w' bm (dB th i)/\w.grownBy w' (some bm):=by
 have HM:=Hid.mk' hm
 have hlt:=hm.lt
 have hbl:b<w.heap.size:=World.block_lt_of_cell? w _ hc
 clear hm
 have hne:¬b=w.heap.size:=by omega
 unfold kD
 go_enter func142,ntmps142
 go_wp2_with fail
 have M1:Hid (Mp ((w.alloc (.cells #[.int .i64 i.sh,.int .i64 i.nu,.float .f32 i.pl,.float .f32 i.sp] 75)).drew) bm th):=HM.out.only ((Only.grown (World.grownBy_alloc w _ none)).drew) (by simp)
 obtain ⟨w1,hrun,m1,g1⟩:=M1.out.store i ha hb
 have MM:=Hid.mk' m1
 have GG:=Hid.mk' g1
 clear m1 g1
 unfold mW kD at hrun
 go_region
 all_goals
  refine bodyPost_end (v:=.tuple #[]) (by simp[results,results142]) rfl ⟨rfl,MM.out,tQ GG.out (aA (World.grownBy_alloc w _ none))⟩
end Go.Proofs.YtammnaafdhhjaaaGreat
