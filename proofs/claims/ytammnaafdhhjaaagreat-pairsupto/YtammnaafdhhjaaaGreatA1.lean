import Derived.Shelf.SlicesE.Delete
import Derived.Shelf.Strconv.Clone
import Derived.Test.YtammnaafdhhjaaaGreatJX1
import Derived.Test.YtammnaafdhhjaaaGreatJG1
set_option maxHeartbeats 16000000
set_option maxRecDepth 100000
namespace Go.Proofs.YtammnaafdhhjaaaGreat
open Go.RowKit Go.Shelf Go.Lib Go.Sort Go.Proofs.Tryz
shelf_lay_g SlLaysE.n45 Slgn 45 at Tryz 128 as Tryz.delT
shelf_lay LaysM.n316 Nm 316 at Tryz as Tryz.cloneS
def tx (l:List UInt8):Tx:=⟨S l⟩
def OwnF (B:Nat)(w:World)(v:Value)(fs:List (List UInt8)):Prop:=OwnT B w v (fs.map tx)
theorem vA {w:World}{ops:Array Oper}{rest:List Oper}{o:Oper}{a:Act}{Q:Exit->Act->World->Prop}(hgd:o.guard=none)(s x:Operand)
  (ho:o.op=.call {callee:=.builtin .append,args:=#[s,x],argTypes:=#[104,104]})
  (B:Nat) (v:Value) (l:List Tx) (hs:a.eval s=v) (hown:OwnT B w v l) (ad:Addr) (i:Tx) (hx:a.eval x=.slice (some ad) 1 1)
  (hnews:∀j u,i.cells[j]?=some u->w.cell? (ad.add j)=some u) (hl:l.length+1<=1000000) (hB:B<=w.heap.size)
  (h:∀v' w',OwnT B w' v' (l++[i])->w.grownBy w' v.ownBlock->(v'.ownBlock=v.ownBlock∨v'.ownBlock=some w.heap.size)->wpList prog ops Q rest (a.put o.dst v') w'):wpList prog ops Q (o::rest) a w:=by
 obtain ⟨i0,hi,hz0,hz1,hz2⟩:=lN
 refine wpList_append_own_at w hgd s x _ ho B 9 i0 _ 1 16 underlying104 hi hz0 hz1 hz2 rfl (by decide) v l.length (l.flatMap Tx.cells) hs hown ad 1 1 i.cells hx rfl hnews ?_ ?_ ?_ hB ?_
 ·intro u hu;simp[Tx.cells] at hu;rcases hu with rfl;rfl
 ·unfold maxLen;omega
 ·omega
 ·intro v' w' h1 h2 _ h4
  refine h v' w' ?_ h2 h4
  unfold OwnT;rw[List.length_append,List.flatMap_append];simpa using h1
def dX (fs:List (List UInt8))(t:List UInt8):List (List UInt8):=if fs.length<32 then fs++[t] else fs
theorem vB (bp k:Nat)(cs:List Value)(B:Nat)(v:Value)(fs:List (List UInt8))(t:List UInt8)(w:World)(h:At w bp cs)(hk:cs[k]?=some v)(ho:OwnF B w v fs)(hn:v.ownBlock≠some bp)(hB:B<=w.heap.size):
  Calls prog 71 #[.pointer (some ⟨bp,k,none⟩),.string (S t)] w fun e w'=>e=.returned (.tuple #[])/\∃v',At w' bp (cs.set k v')/\OwnF B w' v' (dX fs t)/\Only w w' (fun j=>j=bp∨v.ownBlock=some j)/\(∀j,v'.ownBlock=some j->v.ownBlock=some j∨w.heap.size<=j):=by
 obtain ⟨a,c,rfl⟩:=aJ ho
 rw[List.length_map] at *
 have H:=Hid.mk' h
 have HO:=Hid.mk' ho
 have HN:=Hid.mk' hn
 have HK:=Hid.mk' hk
 have ck:=h.c k _ hk
 have hf:=h.f
 have hlt:=h.lt
 have kl:Hid (k<cs.length):=(List.getElem?_eq_some_iff.1 hk).1
 clear h ho hn hk
 unfold dX
 by_cases hl:fs.length<32
 ·rw[if_pos hl]
  have hl':(fs.length:Int)<32:=by omega
  have hl2:Hid ((fs.map tx).length+1<=1000000):=by show _<=_;simp;omega
  have OA:Hid (∀o,OwnT B (w.alloc o) (.slice a fs.length c) (fs.map tx)):=fun o=>World.ownsRow.alloc HO.out o
  clear hl
  go_enter func71,ntmps71
  go_wp2_with (at_builtin;refine vA rfl _ _ rfl B (.slice a fs.length c) (fs.map tx) rfl (OA.out _) ⟨w.heap.size,0,none⟩ (tx t) rfl (aW w (tx t).cells _ _ rfl) hl2.out (by simp;omega) ?_;intro v1 w1 r1 g1 h1;obtain ⟨a1,c1,rfl⟩:=aJ r1;have A1:=Hid.mk' ((H.out.grown (World.grownBy_alloc w _ none)).only (Only.grown g1) HN.out);have fs1:=A1.out.f;have ck1:=A1.out.c k _ HK.out)
  refine bodyPost_end (v:=.tuple #[]) (by simp[results,results71]) rfl ⟨rfl,.slice a1 ((fs.map tx).length+1) c1,?_⟩
  have hv:∀j,Value.ownBlock (.slice a1 (((fs.map tx)++[tx t]).length) c1)=some j->Value.ownBlock (.slice a fs.length c)=some j∨w.heap.size<=j:=fun j hj=>by
   rcases h1 with e | e
   ·rw[e] at hj;exact .inl hj
   ·rw[e] at hj;injection hj with hj;exact .inr (by simp at hj;omega)
  have e0:(fs.map tx).length+1=((fs.map tx)++[tx t]).length:=by simp
  refine ⟨?_,?_,?_,?_⟩
  ·have:=A1.out.put k (.slice a1 ((fs.map tx).length+1) c1) kl.out
   simpa using this
  ·unfold OwnF
   rw[List.map_append]
   rw[e0]
   have:=aH r1 bp k (.slice a1 (((fs.map tx)++[tx t]).length) c1) (fun e=>by
    rcases hv bp e with e | e
    ·exact HN.out e
    ·omega)
   unfold OwnT
   simpa using this
  ·refine ((Only.grown (World.grownBy_alloc w _ none)).mono (by simp)).trans (((Only.grown g1).mono (fun j _ e=>.inl (.inr e))).trans ?_)
   exact (Only.set w1 bp k _).mono (fun j _ e=>.inl (.inl (.inl e)))
  ·rw[e0];exact hv
 ·rw[if_neg hl]
  have hl':¬(fs.length:Int)<32:=by omega
  clear hl
  go_enter func71,ntmps71
  go_wp2
  refine bodyPost_end (v:=.tuple #[]) (by simp[results,results71]) rfl ⟨rfl,.slice a fs.length c,?_,HO.out,Only.refl _ _,fun j hj=>.inl hj⟩
  have:cs.set k (.slice a fs.length c)=cs:=by
   apply List.ext_getElem?
   intro j
   by_cases hj:k=j
   ·subst hj
    rw[List.getElem?_set_self kl.out,HK.out]
   ·rw[List.getElem?_set_ne hj]
  rw[this]
  exact H.out
@[reducible] def oF (fs:List (List UInt8)) (k:Int):Prop:=0<=k/\k<fs.length
def lH (fs:List (List UInt8))(k:Int):List UInt8:=if oF fs k then fs.getD k.toNat [] else []
def eK (fs:List (List UInt8))(k:Int):Int:=if oF fs k then 0 else 4
theorem OwnF.cell {B:Nat}{w:World}{v:Value}{fs:List (List UInt8)}(h:OwnF B w v fs){k:Nat}(hk:k<fs.length):∃g c,v=.slice (some ⟨g,0,none⟩) fs.length c/\w.cell? ⟨g,k,none⟩=some (.string (S (fs.getD k [])))/\∀j,j<fs.length->w.frozen? ⟨g,j,none⟩=false:=by
 have h0:=h
 have hl:(fs.map tx).length=fs.length:=by simp
 rcases h.2 with ⟨h',h1⟩ | ⟨g,cap,cur,h',h1,h2,h3,h4,h5,h6⟩
 ·omega
 ·refine ⟨g,cap,by rw[h',hl],?_,?_⟩
  ·subst h'
   have:=h0.cellAt k (by rw[hl];omega)
   rw[this]
   have e:∀(l:List (List UInt8)) (k:Nat),k<l.length->((l.map tx).flatMap Tx.cells)[k]?=some (.string (S (l.getD k []))):=by
    intro l
    induction l with
    | nil=>intro k hk;simp at hk
    | cons x l ih=>
     intro k hk
     cases k with
     | zero=>rfl
     | succ k=>simpa [Tx.cells] using ih k (by simpa using hk)
   exact e fs k hk
  ·intro j hj
   subst h'
   exact h0.frozenAt j
theorem aBI {w:World}{B:Nat}{e:TypeId}{size g n m cap:Nat}{xs:List Value}(h:w.ownsRow B e size (.slice (some ⟨g,0,none⟩) n cap) n xs)(hm:m<=n):w.ownsRow B e size (.slice (some ⟨g,0,none⟩) m cap) m (xs.take (m * size)):=by
 have hml:m * size<=n * size:=Nat.mul_le_mul_right _ hm
 rcases h.2 with ⟨h',_⟩ | ⟨g',cap',cur,h',hb,hg,hnc,hcm,hcs,ht⟩
 ·simp at h'
 ·simp only[Value.slice.injEq,Option.some.injEq,Addr.mk.injEq,and_true,true_and] at h'
  obtain ⟨rfl,rfl⟩:=h'
  refine ⟨by rw[List.length_take,h.1];omega,.inr ⟨g,cap,cur,rfl,hb,hg,by omega,hcm,hcs,?_⟩⟩
  rw[<- ht,List.take_take,Nat.min_eq_left hml]
theorem xC {α:Type} [Inhabited α](enc:α->Value){w:World}{B:Nat}{e:TypeId}{g n cap:Nat}{xs:List Value}{d:Array α}(h:w.ownsRow B e 1 (.slice (some ⟨g,0,none⟩) n cap) n xs)(hd:d.size=n):
  (putRow enc w g 0 d).ownsRow B e 1 (.slice (some ⟨g,0,none⟩) n cap) n (d.toList.map enc):=by
 rcases h.2 with ⟨e0,_⟩ | ⟨g',cap',cur,e0,hb,hg,hn,hm,hs,ht⟩
 ·cases e0
 ·simp only[Value.slice.injEq,Option.some.injEq,Addr.mk.injEq,and_true,true_and] at e0
  obtain ⟨rfl,rfl⟩:=e0
  refine ⟨by simp[hd],.inr ⟨g,cap,putCells enc 0 d cur,rfl,hb,?_,hn,hm,by simpa [putCells] using hs,?_⟩⟩
  ·simp[putRow,mapBlock,Array.getElem?_modify,hg,onCells]
  ·apply List.ext_getElem?
   intro j
   rw[List.getElem?_take,Array.getElem?_toList,List.getElem?_map,Array.getElem?_toList]
   by_cases hj:j<n * 1
   ·have hjc:j<cur.size:=by omega
    have hjd:j<d.size:=by omega
    simp only[if_pos hj,putCells,Array.getElem?_mapIdx,Array.getElem?_eq_getElem hjc,Option.map_some]
    rw[if_pos (by omega),Array.getElem?_eq_getElem hjd]
    simp[getElem!_pos,hjd]
   ·rw[if_neg hj,Array.getElem?_eq_none (by omega)];rfl
theorem aAk {α:Type} [Inhabited α](enc:α->Value)(w:World)(g:Nat)(d:Array α):w.grownBy (putRow enc w g 0 d) (some g):=by
 refine ⟨rfl,rfl,rfl,by simp[putRow,mapBlock],fun k _ hn=>?_⟩
 have hne:g≠k:=fun e=>hn (by rw[e])
 simp[putRow,mapBlock,Array.getElem?_modify,hne]
theorem oG (w:World)(q:Nat):w.grownBy (Sort.ahead w q) none:=⟨rfl,rfl,rfl,Nat.le_refl _,fun _ _ _=>rfl⟩
theorem aAl {w W w':World}{b:Nat}(g:W.grownBy w' (some b))(h:w.grownBy W none):w.grownBy w' (some b):=
 ⟨g.os.trans h.os,g.tape.trans h.tape,g.output.trans h.output,Nat.le_trans h.size g.size,fun k hk hn=>by rw[g.block k (Nat.lt_of_lt_of_le hk h.size) hn,h.block k hk (by simp)]⟩
theorem qM (bp k:Nat)(v:Value)(B:Nat)(fs:List (List UInt8))(i:Int)(w:World)(h:w.cell? ⟨bp,k,none⟩=some v)(ho:OwnF B w v fs):
  Calls prog 127 #[.pointer (some ⟨bp,k,none⟩),.int .i64 i] w fun e w'=>e=.returned (.tuple #[.string (S (lH fs i)),.int .i64 (eK fs i)])/\w'=w:=by
 obtain ⟨a,c,hv⟩:=aJ ho
 rw[List.length_map] at hv
 by_cases hk:oF fs i
 ·have e1:lH fs i=fs.getD i.toNat []:=if_pos hk
  have e2:eK fs i=0:=if_pos hk
  obtain ⟨n,rfl⟩:∃n:Nat,i=n:=⟨i.toNat,by unfold oF at hk;omega⟩
  have hn:n<fs.length:=by unfold oF at hk;omega
  obtain ⟨g,c',hv',hc,_⟩:=ho.cell hn
  rw[e1,e2]
  simp only[Int.toNat_natCast]
  generalize fs.getD n []=t at *
  subst hv'
  have x0:¬(n:Int)<0:=by omega
  have x1:(n:Int)<(fs.length:Int):=by omega
  have x2:(0:Int)<=(n:Int):=by omega
  have x3:¬(fs.length:Int)<=(n:Int):=by omega
  clear ho hv hk e1 e2
  go_enter func127,ntmps127
  go_wp2
  go_ret2
  exact ⟨rfl,rfl⟩
 ·have e1:lH fs i=[]:=if_neg hk
  have e2:eK fs i=4:=if_neg hk
  rw[e1,e2]
  subst hv
  have e3:S []=⟨#[]⟩:=rfl
  rw[e3]
  unfold oF at hk
  clear ho e1 e2 e3
  by_cases h0:i<0
  ·go_enter func127,ntmps127
   go_wp2
   go_ret2
   exact ⟨rfl,rfl⟩
  ·have h1:(fs.length:Int)<=i:=by omega
   go_enter func127,ntmps127
   go_wp2
   go_ret2
   exact ⟨rfl,rfl⟩
theorem aEM (fs:List (List UInt8)):(fs.map tx).flatMap Tx.cells=fs.map (fun l=>Value.string (S l)):=by
 induction fs with
 | nil=>rfl
 | cons x l ih=>simp[Tx.cells,tx] at ih ⊢;exact ih
def pU (l:List UInt8):Value:=.string (S l)
theorem aEN (B:Nat)(v:Value)(fs:List (List UInt8))(n:Nat)(w:World)(ho:OwnF B w v fs)(hn:n<fs.length):
  Calls prog 128 #[v,.int .i64 n,.int .i64 (n+1:Int)] w fun e w'=>∃v',e=.returned v'/\OwnF B w' v' (fs.eraseIdx n)/\v'.ownBlock=v.ownBlock/\w.grownBy w' v.ownBlock:=by
 obtain ⟨g,c,rfl,_,_⟩:=ho.cell hn
 have ho':w.ownsRow B 9 1 (.slice (some ⟨g,0,none⟩) fs.length c) fs.length (fs.map pU):=by
  have:=ho
  unfold OwnF OwnT at this
  rw[aEM,List.length_map] at this
  exact this
 have hc:fs.length<=c/\c<=maxLen:=by
  rcases ho'.2 with ⟨h',_⟩ | ⟨g',cap',cur,h',hb,hg,hnc,hcm,hcs,ht⟩
  ·simp at h'
  ·simp only[Value.slice.injEq,Option.some.injEq,Addr.mk.injEq,and_true,true_and] at h'
   obtain ⟨rfl,rfl⟩:=h'
   exact ⟨hnc,hcm⟩
 obtain ⟨i0,hi,hz0,hz1,hz2⟩:=lN
 have hH:Holds pU w g 0 fs.toArray:=fun j hj=>by
  have hj':j<fs.length:=by simpa using hj
  refine ⟨?_,by rw[Nat.zero_add];exact ho'.frozenAt j⟩
  rw[Nat.zero_add,ho'.cellAt j (by omega)]
  simp[hj',getElem!_pos]
 have hcon:=AnyE.slices_Delete Tryz.delT pU (fun _=>rfl) [] Tryz.zeroValue9 i0 hi hz1 g 0 c n (n+1) fs.toArray w hH (by simpa using hc.1) (by have:=hc.2;unfold maxLen at this;omega) (by omega) (by simp;omega)
 change Calls prog 128 _ _ _ at hcon
 have e1:((n+1:Nat):Int)=(n:Int)+1:=by omega
 rw[e1] at hcon
 simp only[List.size_toArray] at hcon
 refine Calls.mono hcon ?_
 rintro e w' ⟨rfl,q,rfl⟩
 have e2:fs.length -(n+1 -n)=fs.length -1:=by omega
 have e3:n+1 -n=1:=by omega
 rw[e2,e3]
 refine ⟨_,rfl,?_,rfl,?_⟩
 ·have gA:=oG w q
  have oA:(Sort.ahead w q).ownsRow B 9 1 (.slice (some ⟨g,0,none⟩) fs.length c) fs.length (fs.map pU):=aO ho' gA
  have:=aBI (xC pU (d:=(fs.take n++fs.drop (n+1)++List.replicate 1 []).toArray) oA (by simp;omega)) (show fs.length -1<=fs.length by omega)
  unfold OwnF OwnT
  rw[aEM,List.length_map,List.length_eraseIdx_of_lt hn]
  have e4:List.take ((fs.length -1) * 1) (List.map pU (fs.take n++fs.drop (n+1)++List.replicate 1 []).toArray.toList)=List.map pU (fs.eraseIdx n):=by
   rw[List.eraseIdx_eq_take_drop_succ]
   simp only[List.map_append]
   rw[List.take_append_of_le_length (by simp;omega),List.take_of_length_le (by simp;omega)]
  rw[e4] at this
  exact this
 ·exact aAl (aAk pU _ g _) (oG w q)
def fB (fs:List (List UInt8))(k:Int):List (List UInt8):=if oF fs k then fs.eraseIdx k.toNat else fs
theorem xD (bp k:Nat)(cs:List Value)(B:Nat)(v:Value)(fs:List (List UInt8))(i:Int)(w:World)(h:At w bp cs)(hk:cs[k]?=some v)(ho:OwnF B w v fs)(hn:v.ownBlock≠some bp)(hl:fs.length<=32):
  Calls prog 73 #[.pointer (some ⟨bp,k,none⟩),.int .i64 i] w fun e w'=>e=.returned (.tuple #[.string (S (lH fs i)),.int .i64 (eK fs i)])/\∃v',At w' bp (cs.set k v')/\OwnF B w' v' (fB fs i)/\Only w w' (fun j=>j=bp∨v.ownBlock=some j)/\(∀j,v'.ownBlock=some j->v.ownBlock=some j):=by
 have kl:k<cs.length:=(List.getElem?_eq_some_iff.1 hk).1
 have AT:=Hid.mk' (qM bp k v B fs i w (h.c k _ hk) ho)
 by_cases hi:oF fs i
 ·have e1:lH fs i=fs.getD i.toNat []:=if_pos hi
  have e2:eK fs i=0:=if_pos hi
  have e3:fB fs i=fs.eraseIdx i.toNat:=if_pos hi
  obtain ⟨n,rfl⟩:∃n:Nat,i=n:=⟨i.toNat,by unfold oF at hi;omega⟩
  have hnl:n<fs.length:=by unfold oF at hi;omega
  have DE:=Hid.mk' (aEN B v fs n w ho hnl)
  rw[e1,e2] at AT
  rw[e1,e2,e3]
  simp only[Int.toNat_natCast] at *
  generalize fs.getD n []=t at *
  have H:=Hid.mk' h
  have HK:=Hid.mk' hk
  have HN:=Hid.mk' hn
  have HO:=Hid.mk' ho
  have ck:=h.c k _ hk
  have KL:=Hid.mk' kl
  obtain ⟨a0,c0,hv⟩:=aJ ho
  rw[List.length_map] at hv
  subst hv
  have w1:IntKind.i64.wrap ((n:Int)+1)=(n:Int)+1:=by simp[IntKind.wrap,IntKind.bits,IntKind.signed];omega
  clear h hk hn ho hi e1 e2 e3 kl
  go_enter func73,ntmps73
  go_wp2_with fail
  refine Calls.mono AT.out ?_
  rintro e w1 ⟨rfl,rfl⟩
  go_wp2_with fail
  refine Calls.mono DE.out ?_
  rintro e w2 ⟨v2,rfl,o2,b2,g2⟩
  obtain ⟨a2,c2,hv2⟩:=aJ o2
  rw[List.length_map] at hv2
  subst hv2
  have A2:=Hid.mk' (H.out.only (Only.grown g2) HN.out)
  have f2:=A2.out.f
  have ck2:=A2.out.c k _ HK.out
  go_wp2
  go_ret2
  refine ⟨rfl,_,A2.out.put k _ KL.out,aH o2 _ _ _ (by rw[b2];exact HN.out),?_,fun j hj=>by rw[<- b2];exact hj⟩
  exact ((Only.grown g2).mono (fun j _ e=>.inr e)).trans ((Only.set w2 bp k _).mono (fun j _ e=>.inl (.inl e)))
 ·have e1:lH fs i=[]:=if_neg hi
  have e2:eK fs i=4:=if_neg hi
  have e3:fB fs i=fs:=if_neg hi
  rw[e1,e2] at AT
  rw[e1,e2,e3]
  have e4:cs.set k v=cs:=by
   apply List.ext_getElem?
   intro j
   by_cases hj:k=j
   ·subst hj
    rw[List.getElem?_set_self kl,hk]
   ·rw[List.getElem?_set_ne hj]
  have H:=Hid.mk' h
  have HO:=Hid.mk' ho
  have HE:=Hid.mk' e4
  have e5:S []=⟨#[]⟩:=rfl
  rw[e5] at *
  clear h hk hn ho hi e1 e2 e3 kl e4 e5
  go_enter func73,ntmps73
  go_wp2_with fail
  refine Calls.mono AT.out ?_
  rintro e w1 ⟨rfl,rfl⟩
  go_wp2
  go_ret2
  exact ⟨rfl,v,by rw[HE.out];exact H.out,HO.out,Only.refl _ _,fun j hj=>hj⟩
def cN (fs:List (List UInt8))(k:Int):List (List UInt8):=if oF fs k then dX fs (lH fs k) else fs
theorem aAm (bp k:Nat)(cs:List Value)(B:Nat)(v:Value)(fs:List (List UInt8))(i:Int)(w:World)(h:At w bp cs)(hk:cs[k]?=some v)(ho:OwnF B w v fs)(hn:v.ownBlock≠some bp)(hB:B<=w.heap.size):
  Calls prog 81 #[.pointer (some ⟨bp,k,none⟩),.int .i64 i] w fun e w'=>e=.returned (.int .i64 (eK fs i))/\∃v',At w' bp (cs.set k v')/\OwnF B w' v' (cN fs i)/\Only w w' (fun j=>j=bp∨v.ownBlock=some j)/\(∀j,v'.ownBlock=some j->v.ownBlock=some j∨w.heap.size<=j):=by
 have kl:k<cs.length:=(List.getElem?_eq_some_iff.1 hk).1
 have AT:=Hid.mk' (qM bp k v B fs i w (h.c k _ hk) ho)
 have PT:=Hid.mk' (vB bp k cs B v fs (lH fs i) w h hk ho hn hB)
 by_cases hi:oF fs i
 ·have e2:eK fs i=0:=if_pos hi
  have e3:cN fs i=dX fs (lH fs i):=if_pos hi
  rw[e2] at AT
  rw[e2,e3]
  generalize lH fs i=t at *
  clear h hk ho hn hi e2 e3 kl
  go_enter func81,ntmps81
  go_wp2_with fail
  refine Calls.mono AT.out ?_
  rintro e w1 ⟨rfl,rfl⟩
  go_wp2_with fail
  refine Calls.mono PT.out ?_
  rintro e w2 ⟨rfl,q⟩
  go_wp2
  go_ret
  exact ⟨rfl,q⟩
 ·have e2:eK fs i=4:=if_neg hi
  have e3:cN fs i=fs:=if_neg hi
  rw[e2] at AT
  rw[e2,e3]
  have e4:cs.set k v=cs:=by
   apply List.ext_getElem?
   intro j
   by_cases hj:k=j
   ·subst hj
    rw[List.getElem?_set_self kl,hk]
   ·rw[List.getElem?_set_ne hj]
  have QQ:=Hid.mk' (show ∃v',At w bp (cs.set k v')/\OwnF B w v' fs/\Only w w (fun j=>j=bp∨v.ownBlock=some j)/\(∀j,v'.ownBlock=some j->v.ownBlock=some j∨w.heap.size<=j) from ⟨v,by rw[e4];exact h,ho,Only.refl _ _,fun j hj=>.inl hj⟩)
  generalize lH fs i=t at *
  clear h hk ho hn hi e2 e3 kl e4
  go_enter func81,ntmps81
  go_wp2_with fail
  refine Calls.mono AT.out ?_
  rintro e w1 ⟨rfl,rfl⟩
  go_wp2
  go_ret
  exact ⟨rfl,QQ.out⟩
theorem rK (s:ByteArray)(w:World)(hl:s.size<=1000000):Calls prog 108 #[.string s] w fun e w'=>e=.returned (.string s)/\w.grownBy w' none:=by
 have C:Hid (Calls prog 156 #[.string s] w fun e w'=>e=.returned (.string s)/\Below w.heap.size w w'):=by
  have:=Any.stringslite_Clone Tryz.cloneS s w (by omega)
  exact this
 clear hl
 go_enter func108,ntmps108
 go_wp2_with fail
 refine Calls.mono C.out ?_
 rintro e w1 ⟨rfl,b1⟩
 go_wp2
 go_ret
 exact ⟨rfl,⟨b1.os,b1.tape,b1.output,b1.size,fun k hk _=>b1.block k hk⟩⟩
end Go.Proofs.YtammnaafdhhjaaaGreat
