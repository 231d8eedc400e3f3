import Derived.Test.YtammnaafdhhjaaaGreatA1
import Derived.Test.YtammnaafdhhjaaaGreatJG7
set_option maxHeartbeats 16000000
set_option maxRecDepth 100000
namespace Go.Proofs.YtammnaafdhhjaaaGreat
open Go.RowKit Go.Shelf Go.Lib Go.Sort Go.Proofs.Tryz
def sY (t:List UInt8)(n:Int):List UInt8:=t.take n.toNat
def dU (fs:List (List UInt8))(k n:Int):List (List UInt8):=if oF fs k then fs.set k.toNat (sY (lH fs k) n) else fs
theorem OwnF.stored {B:Nat}{w:World}{g c:Nat}{fs:List (List UInt8)}(h:OwnF B w (.slice (some ⟨g,0,none⟩) fs.length c) fs)(k:Nat)(t:List UInt8):OwnF B (w.setCell ⟨g,k,none⟩ (.string (S t))) (.slice (some ⟨g,0,none⟩) fs.length c) (fs.set k t)/\w.grownBy (w.setCell ⟨g,k,none⟩ (.string (S t))) (some g):=by
 unfold OwnF OwnT at *
 rw[aEM,List.length_map] at *
 have:=World.ownsRow.stored h k (.string (S t))
 rw[List.map_set] at *
 rw[List.length_set]
 exact this
theorem aCZ (bp k:Nat)(cs:List Value)(B:Nat)(v:Value)(fs:List (List UInt8))(n:Nat)(m:Int)(w:World)(h:At w bp cs)(hk:cs[k]?=some v)(ho:OwnF B w v fs)(hn:v.ownBlock≠some bp)(hi:n<fs.length)(ht:(fs.getD n []).length<=100000):
  Calls prog 82 #[.pointer (some ⟨bp,k,none⟩),.int .i64 n,.int .i64 m] w fun e w'=>e=.returned (.int .i64 0)/\At w' bp cs/\OwnF B w' v (fs.set n (sY (fs.getD n []) m))/\Only w w' (fun j=>j=bp∨v.ownBlock=some j):=by
 have ik:oF fs (n:Int):=by unfold oF;omega
 have AT:=Hid.mk' (qM bp k v B fs n w (h.c k _ hk) ho)
 have e1:lH fs (n:Int)=fs.getD n []:=by unfold lH;rw[if_pos ik];simp
 have e2:eK fs (n:Int)=0:=if_pos ik
 rw[e1,e2] at AT
 generalize fs.getD n []=t at *
 obtain ⟨q,hq⟩:∃q:Nat,q=min m.toNat t.length:=⟨_,rfl⟩
 have ec:sY t m=t.take q:=by
  unfold sY
  rw[hq]
  by_cases hm:m.toNat<=t.length
  ·rw[Nat.min_eq_left hm]
  ·rw[Nat.min_eq_right (by omega),List.take_of_length_le (by omega),List.take_of_length_le (Nat.le_refl _)]
 rw[ec]
 have ql:q<=t.length:=by omega
 obtain ⟨g,c,rfl,hc,hfz⟩:=ho.cell hi
 have H:=Hid.mk' h
 have HK:=Hid.mk' hk
 have HO:=Hid.mk' ho
 have hgb:g≠bp:=fun e=>hn (by rw[e];rfl)
 have hgl:g<w.heap.size:=World.block_lt_of_cell? w _ hc
 have fz:=hfz n hi
 have ck:=h.c k _ hk
 have ts:=aQ t
 have tk:(S t).extract 0 q=S (t.take q):=gN _ _
 have CL:=Hid.mk' fun W=>rK (S (t.take q)) W (by rw[aQ,List.length_take];omega)
 have mq:min (max m 0) (t.length:Int)=(q:Int):=by omega
 clear h hk ho hn e1 e2 ik ec hfz hq
 go_enter func82,ntmps82
 go_wp2_with fail
 refine Calls.mono AT.out ?_
 rintro e w1 ⟨rfl,rfl⟩
 go_wp2_with fail
 clear mq
 have q0:(0:Int)<=(q:Int):=by omega
 have q1:(q:Int)<=(t.length:Int):=by omega
 have n0:(0:Int)<=(n:Int):=by omega
 have n1:(n:Int)<(fs.length:Int):=by omega
 refine wp_region_held_drew (S:=fun w'=>w'.cell? ⟨bp,k,none⟩=some (.slice (some ⟨g,0,none⟩) fs.length c)) (by kernel_rfl) (by go_simp) (fun hHeld=>?_)
 refine aN 0 ?_
 simp only[aF]
 refine aN 1 ?_
 simp only[aF]
 refine aN 2 ?_
 simp only[aF]
 refine aN 3 ?_
 simp only[aF]
 refine aN 4 ?_
 simp only[aF]
 refine aN 5 ?_
 simp only[aF]
 refine aN 6 ?_
 simp only[aF]
 refine aN 7 ?_
 simp only[aF]
 refine aX 8 (f:=108) (args:=#[.string (S (t.take q))]) (by kernel_rfl) (by rfl) (by rfl) (by go_simp) ?_
 refine Calls.mono (CL.out _) ?_
 rintro e w2 ⟨rfl,g2⟩
 clear hHeld
 have hHeld:=g2.cell ((aA (aD w1 none)).cell ck (by simp)) (by simp)
 refine ⟨_,rfl,hHeld,?_⟩
 simp only[aF]
 refine aN 9 ?_
 simp only[aF]
 have G2:=Hid.mk' ((aA (aD w1 none)).trans g2)
 have c2:=G2.out.cell hc (by simp)
 have f2:=((Only.grown G2.out).frozen (a:=⟨g,n,none⟩) hgl (by simp)).trans fz
 refine fV 10 (by kernel_rfl) (by rfl) (by rfl) ?_
 intro K hK
 go_simp
 refine hK _ _ ((Only.set w2 g n _).cell hHeld (fun e=>hgb e.symm)) ?_
 clear hK K
 refine wpAnyH_done (by kernel_rfl) ?_ _
 go_wp2
 go_ret
 have o2:OwnF B w2 (.slice (some ⟨g,0,none⟩) fs.length c) fs:=aO HO.out G2.out
 obtain ⟨o3,g3⟩:=o2.stored n (t.take q)
 refine ⟨rfl,((H.out.grown G2.out).only (Only.grown g3) (by simp;exact hgb)),o3,((Only.grown G2.out).mono (by simp)).trans ((Only.grown g3).mono (fun j _ e=>.inl (.inr e)))⟩
theorem oN {cs:List Value}{k:Nat}{v:Value}(hk:cs[k]?=some v):cs.set k v=cs:=by
 apply List.ext_getElem?
 intro j
 by_cases hj:k=j
 ·subst hj
  rw[List.getElem?_set_self (List.getElem?_eq_some_iff.1 hk).1,hk]
 ·rw[List.getElem?_set_ne hj]
theorem aDa (bp k:Nat)(cs:List Value)(B:Nat)(v:Value)(fs:List (List UInt8))(i m:Int)(w:World)(h:At w bp cs)(hk:cs[k]?=some v)(ho:OwnF B w v fs)(hn:v.ownBlock≠some bp)(ht:∀t∈fs,t.length<=100000):
  Calls prog 82 #[.pointer (some ⟨bp,k,none⟩),.int .i64 i,.int .i64 m] w fun e w'=>e=.returned (.int .i64 (eK fs i))/\∃v',At w' bp (cs.set k v')/\OwnF B w' v' (dU fs i m)/\Only w w' (fun j=>j=bp∨v.ownBlock=some j)/\(∀j,v'.ownBlock=some j->v.ownBlock=some j∨w.heap.size<=j):=by
 have e4:=oN hk
 by_cases hi:oF fs i
 ·have e1:lH fs i=fs.getD i.toNat []:=if_pos hi
  have e2:eK fs i=0:=if_pos hi
  have e3:dU fs i m=fs.set i.toNat (sY (lH fs i) m):=if_pos hi
  rw[e2,e3,e1]
  obtain ⟨n,rfl⟩:∃n:Nat,i=n:=⟨i.toNat,by unfold oF at hi;omega⟩
  have hnl:n<fs.length:=by unfold oF at hi;omega
  simp only[Int.toNat_natCast]
  refine (aCZ bp k cs B v fs n m w h hk ho hn hnl (by rw[List.getD_eq_getElem?_getD,List.getElem?_eq_getElem hnl];exact ht _ (List.getElem_mem hnl))).mono ?_
  rintro e w' ⟨rfl,a1,o1,on⟩
  exact ⟨rfl,v,by rw[e4];exact a1,o1,on,fun j hj=>.inl hj⟩
 ·have e2:eK fs i=4:=if_neg hi
  have e3:dU fs i m=fs:=if_neg hi
  have AT:=Hid.mk' (qM bp k v B fs i w (h.c k _ hk) ho)
  rw[e2] at AT
  rw[e2,e3]
  have QQ:=Hid.mk' (show ∃v',At w bp (cs.set k v')/\OwnF B w v' fs/\Only w w (fun j=>j=bp∨v.ownBlock=some j)/\(∀j,v'.ownBlock=some j->v.ownBlock=some j∨w.heap.size<=j) from ⟨v,by rw[e4];exact h,ho,Only.refl _ _,fun j hj=>.inl hj⟩)
  generalize lH fs i=t at *
  clear h hk ho hn hi e2 e3 e4 ht
  go_enter func82,ntmps82
  go_wp2_with fail
  refine Calls.mono AT.out ?_
  rintro e w1 ⟨rfl,rfl⟩
  go_wp2
  go_ret
  exact ⟨rfl,QQ.out⟩
theorem vM (a:Addr)(n c:Nat)(W:World):(binOp BinOp.eql 104 (.slice (some a) n c) (.slice none 0 0)).run prog W=.ok (.bool false) W:=by
 kernel_rfl
theorem vN (W:World):(binOp BinOp.eql 104 (.slice none 0 0) (.slice none 0 0)).run prog W=.ok (.bool true) W:=by
 kernel_rfl
theorem aAx (ts:List Tx):∀u∈ts.flatMap Tx.cells,u.oneCell'=true:=by
 intro u hu
 obtain ⟨i,_,hi⟩:=List.mem_flatMap.1 hu
 simp[Tx.cells] at hi
 rcases hi with rfl
 rfl
theorem aAy (B:Nat)(ov:Value)(ts:List Tx)(w:World)(h:OwnT B w ov ts)(hl:ts.length<=1000):
  Calls prog 183 #[ov] w fun e w'=>∃v,e=.returned v/\OwnT w.heap.size w' v ts/\w.grownBy w' none:=by
 have e1:=vN
 have e2:=vM
 have H:=Hid.mk' h
 obtain ⟨ao,co,rfl⟩:=aJ h
 clear h
 obtain ⟨n,hn⟩:∃n,ts.length=n:=⟨_,rfl⟩
 have HN:=Hid.mk' hn
 have HH:Hid (w.ownsRow B 9 1 (.slice ao n co) n (ts.flatMap Tx.cells)):=by
  have:=H.out
  unfold OwnT at this
  rw[hn] at this
  exact this
 rw[hn] at hl ⊢
 clear hn H
 cases ao with
 | none=>
  have hn0:n=0/\co=0:=by
   rcases HH.out.2 with ⟨h',h⟩ | ⟨g,cap,cur,h',_⟩
   ·injection h' with _ _ h'
    exact ⟨h,h'⟩
   ·cases h'
  obtain ⟨rfl,rfl⟩:=hn0
  have e0:ts=[]:=List.eq_nil_of_length_eq_zero HN.out
  subst e0
  clear HH HN
  go_enter func183,ntmps183
  go_wp2
  go_ret
  exact ⟨_,rfl,World.ownsRow_nil _ _ _ _,aD _ _⟩
 | some a=>
  obtain ⟨g,rfl⟩:∃g,a=⟨g,0,none⟩:=by
   rcases HH.out.2 with ⟨h',_⟩ | ⟨g,cap,cur,h',_⟩
   ·cases h'
   ·injection h' with h1
    injection h1 with h1
    exact ⟨g,h1⟩
  obtain ⟨iE,hiE,hz0,hz1,hz2⟩:=lN
  go_enter func183,ntmps183
  have OW:Hid ((w.alloc (.cells #[] 9)).ownsRow w.heap.size 9 1 (.slice (some ⟨w.heap.size,0,none⟩) 0 0) 0 []):=Hid.mk' ⟨rfl,.inr ⟨w.heap.size,0,#[],rfl,Nat.le_refl _,heap_alloc_new w _,Nat.le_refl _,by unfold maxLen;omega,rfl,rfl⟩⟩
  have NEWS:Hid (∀j u,(ts.flatMap Tx.cells)[j]?=some u->(w.alloc (.cells #[] 9)).cell? (Addr.add ⟨g,0,none⟩ j)=some u):=Hid.mk' fun j u hu=>by
   have hj:j<n * 1:=by rw[<- HH.out.1];exact (List.getElem?_eq_some_iff.1 hu).1
   have:=HH.out.cellAt j hj
   rw[hu] at this
   have t:=(World.grownBy_alloc w (.cells #[] 9) none).cell (a:=⟨g,j,none⟩) this (by simp)
   by_cases h0:j=0
   ·subst h0
    simpa [Addr.add] using t
   ·simpa [Addr.add,h0] using t
  go_wp2_with (at_builtin;refine wpList_append_own_at _ rfl _ _ 104 rfl w.heap.size 9 iE _ 1 16 underlying104 hiE hz0 hz1 hz2 rfl (by omega) (.slice (some ⟨w.heap.size,0,none⟩) 0 0) 0 [] rfl OW.out ⟨g,0,none⟩ n co (ts.flatMap Tx.cells) rfl HH.out.1 NEWS.out (aAx ts) (by unfold maxLen;omega) (by omega) (by simp) ?_)
  intro v' w' r1 r2 _ r4
  go_wp2
  go_ret
  refine ⟨_,rfl,?_,?_⟩
  ·unfold OwnT
   rw[HN.out]
   exact r1
  ·exact nO (b:=w.heap.size) r2 (World.grownBy_alloc w _ none) (Nat.le_refl _)
theorem aDb (bp k:Nat)(B:Nat)(v:Value)(ts:List Tx)(w:World)(h:w.cell? ⟨bp,k,none⟩=some v)(ho:OwnT B w v ts)(hl:ts.length<=1000):
  Calls prog 157 #[.pointer (some ⟨bp,k,none⟩)] w fun e w'=>∃v,e=.returned v/\OwnT w.heap.size w' v ts/\w.grownBy w' none:=by
 obtain ⟨a0,c0,hv⟩:=aJ ho
 have CL:=Hid.mk' (aAy B v ts w ho hl)
 clear ho
 subst hv
 go_enter func157,ntmps157
 go_wp2_with fail
 refine Calls.mono CL.out ?_
 rintro e w1 ⟨v1,rfl,o1,g1⟩
 obtain ⟨a1,c1,rfl⟩:=aJ o1
 go_wp2
 go_ret
 exact ⟨_,rfl,o1,g1⟩
end Go.Proofs.YtammnaafdhhjaaaGreat
