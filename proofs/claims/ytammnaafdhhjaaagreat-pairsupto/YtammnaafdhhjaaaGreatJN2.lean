import Derived.Test.YtammnaafdhhjaaaGreatJT4
set_option maxHeartbeats 16000000
set_option maxRecDepth 100000
namespace Go.Proofs.YtammnaafdhhjaaaGreat
open Go.RowKit Go.Proofs.Tryz
theorem aIb {w:World}{o:Oper}{a:Act}{K:Act->World->Prop}{Q:Exit->Act->World->Prop}(s x:Operand)
  (ho:o.op=.call {callee:=.builtin .append,args:=#[s,x],argTypes:=#[104,104]})
  (B:Nat) (v:Value) (l:List Tx) (hs:a.eval s=v) (hown:OwnT B w v l) (ad:Addr) (i:Tx) (hx:a.eval x=.slice (some ad) 1 1)
  (hnews:∀j u,i.cells[j]?=some u->w.cell? (ad.add j)=some u) (hl:l.length+1<=1000000) (hB:B<=w.heap.size)
  (h:∀v' w',OwnT B w' v' (l++[i])->w.grownBy w' v.ownBlock->(v'.ownBlock=v.ownBlock∨v'.ownBlock=some w.heap.size)->K (a.put o.dst v') w'):Oper.wp prog o a w K Q:=by
 obtain ⟨i0,hi,hz0,hz1,hz2⟩:=lN
 obtain ⟨v',w',hr,h2,h3,_,h5⟩:=run_append_own_at (P:=prog) w B 104 o.type 9 i0 _ 1 16 underlying104 hi hz0 hz1 hz2 rfl (by decide) v l.length (l.flatMap Tx.cells) hown ad 1 1 i.cells rfl hnews
  (by intro u hu;simp[Tx.cells] at hu;subst hu;rfl) (by unfold maxLen;omega) (by omega) hB
 unfold Oper.wp execOp
 simp only[ho,resolve,invoke,builtin,Sem.run_bind,Sem.run_pure,Result.andThen_ok,List.map_toArray,List.map_cons,List.map_nil,hs,hx,hr]
 refine h v' w' ?_ h3 h5
 unfold OwnT;rw[List.length_append,List.flatMap_append];simpa using h2
theorem aIc {w wd w1:World}{o:Obj}{bq k:Nat}{cs:List Value}{a a1:Option Addr}{c c1:Nat}{fs:List (List UInt8)}{t:List UInt8}(HN:Value.ownBlock (.slice a fs.length c)≠some bq)(kl:k<cs.length)(GD:w.grownBy wd none)(A1:At w1 bq cs)(r1:OwnT 0 w1 (.slice a1 ((fs.map tx)++[tx t]).length c1) ((fs.map tx)++[tx t]))(g1:(wd.alloc o).grownBy w1 (Value.ownBlock (.slice a fs.length c)))(h1:Value.ownBlock (.slice a1 ((fs.map tx)++[tx t]).length c1)=Value.ownBlock (.slice a fs.length c)∨Value.ownBlock (.slice a1 ((fs.map tx)++[tx t]).length c1)=some (wd.alloc o).heap.size)(hlt:bq<w.heap.size):
  FlN w (w1.setCell ⟨bq,k,none⟩ (.slice a1 (fs.length+1) c1)) bq cs k (.slice a fs.length c) (fs++[t]):=by
 have zd:=GD.size
 have hv:∀j,Value.ownBlock (.slice a1 (((fs.map tx)++[tx t]).length) c1)=some j->Value.ownBlock (.slice a fs.length c)=some j∨w.heap.size<=j:=fun j hj=>by
  rcases h1 with e | e
  ·rw[e] at hj;exact .inl hj
  ·rw[e] at hj;injection hj with hj;exact .inr (by simp at hj;omega)
 have e0:fs.length+1=((fs.map tx)++[tx t]).length:=by simp
 rw[e0]
 refine ⟨_,A1.put k _ kl,?_,?_,hv⟩
 ·unfold OwnF
  rw[List.map_append]
  exact aH r1 bq k _ (fun e=>by
   rcases hv bq e with e | e
   ·exact HN e
   ·omega)
 ·refine ((Only.grown (GD.trans (World.grownBy_alloc wd o none))).mono (by simp)).trans (((Only.grown g1).mono (fun j _ e=>.inl (.inr e))).trans ?_)
  exact (Only.set w1 bq k _).mono (fun j _ e=>.inl (.inl (.inl e)))
theorem aId (bq k:Nat)(i:Int)(hik:(i=0/\k=5)∨(i=1/\k=6))(cs:List Value)(v:Value)(fs:List (List UInt8))(t:List UInt8)(w:World)(h:At w bq cs)(hk:cs[k]?=some v)(ho:OwnF 0 w v fs)(hn:v.ownBlock≠some bq):
  Calls prog 105 #[.pointer (some ⟨bq,0,none⟩),.int .i64 i,.string (S t)] w fun e w'=>e=.returned (.tuple #[])/\FlN w w' bq cs k v (dX fs t):=by
 obtain ⟨a,c,rfl⟩:=aJ ho
 rw[List.length_map] at *
 have H:=Hid.mk' h
 have HO:=Hid.mk' ho
 have HN:=Hid.mk' hn
 have HK:=Hid.mk' hk
 have ck:=h.c _ _ hk
 have hlt:=h.lt
 have kl:Hid (k<cs.length):=(List.getElem?_eq_some_iff.1 hk).1
 clear h ho hn hk
 by_cases hl:fs.length<32
 ·have EP:dX fs t=fs++[t]:=if_pos hl
  rw[EP]
  have hl':(fs.length:Int)<32:=by omega
  have hl2:Hid ((fs.map tx).length+1<=1000000):=by show _<=_;simp;omega
  clear hl EP
  have HD:=Hid.mk' H.out.drew
  have OD:Hid (OwnT 0 w.drew (.slice a fs.length c) (fs.map tx)):=World.ownsRow.drew HO.out
  have GD:Hid (w.grownBy w.drew none):=aA (aD _ _)
  have cd:=HD.out.c _ _ HK.out
  rcases hik with ⟨rfl,rfl⟩ | ⟨rfl,rfl⟩
  all_goals
   go_enter func105,ntmps105
   go_wp2_with fail
   refine wp_region_held_drew (S:=fun _=>True) (by kernel_rfl) trivial (fun hHeld=>?_)
   generalize w.drew=wd at *
   have ca:=fun o=>(World.grownBy_alloc wd o none).cell cd (by simp)
   refine aN 0 ?_
   simp only[aF]
   refine aN 1 ?_
   simp only[aF]
   refine aN 2 ?_
   simp only[aF]
   refine aN 3 ?_
   simp only[aF]
   refine aN 4 ?_
   simp only[aF]
   refine aN 5 ?_
   simp only[aF]
   refine aN 6 ?_
   simp only[aF]
   refine aN 8 ?_
   simp only[aF]
   refine aN 11 ?_
   simp only[aF]
   refine aN 12 ?_
   simp only[aF]
   refine aJZ 7 9 (by kernel_rfl) (aFA 7 (by rfl) (by rfl) (fun K hK=>?_)) (aFA 9 (by rfl) (by rfl) (fun K hK=>?_))
   all_goals
    go_simp
   refine hK _ _ trivial (fV 9 (by kernel_rfl) (by rfl) (by rfl) (fun K' hK'=>?_))
   rotate_left
   refine hK _ _ trivial (fV 7 (by kernel_rfl) (by rfl) (by rfl) (fun K' hK'=>?_))
   all_goals
    clear hK K
    go_simp
    refine hK' _ _ trivial ?_
    clear hK' K'
    refine fV 10 (by kernel_rfl) (by rfl) (by rfl) ?_
    intro K hK
    refine aIb (.tmp 21) (.tmp 23) rfl 0 (.slice a fs.length c) (fs.map tx) rfl (World.ownsRow.alloc OD.out _) ⟨wd.heap.size,0,none⟩ (tx t) rfl (aW wd (tx t).cells _ _ rfl) hl2.out (Nat.zero_le _) ?_
    intro v1 w1 r1 g1 h1
    obtain ⟨a1,c1,rfl⟩:=aJ r1
    refine hK _ _ trivial ?_
    clear hK K
    have A1:=Hid.mk' ((HD.out.grown (World.grownBy_alloc wd _ none)).only (Only.grown g1) HN.out)
    have fs1:=A1.out.f
    have ck1:=A1.out.c _ _ HK.out
    simp only[Act.put,List.setIfInBounds_toArray,aF]
    refine aN 13 ?_
    simp only[aF]
    refine fV 14 (by kernel_rfl) (by rfl) (by rfl) ?_
    intro K hK
    go_simp
    refine hK _ _ trivial ?_
    clear hK K
    refine wpAnyH_done (by kernel_rfl) ?_ _
    go_wp2
    refine bodyPost_end (v:=.tuple #[]) (by simp[results,results105]) rfl ⟨rfl,?_⟩
    exact aIc HN.out kl.out GD.out A1.out r1 g1 h1 hlt
 ·have EP:dX fs t=fs:=if_neg hl
  rw[EP]
  have hl':¬(fs.length:Int)<32:=by omega
  clear hl EP
  rcases hik with ⟨rfl,rfl⟩ | ⟨rfl,rfl⟩
  all_goals
   go_enter func105,ntmps105
   go_wp2
   refine bodyPost_end (v:=.tuple #[]) (by simp[results,results105]) rfl ⟨rfl,.slice a fs.length c,?_,HO.out,Only.refl _ _,fun j hj=>.inl hj⟩
   rw[oN HK.out]
   exact H.out
section
variable {w : World} {bq q0 q1 : Nat} {cI cO cJ : Int} {r0 r1 : Rs} {v0 v1 : Value} {f0 f1 : List (List UInt8)}
theorem mE (h:DX w bq q0 q1 cI cO cJ r0 r1 v0 v1 f0 f1){i:Int}(hi:aV i)(t:List UInt8)(ht:t.length<=100):
  Calls prog 105 #[.pointer (some ⟨bq,0,none⟩),.int .i64 i,.string (S t)] w fun e w'=>e=.returned (.tuple #[])/\DXn w w' bq q0 q1 cI cO cJ r0 r1 v0 v1 (bN f0 f1 (dX (aC f0 f1 i) t) i).1 (bN f0 f1 (dX (aC f0 f1 i) t) i).2:=by
 obtain ⟨hk,ho,hn,hl,hx⟩:=h.at hi
 refine (aId bq (5+i.toNat) i (by rcases hi with rfl | rfl;exact .inl ⟨rfl,rfl⟩;exact .inr ⟨rfl,rfl⟩) _ _ _ t w h.ry.at_ hk ho hn).mono ?_
 rintro e w' ⟨rfl,n⟩
 exact ⟨rfl,h.put hi n (oQ hl) (qR hx ht)⟩
theorem jK (h:DX w bq q0 q1 cI cO cJ r0 r1 v0 v1 f0 f1)(i k:Int):
  Calls prog 106 #[.pointer (some ⟨bq,0,none⟩),.int .i64 i,.int .i64 k] w fun e w'=>e=.returned (.int .i64 (kP f0 f1 i k))/\w'=w:=by
 by_cases hi:aV i
 ·obtain ⟨hk,ho,hn,hl,hx⟩:=h.at hi
  obtain ⟨a,c,hv⟩:=aJ ho
  rw[List.length_map] at hv
  have ck:=h.ry.at_.c _ _ hk
  rw[hv] at ck
  unfold kP
  rw[if_pos hi]
  generalize aC f0 f1 i=fs at *
  unfold eK
  clear hk ho hn hx hv h
  by_cases hc:oF fs k
  ·rw[if_pos hc]
   obtain ⟨k0,k1⟩:=hc
   have n0:¬k<0:=by omega
   have n1:¬(fs.length:Int)<=k:=by omega
   rcases hi with rfl | rfl
   all_goals
    simp at ck
    go_enter func106,ntmps106
    go_wp2
    go_ret
    exact ⟨rfl,rfl⟩
  ·rw[if_neg hc]
   by_cases n0:k<0
   ·rcases hi with rfl | rfl
    all_goals
     simp at ck
     go_enter func106,ntmps106
     go_wp2
     go_ret
     exact ⟨rfl,rfl⟩
   ·have n1:(fs.length:Int)<=k:=by unfold oF at hc;omega
    rcases hi with rfl | rfl
    all_goals
     simp at ck
     go_enter func106,ntmps106
     go_wp2
     go_ret
     exact ⟨rfl,rfl⟩
 ·unfold kP
  rw[if_neg hi]
  have h0:(i !=0)=true:=by unfold aV at hi;simp;omega
  have h1:(i !=1)=true:=by unfold aV at hi;simp;omega
  clear h hi
  go_enter func106,ntmps106
  go_wp2
  go_ret
  exact ⟨rfl,rfl⟩
theorem zE (h:DX w bq q0 q1 cI cO cJ r0 r1 v0 v1 f0 f1)(i:Int):
  Calls prog 115 #[.pointer (some ⟨bq,0,none⟩),.int .i64 i] w fun e w'=>∃v,e=.returned (.tuple #[v,.int .i64 (if aV i then 0 else 2)])/\OwnF 0 w v (flE f0 f1 i)/\w'=w:=by
 unfold flE
 by_cases hi:aV i
 ·rw[if_pos hi,if_pos hi]
  obtain ⟨hk,ho,hn,hl,hx⟩:=h.at hi
  have ck:=h.ry.at_.c _ _ hk
  have HO:=Hid.mk' ho
  generalize aC v0 v1 i=v at *
  clear h hk ho hn hx hl
  rcases hi with rfl | rfl
  all_goals
   simp at ck
   go_enter func115,ntmps115
   go_wp2
   go_ret2
   exact ⟨_,rfl,HO.out,rfl⟩
 ·rw[if_neg hi,if_neg hi]
  have h0:(i !=0)=true:=by unfold aV at hi;simp;omega
  have h1:(i !=1)=true:=by unfold aV at hi;simp;omega
  clear h hi
  go_enter func115,ntmps115
  go_wp2
  go_ret2
  exact ⟨_,rfl,World.ownsRow_nil _ _ _ _,rfl⟩
theorem aCj {i k:Int}(hu:kP f0 f1 i k=0):aV i/\oF (aC f0 f1 i) k:=by
 unfold kP eK at hu
 by_cases hi:aV i
 ·rw[if_pos hi] at hu
  by_cases hk:oF (aC f0 f1 i) k
  ·exact ⟨hi,hk⟩
  ·rw[if_neg hk] at hu;cases hu
 ·rw[if_neg hi] at hu;cases hu
theorem aBg {i k:Int}(hu:kP f0 f1 i k≠0)(g:List (List UInt8)->List (List UInt8))(hg:∀fs,¬oF fs k->g fs=fs):fH f0 f1 g i=(f0,f1):=by
 unfold fH
 by_cases hi:aV i
 ·rw[if_pos hi]
  have hk:¬oF (aC f0 f1 i) k:=fun hk=>hu (by unfold kP eK;rw[if_pos hi,if_pos hk])
  rw[hg _ hk,kV _ _ hi]
 ·rw[if_neg hi]
theorem zF (h:DX w bq q0 q1 cI cO cJ r0 r1 v0 v1 f0 f1)(i k:Int):
  Calls prog 58 #[.pointer (some ⟨bq,0,none⟩),.int .i64 i,.int .i64 k] w fun e w'=>e=.returned (.int .i64 (kP f0 f1 i k))/\DXn w w' bq q0 q1 cI cO cJ r0 r1 v0 v1 (fH f0 f1 (cN · k) i).1 (fH f0 f1 (cN · k) i).2:=by
 have U:=Hid.mk' (jK h i k)
 have H:=Hid.mk' h
 by_cases hu:kP f0 f1 i k=0
 ·obtain ⟨hi,hk⟩:=aCj hu
  have E1:Hid (fH f0 f1 (cN · k) i=bN f0 f1 (dX (aC f0 f1 i) (lH (aC f0 f1 i) k)) i):=by
   show fH f0 f1 (cN · k) i=_
   unfold fH
   rw[if_pos hi]
   show bN f0 f1 (cN (aC f0 f1 i) k) i=_
   unfold cN
   rw[if_pos hk]
  obtain ⟨hc,ho,hn,hl,hx⟩:=h.at hi
  obtain ⟨n,rfl⟩:∃n:Nat,k=n:=⟨k.toNat,by have:=hk.1;omega⟩
  have hkl:n<(aC f0 f1 i).length:=by have:=hk.2;omega
  obtain ⟨g,c,hv,hcell,_⟩:=ho.cell hkl
  have et:lH (aC f0 f1 i) (n:Int)=(aC f0 f1 i).getD n []:=by unfold lH;rw[if_pos hk];simp
  have PT:=Hid.mk' (mE h hi (lH (aC f0 f1 i) n) (aAN hx))
  rw[et] at PT E1
  have ck:=h.ry.at_.c _ _ hc
  rw[hv] at ck
  rw[hu] at U
  rw[E1.out,hu]
  clear E1 hc ho hn hl hx hv h et hk hu
  generalize (aC f0 f1 i).getD n []=t at *
  generalize dX (aC f0 f1 i) t=ft at *
  generalize (aC f0 f1 i).length=m at *
  have y0:(0:Int)<=(n:Int):=by omega
  have y1:(n:Int)<(m:Int):=by omega
  rcases hi with rfl | rfl
  all_goals
   simp at ck
   go_enter func58,ntmps58
   go_wp2_with fail
   refine Calls.mono U.out ?_
   rintro e w1 ⟨rfl,rfl⟩
   go_wp2_with fail
   refine Calls.mono PT.out ?_
   rintro e w2 ⟨rfl,n2⟩
   go_wp2
   go_ret
   exact ⟨rfl,n2⟩
 ·rw[aBg hu (cN · k) (fun fs hk=>if_neg hk)]
  have cb:(kP f0 f1 i k==0)=false:=by simpa using hu
  generalize kP f0 f1 i k=z at *
  clear hu h
  go_enter func58,ntmps58
  go_wp2_with fail
  refine Calls.mono U.out ?_
  rintro e w1 ⟨rfl,rfl⟩
  go_wp2
  go_ret
  exact ⟨rfl,H.out.same⟩
theorem zG (h:DX w bq q0 q1 cI cO cJ r0 r1 v0 v1 f0 f1)(i:Int)(t:List UInt8):
  Calls prog 61 #[.pointer (some ⟨bq,0,none⟩),.int .i64 i,.string (S t)] w fun e w'=>e=.returned (.int .i64 (aFW i t.length))/\DXn w w' bq q0 q1 cI cO cJ r0 r1 v0 v1 (qC f0 f1 t i).1 (qC f0 f1 t i).2:=by
 unfold aFW qC
 have H:=Hid.mk' h
 have ts:=aQ t
 by_cases hi:aV i
 ·by_cases hl:t.length<=100
  ·rw[if_pos ⟨hi,hl⟩,if_pos ⟨hi,hl⟩]
   have PT:=Hid.mk' (mE h hi t hl)
   have hl':¬(100:Int)<(t.length:Int):=by omega
   clear h hl
   rcases hi with rfl | rfl
   all_goals
    go_enter func61,ntmps61
    go_wp2_with fail
    refine Calls.mono PT.out ?_
    rintro e w2 ⟨rfl,n2⟩
    go_wp2
    go_ret
    exact ⟨rfl,n2⟩
  ·rw[if_neg (fun e=>hl e.2),if_neg (fun e=>hl e.2)]
   have hl':(100:Int)<(t.length:Int):=by omega
   clear h hl
   rcases hi with rfl | rfl
   all_goals
    go_enter func61,ntmps61
    go_wp2
    go_ret
    exact ⟨rfl,H.out.same⟩
 ·rw[if_neg (fun e=>hi e.1),if_neg (fun e=>hi e.1)]
  have h0:(i !=0)=true:=by unfold aV at hi;simp;omega
  have h1:(i !=1)=true:=by unfold aV at hi;simp;omega
  clear h hi
  go_enter func61,ntmps61
  go_wp2
  go_ret
  exact ⟨rfl,H.out.same⟩
end
theorem aBh (fs:List (List UInt8))(k q:Nat)(hq:q<fs.length):(fs.take (q+1)).eraseIdx k=if q=k then (fs.take q).eraseIdx k else (fs.take q).eraseIdx k++[fs[q]]:=by
 have hl:(fs.take q).length=q:=by rw[List.length_take];omega
 rw[List.take_succ_eq_append_getElem hq]
 by_cases h:q=k
 ·subst h
  have e1:(fs.take q).eraseIdx q=fs.take q:=List.eraseIdx_of_length_le (by rw[hl];exact Nat.le_refl _)
  rw[if_pos rfl,e1,List.eraseIdx_append_of_length_le (by rw[hl];exact Nat.le_refl _),hl,Nat.sub_self]
  simp
 ·rw[if_neg h]
  by_cases h2:q<k
  ·rw[List.eraseIdx_of_length_le (by simp;omega),List.eraseIdx_of_length_le (by rw[hl];omega)]
  ·rw[List.eraseIdx_append_of_lt_length (by rw[hl];omega)]
theorem aGt (bq k:Nat)(i:Int)(hik:(i=0/\k=5)∨(i=1/\k=6))(cs:List Value)(v:Value)(fs:List (List UInt8))(n:Nat)(w:World)(h:At w bq cs)(hk:cs[k]?=some v)(ho:OwnF 0 w v fs)(hn:v.ownBlock≠some bq)(hl:fs.length<=32)(hnf:n<fs.length)
  (U:Hid (Calls prog 106 #[.pointer (some ⟨bq,0,none⟩),.int .i64 i,.int .i64 n] w fun e w'=>e=.returned (.int .i64 0)/\w'=w)):
  Calls prog 57 #[.pointer (some ⟨bq,0,none⟩),.int .i64 i,.int .i64 n] w fun e w'=>e=.returned (.int .i64 0)/\FlN w w' bq cs k v (fs.eraseIdx n):=by
 obtain ⟨a,c,rfl⟩:=aJ ho
 rw[List.length_map] at *
 have H:=Hid.mk' h
 have HO:=Hid.mk' ho
 have HK:=Hid.mk' hk
 have ck:=h.c _ _ hk
 have hlt:=h.lt
 have kl:Hid (k<cs.length):=(List.getElem?_eq_some_iff.1 hk).1
 obtain ⟨m,hm⟩:∃m,fs.length=m:=⟨_,rfl⟩
 have HM:=Hid.mk' hm
 rw[hm] at hl hnf ck
 clear h ho hn hk hm
 rcases hik with ⟨rfl,rfl⟩ | ⟨rfl,rfl⟩
 all_goals
  go_enter func57,ntmps57
  go_wp2_with fail
  refine Calls.mono U.out ?_
  rintro e w1 ⟨rfl,rfl⟩
  go_wp2_with fail
  go_loopw [8,9] (fun l t wr=>∃q:Nat,q<=m/\t=.int .i64 q/\OwnF w1.heap.size wr l ((fs.take q).eraseIdx n)/\w1.grownBy wr none) (fun _ t _=>m -(intOf t).toNat)
  case atStart=>exact ⟨0,by omega,rfl,World.ownsRow_nil _ _ _ _,aD _ _⟩
  case round=>
   obtain ⟨q,hq,rfl,oq,gq⟩:=hrel
   have GQ:=Hid.mk' gq
   have OQ:=Hid.mk' oq
   have cq:=gq.cell ck (by simp)
   have zq:=gq.size
   have lq:Hid ((((fs.take q).eraseIdx n).map tx).length+1<=1000000):=by
    show _<=_
    have:((fs.take q).eraseIdx n).length<=(fs.take q).length:=by rw[List.length_eraseIdx];split<;>omega
    rw[List.length_take] at this
    rw[List.length_map];omega
   clear gq oq
   by_cases hlt2:q<m
   ·have hql:q<fs.length:=by rw[HM.out];exact hlt2
    obtain ⟨g,c',hv,hcell,_⟩:=HO.out.cell hql
    rw[HM.out] at hv
    injection hv with ha _ hcc
    subst ha hcc
    have dq:=GQ.out.cell hcell (by simp)
    have ES:=Hid.mk' (aBh fs n q hql)
    have et:fs.getD q []=fs[q]:=by rw[List.getD_eq_getElem?_getD,List.getElem?_eq_getElem hql];rfl
    rw[et] at dq
    generalize fs[q]=t at *
    clear hcell et hql
    have y0:(0:Int)<=(q:Int):=by omega
    have y1:(q:Int)<(m:Int):=by omega
    by_cases hqn:q=n
    ·rw[if_pos hqn] at ES
     have hqi:((q:Int) !=(n:Int))=false:=by simp;omega
     clear hqn
     go_wp2
     exact ⟨⟨q+1,by omega,by go_num,by rw[ES.out];exact OQ.out,GQ.out⟩,by simp[intOf];omega⟩
    ·rw[if_neg hqn] at ES
     have hqi:((q:Int) !=(n:Int))=true:=by simp;omega
     clear hqn
     go_wp2_with (at_builtin;refine vA rfl _ _ rfl w1.heap.size _ (((fs.take q).eraseIdx n).map tx) rfl (World.ownsRow.alloc OQ.out _) ⟨wr.heap.size,0,none⟩ (tx t) rfl (aW wr (tx t).cells _ _ rfl) lq.out (by simp;omega) ?_;intro v3 w3 o3 g3 h3)
     refine ⟨⟨q+1,by omega,by go_num,?_,?_⟩,by simp[intOf];omega⟩
     ·rw[ES.out]
      unfold OwnF
      rw[List.map_append]
      exact o3
     ·exact sG (GQ.out.trans (World.grownBy_alloc wr _ none)) g3 (fun j hj=>(OQ.out.lt j hj).1)
   ·obtain rfl:q=m:=by omega
    have y1:¬(q:Int)<(q:Int):=by omega
    have AQ:=H.out.grown GQ.out
    have fz:=AQ.f
    have EQ:Hid ((fs.take q).eraseIdx n=fs.eraseIdx n):=by show _=_;rw[List.take_of_length_le (by rw[HM.out];omega)]
    obtain ⟨a2,c2,hv⟩:=aJ OQ.out
    obtain ⟨nv,hnv⟩:∃nv,(((fs.take q).eraseIdx n).map tx).length=nv:=⟨_,rfl⟩
    rw[hnv] at hv
    subst hv
    rw[EQ.out] at OQ
    clear hnv lq EQ
    go_wp2
    go_ret
    refine ⟨rfl,.slice a2 nv c2,AQ.put _ _ kl.out,aH (bP OQ.out (Nat.zero_le _)) bq _ _ (fun e=>by have:=(OQ.out.lt _ e).1;omega),((Only.grown GQ.out).mono (by simp)).trans ((Only.set wr bq _ _).mono (fun j _ e=>.inl (.inl e))),fun j hj=>.inr (OQ.out.lt j hj).1⟩
theorem aDJ {w wd:World}{bq k g n c:Nat}{cs:List Value}{fs:List (List UInt8)}(HK:cs[k]?=some (.slice (some ⟨g,0,none⟩) fs.length c))(HD:At wd bq cs)(OD:OwnF 0 wd (.slice (some ⟨g,0,none⟩) fs.length c) fs)(GD:w.grownBy wd none)(hgb:g≠bq)(t:List UInt8):FlN w (wd.setCell ⟨g,n,none⟩ (.string (S t))) bq cs k (.slice (some ⟨g,0,none⟩) fs.length c) (fs.set n t):=by
 obtain ⟨o3,g3⟩:=OD.stored n t
 exact ⟨_,by rw[oN HK];exact HD.only (Only.grown g3) (by simp;exact hgb),o3,((Only.grown GD).mono (by simp)).trans ((Only.grown g3).mono (fun j _ e=>.inl (.inr e))),fun j hj=>.inl hj⟩
theorem aDK (bq k:Nat)(i:Int)(hik:(i=0/\k=5)∨(i=1/\k=6))(cs:List Value)(v:Value)(fs:List (List UInt8))(n:Nat)(m:Int)(w:World)(h:At w bq cs)(hk:cs[k]?=some v)(ho:OwnF 0 w v fs)(hn:v.ownBlock≠some bq)(hnf:n<fs.length)(ht:(fs.getD n []).length<=100000)
  (U:Hid (Calls prog 106 #[.pointer (some ⟨bq,0,none⟩),.int .i64 i,.int .i64 n] w fun e w'=>e=.returned (.int .i64 0)/\w'=w)):
  Calls prog 59 #[.pointer (some ⟨bq,0,none⟩),.int .i64 i,.int .i64 n,.int .i64 m] w fun e w'=>e=.returned (.int .i64 0)/\FlN w w' bq cs k v (fs.set n (sY (fs.getD n []) m)):=by
 obtain ⟨g,c,rfl,hc,hfz⟩:=ho.cell hnf
 have H:=Hid.mk' h
 have HO:=Hid.mk' ho
 have HK:=Hid.mk' hk
 have hgb:g≠bq:=fun e=>hn (by rw[e];rfl)
 have hgl:g<w.heap.size:=World.block_lt_of_cell? w _ hc
 have fz:=hfz n hnf
 have ck:=h.c _ _ hk
 have SM:Hid (∀t,fs.getD n []=t->fs.set n t=fs):=Hid.mk' fun t e=>by
  subst e
  rw[List.getD_eq_getElem?_getD,List.getElem?_eq_getElem hnf]
  simp
 generalize ht0:fs.getD n []=t at *
 have ts:=aQ t
 have n0:(0:Int)<=(n:Int):=by omega
 have n1:(n:Int)<(fs.length:Int):=by omega
 obtain ⟨q,hq⟩:∃q:Nat,q=m.toNat:=⟨_,rfl⟩
 have EC:Hid (sY t m=t.take q):=by show _=_;unfold sY;rw[hq]
 have tk:(S t).extract 0 q=S (t.take q):=gN _ _
 have SS:Hid (FlN w w bq cs k (.slice (some ⟨g,0,none⟩) fs.length c) fs):=⟨_,by rw[oN HK.out];exact H.out,HO.out,Only.refl _ _,fun j hj=>.inl hj⟩
 clear h hk ho hn hfz
 rw[EC.out]
 by_cases hql:q<t.length
 ·have CK:Hid (w.drew.cell? ⟨bq,k,none⟩=some (.slice (some ⟨g,0,none⟩) fs.length c)):=ck
  have cd:w.drew.cell? ⟨g,n,none⟩=some (.string (S t)):=hc
  have fd:w.drew.frozen? ⟨g,n,none⟩=false:=fz
  have GD:Hid (w.grownBy w.drew none):=aA (aD _ _)
  have OD:Hid (OwnF 0 w.drew (.slice (some ⟨g,0,none⟩) fs.length c) fs):=World.ownsRow.drew HO.out
  have HD:=Hid.mk' H.out.drew
  have hq0:(0:Int)<(t.length:Int):=by omega
  have hqq:(q:Int)<(t.length:Int):=by omega
  have hqz:(0:Int)<=(q:Int):=by omega
  have hqe:(q:Int)<=(t.length:Int):=by omega
  have hqn:¬(q:Int)<0:=by omega
  have hmq:(m<0/\q=0)∨m=(q:Int):=by omega
  clear hq hql EC SS SM ht0
  rcases hmq with ⟨hm,rfl⟩ | rfl
  all_goals
   rcases hik with ⟨rfl,rfl⟩ | ⟨rfl,rfl⟩
   all_goals
    go_enter func59,ntmps59
    go_wp2_with fail
    refine Calls.mono U.out ?_
    rintro e w1 ⟨rfl,rfl⟩
    go_wp2_with fail
    refine wp_region_held_drew (S:=fun w'=>At w' bq cs) (by kernel_rfl) HD.out (fun hHeld=>?_)
    generalize w1.drew=wd at *
    refine aN 0 ?_;simp only[aF]
    refine aN 1 ?_;simp only[aF]
    refine aN 2 ?_;simp only[aF]
    refine aN 3 ?_;simp only[aF]
    refine aN 4 ?_;simp only[aF]
    refine bV 5 (fun _ h=>h.c _ _ HK.out) ?_;simp only[aF]
    refine aN 6 ?_;simp only[aF]
    refine aN 7 ?_;simp only[aF]
    refine aN 8 ?_;simp only[aF]
    refine aN 9 ?_;simp only[aF]
    refine aN 10 ?_;simp only[aF]
    refine aN 11 ?_;simp only[aF]
    refine bV 12 (fun _ h=>h.c _ _ HK.out) ?_;simp only[aF]
    refine aN 13 ?_;simp only[aF]
    refine aN 14 ?_;simp only[aF]
    refine aN 16 ?_;simp only[aF]
    refine fV 15 (by kernel_rfl) (by rfl) (by rfl) (fun K hK=>?_)
    go_simp
    refine hK _ _ hHeld ?_
    clear hK K
    refine aN 17 ?_;simp only[aF]
    refine aN 18 ?_;simp only[aF]
    refine fV 19 (by kernel_rfl) (by rfl) (by rfl) (fun K hK=>?_)
    go_simp
    refine hK _ _ (hHeld.only (Only.set wd g n _) (fun e=>hgb e.symm)) ?_
    clear hK K
    refine wpAnyH_done (by kernel_rfl) ?_ _
    go_wp2
    go_ret
    exact ⟨rfl,aDJ HK.out HD.out OD.out GD.out hgb _⟩
 ·have E2:t.take q=t:=List.take_of_length_le (by omega)
  rw[E2,SM.out t rfl]
  clear E2 tk
  by_cases hm:m<0
  ·have hq':¬(0:Int)<(t.length:Int):=by omega
   clear hql hq
   rcases hik with ⟨rfl,rfl⟩ | ⟨rfl,rfl⟩
   all_goals
    go_enter func59,ntmps59
    go_wp2_with fail
    refine Calls.mono U.out ?_
    rintro e w1 ⟨rfl,rfl⟩
    go_wp2
    go_ret
    exact ⟨rfl,SS.out⟩
  ·obtain rfl:m=q:=by omega
   have hq':¬(q:Int)<(t.length:Int):=by omega
   have hm':¬(q:Int)<0:=by omega
   clear hm hql hq
   rcases hik with ⟨rfl,rfl⟩ | ⟨rfl,rfl⟩
   all_goals
    go_enter func59,ntmps59
    go_wp2_with fail
    refine Calls.mono U.out ?_
    rintro e w1 ⟨rfl,rfl⟩
    go_wp2
    go_ret
    exact ⟨rfl,SS.out⟩
section
variable {w : World} {bq q0 q1 : Nat} {cI cO cJ : Int} {r0 r1 : Rs} {v0 v1 : Value} {f0 f1 : List (List UInt8)}
theorem aIH {i:Int}(hi:aV i):(i=0/\5+i.toNat=5)∨(i=1/\5+i.toNat=6):=by
 rcases hi with rfl | rfl
 ·exact .inl ⟨rfl,rfl⟩
 ·exact .inr ⟨rfl,rfl⟩
theorem uI (h:DX w bq q0 q1 cI cO cJ r0 r1 v0 v1 f0 f1)(i k:Int):
  Calls prog 57 #[.pointer (some ⟨bq,0,none⟩),.int .i64 i,.int .i64 k] w fun e w'=>e=.returned (.int .i64 (kP f0 f1 i k))/\DXn w w' bq q0 q1 cI cO cJ r0 r1 v0 v1 (fH f0 f1 (fB · k) i).1 (fH f0 f1 (fB · k) i).2:=by
 have U:=Hid.mk' (jK h i k)
 by_cases hu:kP f0 f1 i k=0
 ·obtain ⟨hi,hk⟩:=aCj hu
  obtain ⟨hc,ho,hn,hl,hx⟩:=h.at hi
  have E1:fH f0 f1 (fB · k) i=bN f0 f1 ((aC f0 f1 i).eraseIdx k.toNat) i:=by
   unfold fH
   rw[if_pos hi]
   show bN f0 f1 (fB (aC f0 f1 i) k) i=_
   unfold fB
   rw[if_pos hk]
  have hd:=sE (k:=k) hx
  have hdl:=pL (k:=k) hl
  unfold fB at hd hdl
  rw[if_pos hk] at hd hdl
  obtain ⟨n,rfl⟩:∃n:Nat,k=n:=⟨k.toNat,by have:=hk.1;omega⟩
  rw[hu] at U
  rw[E1,hu]
  simp only[Int.toNat_natCast] at hd hdl ⊢
  refine (aGt bq _ i (aIH hi) _ _ _ n w h.ry.at_ hc ho hn hl (by have:=hk.2;omega) U).mono ?_
  rintro e w' ⟨rfl,nn⟩
  exact ⟨rfl,h.put hi nn hdl hd⟩
 ·rw[aBg hu (fB · k) (fun fs hk=>if_neg hk)]
  have H:=Hid.mk' h
  have cb:(kP f0 f1 i k !=0)=true:=by simpa using hu
  generalize kP f0 f1 i k=z at *
  clear hu h
  go_enter func57,ntmps57
  go_wp2_with fail
  refine Calls.mono U.out ?_
  rintro e w1 ⟨rfl,rfl⟩
  go_wp2
  go_ret
  exact ⟨rfl,H.out.same⟩
theorem aBi (h:DX w bq q0 q1 cI cO cJ r0 r1 v0 v1 f0 f1)(i k m:Int):
  Calls prog 59 #[.pointer (some ⟨bq,0,none⟩),.int .i64 i,.int .i64 k,.int .i64 m] w fun e w'=>e=.returned (.int .i64 (kP f0 f1 i k))/\DXn w w' bq q0 q1 cI cO cJ r0 r1 v0 v1 (fH f0 f1 (dU · k m) i).1 (fH f0 f1 (dU · k m) i).2:=by
 have U:=Hid.mk' (jK h i k)
 by_cases hu:kP f0 f1 i k=0
 ·obtain ⟨hi,hk⟩:=aCj hu
  obtain ⟨hc,ho,hn,hl,hx⟩:=h.at hi
  have E1:fH f0 f1 (dU · k m) i=bN f0 f1 (dU (aC f0 f1 i) k m) i:=by
   unfold fH
   rw[if_pos hi]
  have hd:=tW (k:=k) (n:=m) hx
  have hdl:=sF (k:=k) (n:=m) hl
  obtain ⟨n,rfl⟩:∃n:Nat,k=n:=⟨k.toNat,by have:=hk.1;omega⟩
  have hnl:n<(aC f0 f1 i).length:=by have:=hk.2;omega
  have es:dU (aC f0 f1 i) n m=(aC f0 f1 i).set n (sY ((aC f0 f1 i).getD n []) m):=by
   unfold dU lH
   rw[if_pos hk,if_pos hk]
   simp
  rw[hu] at U
  rw[E1,hu]
  have ht:((aC f0 f1 i).getD n []).length<=100000:=by
   rw[List.getD_eq_getElem?_getD,List.getElem?_eq_getElem hnl]
   exact Nat.le_trans (hx _ (List.getElem_mem hnl)) (by omega)
  refine (aDK bq _ i (aIH hi) _ _ _ n m w h.ry.at_ hc ho hn hnl ht U).mono ?_
  rintro e w' ⟨rfl,nn⟩
  rw[<- es] at nn
  exact ⟨rfl,h.put hi nn hdl hd⟩
 ·rw[aBg hu (dU · k m) (fun fs hk=>if_neg hk)]
  have H:=Hid.mk' h
  have cb:(kP f0 f1 i k !=0)=true:=by simpa using hu
  generalize kP f0 f1 i k=z at *
  clear hu h
  go_enter func59,ntmps59
  go_wp2_with fail
  refine Calls.mono U.out ?_
  rintro e w1 ⟨rfl,rfl⟩
  go_wp2
  go_ret
  exact ⟨rfl,H.out.same⟩
end
section
variable {w : World} {bq : Nat} {D : Nat -> Prop} {y : Pr}
theorem aIe (h:DS w bq D y)(i:Int):Calls prog 50 #[.pointer (some ⟨bq,0,none⟩),.int .i64 i] w fun e w'=>e=.returned (.int .i64 (y.tick i).1)/\DSn w w' bq D (y.tick i).2:=by
 have h0:=h
 obtain ⟨cI,cO,cJ,r0,r1,q0,q1,v0,v1,hx,pg,hD⟩:=h
 unfold Pr.tick Pr.onUp
 by_cases hu:y.upE i=0
 ·simp only[if_pos hu]
  obtain ⟨hi,up⟩:=eL hu
  obtain ⟨g,hn,e1,e2,e3⟩:=pg.at hi
  have gd:=aDy g up
  refine aCf bq q0 q1 cI cO cJ r0 r1 i w hx.ry _ (fun hz=>absurd (by rw[pg.up];exact hu) hz) (fun _=>?_)
  have jr:=gB bq q0 q1 cI cO cJ _ _ i (aC r0 r1 i) eO w hx.ry.at_ (hx.ry.at hi).1 hi g.rok g.kb (by rw[g.rct];exact g.ct) (by have:=g.j1;rw[<- e3];omega) uA ⟨rfl,rfl⟩ (hx.ry.at hi).2
  refine Calls.mono jr ?_
  rintro e w2 ⟨rfl,a2,o2⟩
  rw[<- e3] at a2 ⊢
  exact ⟨_,rfl,by rw[gd.1];rfl,hx.ds hD pg hi a2 o2 gd.2 (kY _ _)⟩
 ·simp only[if_neg hu]
  exact aCf bq q0 q1 cI cO cJ r0 r1 i w hx.ry _ (fun _=>⟨by rw[pg.up];rfl,h0.same⟩) (fun hz=>absurd ((pg.up i).symm.trans hz) hu)
theorem aIf (h:DS w bq D y)(i:Int):Calls prog 51 #[.pointer (some ⟨bq,0,none⟩),.int .i64 i] w fun e w'=>e=.returned (.int .i64 (y.snap i).1)/\DSn w w' bq D (y.snap i).2:=by
 have h0:=h
 obtain ⟨cI,cO,cJ,r0,r1,q0,q1,v0,v1,hx,pg,hD⟩:=h
 unfold Pr.snap Pr.onUp
 refine (aDG bq q0 q1 cI cO cJ y.s0 y.s1 r0 r1 i w hx.ry pg).mono ?_
 rintro e w2 ⟨k1,k2⟩
 rw[pg.up] at k1 k2
 by_cases hu:y.upE i=0
 ·simp only[if_pos hu]
  obtain ⟨hi,up⟩:=eL hu
  obtain ⟨g,hn,e1,e2,e3⟩:=pg.at hi
  have gd:=aDz g up
  obtain ⟨he,a2,o2⟩:=k2 hu
  rw[<- e3] at he a2
  exact ⟨by rw[he,gd.1];rfl,hx.ds hD pg hi a2 o2 gd.2 (aGs _)⟩
 ·simp only[if_neg hu]
  obtain ⟨he,rfl⟩:=k1 hu
  exact ⟨he,h0.same⟩
theorem aGu (h:DS w bq D y)(i m:Int)(hm:wE m):Calls prog 53 #[.pointer (some ⟨bq,0,none⟩),.int .i64 i,.int .i64 m] w fun e w'=>e=.returned (.int .i64 (y.crash i m).1)/\DSn w w' bq D (y.crash i m).2:=by
 have h0:=h
 obtain ⟨cI,cO,cJ,r0,r1,q0,q1,v0,v1,hx,pg,hD⟩:=h
 unfold Pr.crash Pr.onUp
 refine (aBd bq q0 q1 cI cO cJ r0 r1 i m w hx.ry pg.g0.rok pg.g1.rok hm).mono ?_
 rintro e w2 ⟨he,k1,k2⟩
 rw[pg.up] at he k1 k2
 by_cases hu:y.upE i=0
 ·simp only[if_pos hu]
  obtain ⟨hi,up⟩:=eL hu
  obtain ⟨g,hn,e1,e2,e3⟩:=pg.at hi
  obtain ⟨a2,o2⟩:=k2 hu
  exact ⟨by rw[he];exact congrArg (fun z=>Ending.returned (Value.int .i64 z)) hu,hx.ds hD pg hi a2 o2 (aAW g m) ⟨rfl,rfl,rfl,rfl⟩⟩
 ·simp only[if_neg hu]
  obtain rfl:=k1 hu
  exact ⟨he,h0.same⟩
theorem aGv (h:DS w bq D y)(i k m:Int)(hk:k<=9223372036854775807)(hm:wE m):Calls prog 52 #[.pointer (some ⟨bq,0,none⟩),.int .i64 i,.int .i64 k,.int .i64 m] w fun e w'=>e=.returned (.int .i64 (y.brk i k m).1)/\DSn w w' bq D (y.brk i k m).2:=by
 have h0:=h
 obtain ⟨cI,cO,cJ,r0,r1,q0,q1,v0,v1,hx,pg,hD⟩:=h
 unfold Pr.brk
 refine (aBc bq q0 q1 cI cO cJ r0 r1 i k m w hx.ry).mono ?_
 rintro e w2 ⟨k1,k2⟩
 by_cases hc:aV i/\0<=k
 ·simp only[if_pos hc]
  obtain ⟨he,a2,o2⟩:=k2 hc
  exact ⟨he,hx.ds hD pg hc.1 a2 o2 (aAX (pg.at hc.1).1 k m hc.2 hk hm) ⟨rfl,rfl,rfl,rfl⟩⟩
 ·simp only[if_neg hc]
  obtain ⟨he,rfl⟩:=k1 (by by_cases hi:aV i;exact .inr (by have:¬0<=k:=fun e=>hc ⟨hi,e⟩;omega);exact .inl hi)
  exact ⟨he,h0.same⟩
theorem aBj (h:DS w bq D y)(i:Int):Calls prog 54 #[.pointer (some ⟨bq,0,none⟩),.int .i64 i] w fun e w'=>e=.returned (.int .i64 (y.restart i).1)/\DSn w w' bq D (y.restart i).2:=by
 have h0:=h
 obtain ⟨cI,cO,cJ,r0,r1,q0,q1,v0,v1,hx,pg,hD⟩:=h
 have c0:r0.ct<2:=by rw[pg.g0.rct];exact pg.g0.ct
 have c1:r1.ct<2:=by rw[pg.g1.rct];exact pg.g1.ct
 unfold Pr.restart
 refine (wJ bq q0 q1 cI cO cJ r0 r1 i w hx.ry pg.g0.rok pg.g1.rok c0 c1).mono ?_
 rintro e w2 ⟨k1,k2⟩
 by_cases hc:aV i/\(y.sh i).up=false
 ·simp only[if_pos hc]
  obtain ⟨g,_⟩:=pg.at hc.1
  obtain ⟨he,a2,o2⟩:=k2 ⟨hc.1,by rw[g.up];exact hc.2⟩
  exact ⟨he,hx.ds hD pg hc.1 a2 o2 (kX g).2 (mD _)⟩
 ·simp only[if_neg hc]
  obtain ⟨he,rfl⟩:=k1 (fun e=>hc ⟨e.1,by have:=e.2;rw[(pg.at e.1).1.up] at this;exact this⟩)
  exact ⟨he,h0.same⟩
theorem aBk (h:DS w bq D y)(i x z:Int):Calls prog 49 #[.pointer (some ⟨bq,0,none⟩),.int .i64 i,.agg #[.int .i64 x,.int .i64 z]] w fun e w'=>e=.returned (.int .i64 (y.destroy i x z).1)/\DSn w w' bq D (y.destroy i x z).2:=by
 have h0:=h
 obtain ⟨cI,cO,cJ,r0,r1,q0,q1,v0,v1,hx,pg,hD⟩:=h
 unfold Pr.destroy Pr.onUp Sh.dest
 by_cases hu:y.upE i=0
 ·simp only[if_pos hu]
  have hu':upE r0.up r1.up i=0:=by rw[pg.up];exact hu
  obtain ⟨hi,up⟩:=eL hu
  obtain ⟨g,hn,e1,e2,e3⟩:=pg.at hi
  by_cases hh:cM (y.sh i).th x z=true
  ·simp only[if_pos hh]
   obtain ⟨idb,gd1,gd2⟩:=uD g up x z hh
   refine nU bq q0 q1 cI cO cJ y.s0 y.s1 r0 r1 i x z w hx.ry pg _ (fun hz=>absurd hu' hz) (fun _ hz=>by have hz':cM (y.sh i).th x z=false:=hz;rw[hh] at hz';cases hz') (fun _ _ W gW=>?_)
   have hW:=hx.grown gW
   have jr:=gB bq q0 q1 cI cO cJ _ _ i (aC r0 r1 i) (eN x z) W hW.ry.at_ (hW.ry.at hi).1 hi g.rok g.kb (by rw[g.rct];exact g.ct) (by have:=g.j1;rw[<- e3];omega) (uB idb) ⟨rfl,rfl⟩ (hW.ry.at hi).2
   refine Calls.mono jr ?_
   rintro e w2 ⟨rfl,a2,o2⟩
   rw[<- e3] at a2 ⊢
   exact ⟨_,rfl,by rw[gd1];rfl,DSn.grown gW (hW.ds hD pg hi a2 o2 gd2 (kY _ _))⟩
  ·have hf:cM (y.sh i).th x z=false:=by simpa using hh
   simp only[if_neg hh]
   rw[kL hi]
   exact nU bq q0 q1 cI cO cJ y.s0 y.s1 r0 r1 i x z w hx.ry pg _ (fun hz=>absurd hu' hz) (fun _ _ w2 g2=>⟨rfl,h0.grew g2⟩) (fun _ hz=>absurd hz hh)
 ·simp only[if_neg hu]
  have hu':¬upE r0.up r1.up i=0:=by rw[pg.up];exact hu
  exact nU bq q0 q1 cI cO cJ y.s0 y.s1 r0 r1 i x z w hx.ry pg _ (fun _ w2 g2=>⟨by rw[pg.up];rfl,h0.grew g2⟩) (fun hz=>absurd hz hu') (fun hz=>absurd hz hu')
theorem aGw (h:DS w bq D y)(i:Int)(pl sp:Nat)(wp:pl<4294967296)(wq:sp<4294967296):Calls prog 47 #[.pointer (some ⟨bq,0,none⟩),.int .i64 i,.float .f32 pl,.float .f32 sp] w fun e w'=>e=.returned (.tuple #[.agg #[.int .i64 (y.mint i pl sp).1.1,.int .i64 (y.mint i pl sp).1.2.1],.int .i64 (y.mint i pl sp).1.2.2])/\DS w' bq D (y.mint i pl sp).2/\Only w w' D:=by
 have h0:=h
 obtain ⟨cI,cO,cJ,r0,r1,q0,q1,v0,v1,hx,pg,hD⟩:=h
 unfold Pr.mint
 refine (aDF bq q0 q1 cI cO cJ y.s0 y.s1 r0 r1 i pl sp w hx.ry pg wp wq).mono ?_
 rintro e w2 ⟨k1,k2⟩
 rw[pg.up] at k1 k2
 by_cases hu:y.upE i=0
 ·simp only[if_pos hu]
  obtain ⟨hi,up⟩:=eL hu
  obtain ⟨g,hn,e1,e2,e3⟩:=pg.at hi
  obtain ⟨gd1,gd2⟩:=aDx g up pl sp wp wq
  obtain ⟨he,a2,o2⟩:=k2 hu
  rw[<- e3,<- e1] at he a2
  exact ⟨by rw[he,gd1];rfl,hx.ds' hD pg hi a2 o2 gd2 (aGr _ _ _)⟩
 ·simp only[if_neg hu]
  obtain ⟨he,g2⟩:=k1 hu
  exact ⟨he,h0.grown g2,(Only.grown g2).mono (by simp)⟩
theorem aIg (h:DS w bq D y)(i k:Int):Calls prog 57 #[.pointer (some ⟨bq,0,none⟩),.int .i64 i,.int .i64 k] w fun e w'=>e=.returned (.int .i64 (y.drop i k).1)/\DSn w w' bq D (y.drop i k).2:=by
 obtain ⟨cI,cO,cJ,r0,r1,q0,q1,v0,v1,hx,pg,hD⟩:=h
 refine (uI hx i k).mono ?_
 rintro e w' ⟨rfl,n⟩
 exact ⟨rfl,DX.flown hD pg n⟩
theorem aDL (h:DS w bq D y)(i k:Int):Calls prog 58 #[.pointer (some ⟨bq,0,none⟩),.int .i64 i,.int .i64 k] w fun e w'=>e=.returned (.int .i64 (y.double i k).1)/\DSn w w' bq D (y.double i k).2:=by
 obtain ⟨cI,cO,cJ,r0,r1,q0,q1,v0,v1,hx,pg,hD⟩:=h
 refine (zF hx i k).mono ?_
 rintro e w' ⟨rfl,n⟩
 exact ⟨rfl,DX.flown hD pg n⟩
theorem aGx (h:DS w bq D y)(i k m:Int):Calls prog 59 #[.pointer (some ⟨bq,0,none⟩),.int .i64 i,.int .i64 k,.int .i64 m] w fun e w'=>e=.returned (.int .i64 (y.spoil i k m).1)/\DSn w w' bq D (y.spoil i k m).2:=by
 obtain ⟨cI,cO,cJ,r0,r1,q0,q1,v0,v1,hx,pg,hD⟩:=h
 refine (aBi hx i k m).mono ?_
 rintro e w' ⟨rfl,n⟩
 exact ⟨rfl,DX.flown hD pg n⟩
theorem aDM (h:DS w bq D y)(i:Int)(t:List UInt8):Calls prog 61 #[.pointer (some ⟨bq,0,none⟩),.int .i64 i,.string (S t)] w fun e w'=>e=.returned (.int .i64 (y.inject i t).1)/\DSn w w' bq D (y.inject i t).2:=by
 obtain ⟨cI,cO,cJ,r0,r1,q0,q1,v0,v1,hx,pg,hD⟩:=h
 refine (zG hx i t).mono ?_
 rintro e w' ⟨rfl,n⟩
 exact ⟨rfl,DX.flown hD pg n⟩
end
theorem OwnE.cells {B:Nat}{w:World}{v:Value}{l:List En}(h:OwnE B w v l){k:Nat}(hk:k<l.length):∃g c,v=.slice (some ⟨g,0,none⟩) l.length c/\∀j u,j<5->l[k].cells[j]?=some u->w.cell? ⟨g,k * 5+j,none⟩=some u:=by
 obtain ⟨a,c,hv,hx⟩:=Lies.of_own h
 obtain ⟨g,off,rfl,hc⟩:=hx (by omega)
 subst hv
 rcases h.2 with ⟨h',_⟩ | ⟨g',cap,cur,h',_⟩
 ·cases h'
 ·injection h' with h1 _ h3
  injection h1 with h1
  injection h1 with h1 h2
  subst h1 h2
  refine ⟨g,c,rfl,fun j u hj hu=>?_⟩
  have:=hc (5 * k+j) u (by rw[dY l k j hk hj];exact hu)
  rw[show 0+(5 * k+j)=k * 5+j by omega] at this
  exact this
theorem aCk (w:World):bH w (.slice none 0 0) []/\bL w (.slice none 0 0) []:=⟨⟨none,0,rfl,by simp⟩,⟨none,0,rfl,by simp⟩⟩
theorem aGy (e:En)(w:World)(hm:aP (cX e)=true)(wf:WfIt e.it):
  Calls prog 104 #[.agg #[.int .i64 7,.int .i64 e.sq,.int .i64 e.it.sh,.int .i64 e.it.nu,.float .f32 e.it.pl,.float .f32 e.it.sp,.int .i64 0,.int .i64 0,.int .i64 0,.int .i64 0,.int .i64 0,.slice none 0 0,.slice none 0 0]] w fun z w'=>z=.returned (.tuple #[.string (S (dV e)),.int .i64 0])/\w.grownBy w' none:=
 gU (cX e) (.slice none 0 0) (.slice none 0 0) w (aCk w).1 (aCk w).2 ⟨wf,by simp[cX],by simp[cX]⟩ (by simp[cX]) (by simp[cX]) hm
theorem aDN {w:World}{bq q0 q1:Nat}{cI cO cJ:Int}{s0 s1:Sh}{r0 r1:Rs}{v0 v1:Value}{f0 f1:List (List UInt8)}(h:DX w bq q0 q1 cI cO cJ r0 r1 v0 v1 f0 f1)(pg:PG cI cO cJ s0 s1 r0 r1)(i:Int)(hu:upE r0.up r1.up i=0):
  Calls prog 55 #[.pointer (some ⟨bq,0,none⟩),.int .i64 i] w fun e w'=>e=.returned (.int .i64 0)/\DXn w w' bq q0 q1 cI cO cJ r0 r1 v0 v1 (tX f0 f1 (aC s0 s1 i).ob i).1 (tX f0 f1 (aC s0 s1 i).ob i).2:=by
 have U:=Hid.mk' (gV bq q0 q1 cI cO cJ _ _ i r0 r1 w h.ry.at_ h.ry.a0 h.ry.a1)
 rw[hu] at U
 have ST:=Hid.mk' (dP bq q0 q1 cI cO cJ s0 s1 r0 r1 i w h.ry pg hu)
 have hi:=(pg.okup hu).1
 have key:(∀e∈(aC s0 s1 i).ds.ob,aP (cX e)=true/\WfIt e.it)/\(aC s0 s1 i).ds.ob.length<=8:=by
  obtain ⟨hi,up⟩:=pg.okup hu
  obtain ⟨gd,hn,_⟩:=pg.at hi
  obtain ⟨_,_,_,_,_,has,_⟩:=gd.has up
  have hol:=has.ol
  have ho1:=gd.o1
  exact ⟨yY has,by omega⟩
 have OK:=Hid.mk' key.1
 have hol:=key.2
 unfold tX
 rw[show (aC s0 s1 i).ob=(aC s0 s1 i).ds.ob from rfl]
 generalize (aC s0 s1 i).ds=d at *
 generalize (aC s0 s1 i).no=no at *
 have H:=Hid.mk' h
 have HO:=Hid.mk' (gS hi)
 have hw:IntKind.i64.wrap (1 -i)=1 -i:=by rcases hi with rfl | rfl<;>rfl
 obtain ⟨n,hN⟩:∃n,d.ob.length=n:=⟨_,rfl⟩
 have HN:=Hid.mk' hN
 rw[hN] at hol
 clear hu hi h pg hN key
 go_enter func55,ntmps55
 go_wp2_with fail
 refine Calls.mono U.out ?_
 rintro e w0 ⟨rfl,rfl⟩
 go_wp2_with fail
 refine Calls.mono ST.out ?_
 rintro e w1 ⟨bs,vi,vo,rfl,sg⟩
 have SG:=Hid.mk' sg
 have hbs:=sg.hb
 clear sg
 go_wp2_with fail
 go_loopw [7] (fun t wr=>∃k:Nat,k<=n/\t=.int .i64 k/\DXn w1 wr bq q0 q1 cI cO cJ r0 r1 v0 v1 (bN f0 f1 (((d.ob.take k).map dV).foldl dX (aC f0 f1 (1 -i))) (1 -i)).1 (bN f0 f1 (((d.ob.take k).map dV).foldl dX (aC f0 f1 (1 -i))) (1 -i)).2) (fun t _=>n -(intOf t).toNat)
 case atStart=>
  refine ⟨0,by omega,rfl,?_⟩
  rw[List.take_zero,List.map_nil,List.foldl_nil,kV _ _ HO.out]
  exact (H.out.grown SG.out.g).same
 case round=>
  obtain ⟨k,hk,rfl,hf⟩:=hrel
  obtain ⟨x0,x1,f1',f2',f3'⟩:=hf
  have nb:∀j,w0.heap.size<=j->¬tE bq q0 q1 v0 v1 j:=fun j hj e=>by have:=H.out.lt e;omega
  have AS:=Hid.mk' (SG.out.at_.only f2' (nb _ hbs))
  have OB:Hid (OwnE w0.heap.size wr vo d.ob):=f2'.own SG.out.ob (fun j hj=>nb j (SG.out.ob.lt j hj).1)
  have DXR:=Hid.mk' f1'
  have O2:=Hid.mk' f2'
  have B2:=Hid.mk' f3'
  obtain ⟨ao,co,hvo⟩:=aJ OB.out
  rw[HN.out] at hvo
  subst hvo
  have c2:=AS.out.c 2 _ rfl
  clear f1' f2' f3' nb
  by_cases hlt:k<n
  ·have hkl:k<d.ob.length:=by rw[HN.out];exact hlt
   obtain ⟨g,c',hv,hc⟩:=OwnE.cells OB.out hkl
   injection hv with ha _ _
   subst ha
   obtain ⟨x,hx⟩:∃x,d.ob[k]=x:=⟨_,rfl⟩
   rw[hx] at hc
   have d0:=hc 0 _ (by omega) rfl
   have d1:=hc 1 _ (by omega) rfl
   have d2:=hc 2 _ (by omega) rfl
   have d3:=hc 3 _ (by omega) rfl
   have d4:=hc 4 _ (by omega) rfl
   rw[Nat.add_zero] at d0
   have hxm:x∈d.ob:=by rw[<- hx];exact List.getElem_mem hkl
   have CE:=Hid.mk' fun W=>aGy x W (OK.out x hxm).1 (OK.out x hxm).2
   have TK:Hid (((d.ob.take (k+1)).map dV).foldl dX (aC f0 f1 (1 -i))=dX (((d.ob.take k).map dV).foldl dX (aC f0 f1 (1 -i))) (dV x)):=by
    show _=_
    rw[List.take_succ_eq_append_getElem hkl,hx,List.map_append,List.foldl_append]
    rfl
   have PT:=Hid.mk' fun W (gW:wr.grownBy W none)=>mE (DXR.out.grown gW) HO.out (dV x) (by rw[sN];omega)
   rw[sI,tY,<- TK.out] at PT
   clear hc hx hxm TK hkl
   generalize dV x=T at *
   have y0:(0:Int)<=(k:Int):=by omega
   have y1:(k:Int)<(n:Int):=by omega
   have DD:Hid (wr.drew.cell? ⟨g,k * 5,none⟩=some (.int .i64 x.sq)/\wr.drew.cell? ⟨g,k * 5+1,none⟩=some (.int .i64 x.it.sh)/\wr.drew.cell? ⟨g,k * 5+2,none⟩=some (.int .i64 x.it.nu)/\wr.drew.cell? ⟨g,k * 5+3,none⟩=some (.float .f32 x.it.pl)/\wr.drew.cell? ⟨g,k * 5+4,none⟩=some (.float .f32 x.it.sp)):=⟨d0,d1,d2,d3,d4⟩
   clear d0 d1 d2 d3 d4
   go_wp2_with fail
   refine wp_region_held_drew (S:=fun w'=>At w' bs (kN no vi (.slice (some ⟨g,0,none⟩) n co) d.ms)/\w'.cell? ⟨g,k * 5,none⟩=some (.int .i64 x.sq)/\w'.cell? ⟨g,k * 5+1,none⟩=some (.int .i64 x.it.sh)/\w'.cell? ⟨g,k * 5+2,none⟩=some (.int .i64 x.it.nu)/\w'.cell? ⟨g,k * 5+3,none⟩=some (.float .f32 x.it.pl)/\w'.cell? ⟨g,k * 5+4,none⟩=some (.float .f32 x.it.sp)) (by kernel_rfl) (⟨AS.out.drew,DD.out⟩) (fun hHeld=>?_)
   refine aN 0 ?_;simp only[aF]
   refine aN 1 ?_;simp only[aF]
   refine aN 2 ?_;simp only[aF]
   refine bV 3 (fun _ h=>h.1.c 2 _ rfl) ?_;simp only[aF]
   refine aN 4 ?_;simp only[aF]
   refine aN 5 ?_;simp only[aF]
   refine aN 6 ?_;simp only[aF]
   refine bV 7 (fun _ h=>h.2.1) ?_;simp only[aF]
   refine aN 8 ?_;simp only[aF]
   refine aN 9 ?_;simp only[aF]
   refine aN 10 ?_;simp only[aF]
   refine bV 11 (fun _ h=>h.1.c 2 _ rfl) ?_;simp only[aF]
   refine aN 12 ?_;simp only[aF]
   refine aN 13 ?_;simp only[aF]
   refine aN 14 ?_;simp only[aF]
   refine dG 15 rfl (by intro w hSw;have S1:=hSw.2.2.1;have S2:=hSw.2.2.2.1;have S3:=hSw.2.2.2.2.1;have S4:=hSw.2.2.2.2.2;go_simp;try with_reducible rfl) ?_;simp only[aF]
   refine aN 16 ?_;simp only[aF]
   refine aX 17 (f:=104) (args:=#[.agg #[.int .i64 7,.int .i64 x.sq,.int .i64 x.it.sh,.int .i64 x.it.nu,.float .f32 x.it.pl,.float .f32 x.it.sp,.int .i64 0,.int .i64 0,.int .i64 0,.int .i64 0,.int .i64 0,.slice none 0 0,.slice none 0 0]]) (by kernel_rfl) (by rfl) (by rfl) (by go_simp) ?_
   refine Calls.mono (CE.out _) ?_
   rintro e w2 ⟨rfl,g2⟩
   have G2:=Hid.mk' ((aA (aD wr none)).trans g2)
   have h2:=hHeld.1.grown g2
   have h3:=hHeld.2
   replace h3:=And.intro h2 (⟨g2.cell h3.1 (by simp),g2.cell h3.2.1 (by simp),g2.cell h3.2.2.1 (by simp),g2.cell h3.2.2.2.1 (by simp),g2.cell h3.2.2.2.2 (by simp)⟩:w2.cell? ⟨g,k * 5,none⟩=some (.int .i64 x.sq)/\w2.cell? ⟨g,k * 5+1,none⟩=some (.int .i64 x.it.sh)/\w2.cell? ⟨g,k * 5+2,none⟩=some (.int .i64 x.it.nu)/\w2.cell? ⟨g,k * 5+3,none⟩=some (.float .f32 x.it.pl)/\w2.cell? ⟨g,k * 5+4,none⟩=some (.float .f32 x.it.sp))
   clear hHeld h2 g2
   have hHeld:=h3
   refine ⟨_,rfl,hHeld,?_⟩;simp only[aF]
   refine aN 18 ?_;simp only[aF]
   refine aN 19 ?_;simp only[aF]
   refine aN 20 ?_;simp only[aF]
   refine aN 21 ?_;simp only[aF]
   refine aN 22 ?_;simp only[aF]
   refine wpAnyH_done (by kernel_rfl) ?_ _
   clear hHeld h3 c2
   go_wp2_with fail
   refine Calls.mono (PT.out _ G2.out) ?_
   rintro e w3 ⟨rfl,q3⟩
   go_wp2
   exact ⟨⟨k+1,by omega,by go_num,DXn.trans O2.out B2.out (DXn.grown G2.out q3)⟩,by simp[intOf];omega⟩
  ·obtain rfl:k=n:=by omega
   have y1:¬(k:Int)<(k:Int):=by omega
   go_wp2
   go_ret
   refine ⟨rfl,DXn.grown SG.out.g ⟨x0,x1,?_,O2.out,B2.out⟩⟩
   have:=DXR.out
   rw[List.take_of_length_le (by rw[HN.out];omega)] at this
   exact this
theorem aIh {w:World}{bq:Nat}{D:Nat->Prop}{y:Pr}(h:DS w bq D y)(i:Int):Calls prog 55 #[.pointer (some ⟨bq,0,none⟩),.int .i64 i] w fun e w'=>e=.returned (.int .i64 (y.send i).1)/\DSn w w' bq D (y.send i).2:=by
 have h0:=h
 obtain ⟨cI,cO,cJ,r0,r1,q0,q1,v0,v1,hx,pg,hD⟩:=h
 unfold Pr.send
 by_cases hu:y.upE i=0
 ·simp only[if_pos hu]
  refine (aDN hx pg i (by rw[pg.up];exact hu)).mono ?_
  rintro e w' ⟨rfl,n⟩
  exact ⟨rfl,DX.flown hD pg n⟩
 ·simp only[if_neg hu]
  have U:=Hid.mk' (gV bq q0 q1 cI cO cJ _ _ i r0 r1 w hx.ry.at_ hx.ry.a0 hx.ry.a1)
  rw[pg.up] at U
  have cb:(y.upE i !=0)=true:=by simpa using hu
  have E:Hid (upE y.s0.up y.s1.up i=y.upE i):=rfl
  rw[E.out] at U
  have H0:=Hid.mk' h0
  generalize y.upE i=z at *
  clear hu hx pg hD h0 E
  go_enter func55,ntmps55
  go_wp2_with fail
  refine Calls.mono U.out ?_
  rintro e w1 ⟨rfl,rfl⟩
  go_wp2
  go_ret
  exact ⟨rfl,H0.out.same⟩
abbrev LC (bp bq bk:Nat):List Value:=[.pointer (some ⟨bp,0,none⟩),.pointer (some ⟨bq,0,none⟩),.pointer (some ⟨bk,0,none⟩)]
abbrev AC (K sh k m x y:Int)(pl sp:Nat)(t:ByteArray):List Value:=[.int .i64 K,.int .i64 sh,.int .i64 k,.int .i64 m,.int .i64 x,.int .i64 y,.float .f32 pl,.float .f32 sp,.string t]
structure LP (w:World)(bw bp bq bk:Nat)(A D R:Nat->Prop)(p:Pr)(n:Nat):Prop where
 lw:At w bw (LC bp bq bk)
 pw:PW w bp A p
 ds:DS w bq D p
 bo:∃nI nE nT,nI<=n/\nE<=n/\nT<=n/\BK w bk R nI nE nT
 la:∀j,A j->j<w.heap.size/\j≠bw/\¬D j/\¬R j
 ld:∀j,D j->j<w.heap.size/\j≠bw/\¬R j
 lr:∀j,R j->j<w.heap.size/\j≠bw
def LF (bw:Nat)(A D R:Nat->Prop)(j:Nat):Prop:=j=bw∨A j∨D j∨R j
def LI (w:World)(bw:Nat)(G:Nat->Prop)(n:Nat):Prop:=∃bp bq bk A D R p,LP w bw bp bq bk A D R p n/\∀j,LF bw A D R j->G j
def LIn (w w':World)(bw:Nat)(G:Nat->Prop)(n:Nat):Prop:=LI w' bw (fun j=>G j∨w.heap.size<=j) n/\Only w w' G
section
variable {w w' : World} {bw bp bq bk : Nat} {A D R G : Nat -> Prop} {p : Pr} {n : Nat}
theorem LP.lt (h:LP w bw bp bq bk A D R p n){j:Nat}(hj:LF bw A D R j):j<w.heap.size:=by
 rcases hj with rfl | hj | hj | hj
 ·exact h.lw.lt
 ·exact (h.la j hj).1
 ·exact (h.ld j hj).1
 ·exact (h.lr j hj).1
theorem LP.only {F:Nat->Prop}(h:LP w bw bp bq bk A D R p n)(o:Only w w' F)(hF:∀j,LF bw A D R j->¬F j):LP w' bw bp bq bk A D R p n:=
 ⟨h.lw.only o (hF _ (.inl rfl)),h.pw.only o (fun j _ hj=>hF j (.inr (.inl hj))),h.ds.only o (fun j _ hj=>hF j (.inr (.inr (.inl hj)))),by
  obtain ⟨a,b,c,h1,h2,h3,hb⟩:=h.bo
  exact ⟨a,b,c,h1,h2,h3,hb.only o (fun j hj=>hF j (.inr (.inr (.inr hj))))⟩,
  fun j hj=>⟨Nat.lt_of_lt_of_le (h.la j hj).1 o.size,(h.la j hj).2⟩,fun j hj=>⟨Nat.lt_of_lt_of_le (h.ld j hj).1 o.size,(h.ld j hj).2⟩,fun j hj=>⟨Nat.lt_of_lt_of_le (h.lr j hj).1 o.size,(h.lr j hj).2⟩⟩
theorem LP.grown (h:LP w bw bp bq bk A D R p n)(g:w.grownBy w' none):LP w' bw bp bq bk A D R p n:=h.only (Only.grown g) (by simp)
theorem LP.mono {m:Nat}(h:LP w bw bp bq bk A D R p n)(hm:n<=m):LP w bw bp bq bk A D R p m:=
 ⟨h.lw,h.pw,h.ds,by obtain ⟨a,b,c,h1,h2,h3,hb⟩:=h.bo;exact ⟨a,b,c,by omega,by omega,by omega,hb⟩,h.la,h.ld,h.lr⟩
theorem LI.only {F:Nat->Prop}(h:LI w bw G n)(o:Only w w' F)(hF:∀j,j<w.heap.size->G j->¬F j):LI w' bw G n:=by
 obtain ⟨bp,bq,bk,A,D,R,p,h,hG⟩:=h
 exact ⟨bp,bq,bk,A,D,R,p,h.only o (fun j hj=>hF j (h.lt hj) (hG j hj)),hG⟩
theorem LI.grown (h:LI w bw G n)(g:w.grownBy w' none):LI w' bw G n:=h.only (Only.grown g) (by simp)
theorem LI.mono {m:Nat}(h:LI w bw G n)(hm:n<=m):LI w bw G m:=by
 obtain ⟨bp,bq,bk,A,D,R,p,h,hG⟩:=h
 exact ⟨bp,bq,bk,A,D,R,p,h.mono hm,hG⟩
theorem LI.within {G':Nat->Prop}(h:LI w bw G n)(hG':∀j,j<w.heap.size->G j->G' j):LI w bw G' n:=by
 obtain ⟨bp,bq,bk,A,D,R,p,h,hG⟩:=h
 exact ⟨bp,bq,bk,A,D,R,p,h,fun j hj=>hG' j (h.lt hj) (hG j hj)⟩
theorem LIn.trans {W:World}{m:Nat}(h:LIn w W bw G n)(h':LIn W w' bw (fun j=>G j∨w.heap.size<=j) m):LIn w w' bw G m:=by
 refine ⟨h'.1.within (fun j _ e=>?_),h.2.trans h'.2⟩
 rcases e with e | e
 ·exact e
 ·exact .inr (Nat.le_trans h.2.size e)
theorem LIn.grown {W:World}(g:w.grownBy W none)(h:LIn W w' bw G n):LIn w w' bw G n:=by
 refine ⟨h.1.within (fun j _ e=>?_),((Only.grown g).mono (by simp)).trans (h.2.mono (fun _ _ e=>.inl e))⟩
 rcases e with e | e
 ·exact .inl e
 ·exact .inr (Nat.le_trans g.size e)
theorem LI.grew (h:LI w bw G n)(g:w.grownBy w' none):LIn w w' bw G n:=⟨(h.grown g).within (fun _ _ e=>.inl e),(Only.grown g).mono (by simp)⟩
theorem LIn.mono {m:Nat}(h:LIn w w' bw G n)(hm:n<=m):LIn w w' bw G m:=⟨h.1.mono hm,h.2⟩
theorem LP.both {W1 w1 W2 w2:World}{p':Pr}(h:LP w bw bp bq bk A D R p n)(g0:w.grownBy W1 none)(pn:PN W1 w1 bp A p')(g1':w1.grownBy W2 none)(dn:DSn W2 w2 bq D p')(hG:∀j,LF bw A D R j->G j):LIn w w2 bw G n:=by
 have g1:Only w1 W2 (fun j=>w1.heap.size<=j):=(Only.grown g1').mono (by simp)
 have z0:=g0.size
 have z1:=pn.2.size
 have z2:=g1.size
 have z3:=dn.2.size
 have lb:=h.lw.lt
 have nA:∀j,(A j∨W1.heap.size<=j)->j≠bw/\¬D j/\¬R j:=fun j hj=>by
  rcases hj with hj | hj
  ·exact (h.la j hj).2
  ·exact ⟨by omega,fun e=>by have:=(h.ld j e).1;omega,fun e=>by have:=(h.lr j e).1;omega⟩
 have ng:∀j,j<w1.heap.size->¬w1.heap.size<=j:=fun j hj=>by omega
 have oR:∀j,R j->¬A j:=fun j hj e=>(h.la j e).2.2.2 hj
 have dR:∀j,R j->¬D j:=fun j hj e=>(h.ld j e).2.2 hj
 have lt1:∀j,LF bw A D R j->j<w1.heap.size:=fun j hj=>by have:=h.lt hj;omega
 refine ⟨⟨bp,bq,bk,fun j=>(A j∨W1.heap.size<=j)/\j<w1.heap.size,fun j=>(D j∨W2.heap.size<=j)/\j<w2.heap.size,R,p',⟨?_,?_,?_,?_,?_,?_,?_⟩,?_⟩,?_⟩
 ·exact (((h.lw.grown g0).only pn.2 (fun e=>(h.la _ e).2.1 rfl)).only g1 (ng _ (by omega))).only dn.2 (fun e=>(h.ld _ e).2.1 rfl)
 ·refine ((pn.1.mono (fun j hl e=>(⟨e,hl⟩:(A j∨W1.heap.size<=j)/\j<w1.heap.size))).only g1 (fun j _ e=>ng j e.2)).only dn.2 (fun j _ e=>(nA j e.1).2.1)
 ·exact dn.1.mono (fun j hl e=>⟨e,hl⟩)
 ·obtain ⟨a,b,c,h1,h2,h3,hb⟩:=h.bo
  exact ⟨a,b,c,h1,h2,h3,(((hb.only (Only.grown g0) (by simp)).only pn.2 (fun j hj=>oR j hj)).only g1 (fun j hj=>ng j (lt1 j (.inr (.inr (.inr hj)))))).only dn.2 (fun j hj=>dR j hj)⟩
 ·refine fun j hj=>⟨by have:=hj.2;omega,(nA j hj.1).1,fun e=>?_,(nA j hj.1).2.2⟩
  rcases e.1 with e | e
  ·exact (nA j hj.1).2.1 e
  ·have:=hj.2;omega
 ·refine fun j hj=>⟨hj.2,?_⟩
  rcases hj.1 with e | e
  ·exact (h.ld j e).2
  ·exact ⟨by omega,fun e'=>by have:=(h.lr j e').1;omega⟩
 ·exact fun j hj=>⟨by have:=(h.lr j hj).1;omega,(h.lr j hj).2⟩
 ·intro j hj
  rcases hj with hj | ⟨hj | hj,_⟩ | ⟨hj | hj,_⟩ | hj
  ·exact .inl (hG j (.inl hj))
  ·exact .inl (hG j (.inr (.inl hj)))
  ·exact .inr (by omega)
  ·exact .inl (hG j (.inr (.inr (.inl hj))))
  ·exact .inr (by omega)
  ·exact .inl (hG j (.inr (.inr (.inr hj))))
 ·refine ((((Only.grown g0).mono (by simp)).trans (pn.2.mono (fun j _ e=>.inl (hG j (.inr (.inl e)))))).trans (g1.mono (fun j _ e=>.inr (by omega)))).trans (dn.2.mono (fun j _ e=>.inl (hG j (.inr (.inr (.inl e))))))
theorem aDO (h:LP w bw bp bq bk A D R p n)(hG:∀j,LF bw A D R j->G j)(H:Nat)(hH:∀j,LF bw A D R j->j<H)(hHw:H<=w.heap.size)(sh:Int)(pl sp:Nat)(wp:pl<4294967296)(wq:sp<4294967296):
  Calls prog 46 #[.pointer (some ⟨bp,0,none⟩),.int .i64 sh,.float .f32 pl,.float .f32 sp] w fun e w1=>∃x y z:Int,e=.returned (qB x y z)/\Only w w1 A/\∀W,Only w1 W (fun j=>(H<=j/\j<w.heap.size)∨w1.heap.size<=j)->Calls prog 47 #[.pointer (some ⟨bq,0,none⟩),.int .i64 sh,.float .f32 pl,.float .f32 sp] W fun e' w2=>e'=.returned (qB x y z)/\Only W w2 D/\∀V,Only w2 V (fun j=>(H<=j/\j<w.heap.size)∨w1.heap.size<=j)->LI V bw (fun j=>G j∨H<=j) n:=by
 refine (aHR h.pw h.ds.gd sh pl sp wp wq).mono ?_
 rintro e w1 ⟨rfl,pn⟩
 refine ⟨_,_,_,rfl,pn.2,fun W oW=>?_⟩
 have z1:=pn.2.size
 have zW:=oW.size
 have nH:∀j,LF bw A D R j->¬((H<=j/\j<w.heap.size)∨w1.heap.size<=j):=fun j hj e=>by have:=hH j hj;omega
 have dW:DS W bq D p:=(h.ds.only pn.2 (fun j _ hj e=>(h.la j e).2.2.1 hj)).only oW (fun j _ hj=>nH j (.inr (.inr (.inl hj))))
 refine (aGw dW sh pl sp wp wq).mono ?_
 rintro e w2 ⟨rfl,d2,o2⟩
 refine ⟨rfl,o2,fun V oV=>?_⟩
 have z2:=o2.size
 have zV:=oV.size
 have nA:∀j,((A j∨w.heap.size<=j)/\j<w1.heap.size)->¬((H<=j/\j<w.heap.size)∨w1.heap.size<=j)/\j≠bw/\¬D j/\¬R j:=fun j hj=>by
  obtain ⟨hj | hj,hl⟩:=hj
  ·exact ⟨nH j (.inr (.inl hj)),(h.la j hj).2⟩
  ·exact ⟨by omega,by have:=h.lw.lt;omega,fun e=>by have:=(h.ld j e).1;omega,fun e=>by have:=(h.lr j e).1;omega⟩
 refine ⟨bp,bq,bk,fun j=>(A j∨w.heap.size<=j)/\j<w1.heap.size,D,R,(p.mint sh pl sp).2,⟨?_,?_,?_,?_,?_,?_,?_⟩,?_⟩
 ·exact (((h.lw.only pn.2 (fun e=>(h.la _ e).2.1 rfl)).only oW (nH _ (.inl rfl))).only o2 (fun e=>(h.ld _ e).2.1 rfl)).only oV (nH _ (.inl rfl))
 ·exact (((pn.1.mono (fun j hl e=>(⟨e,hl⟩:(A j∨w.heap.size<=j)/\j<w1.heap.size))).only oW (fun j _ e=>(nA j e).1)).only o2 (fun j _ e=>(nA j e).2.2.1)).only oV (fun j _ e=>(nA j e).1)
 ·exact d2.only oV (fun j _ hj=>nH j (.inr (.inr (.inl hj))))
 ·obtain ⟨a,b,c,h1,h2,h3,hb⟩:=h.bo
  exact ⟨a,b,c,h1,h2,h3,(((hb.only pn.2 (fun j hj e=>(h.la j e).2.2.2 hj)).only oW (fun j hj=>nH j (.inr (.inr (.inr hj))))).only o2 (fun j hj e=>(h.ld j e).2.2 hj)).only oV (fun j hj=>nH j (.inr (.inr (.inr hj))))⟩
 ·exact fun j hj=>⟨by have:=hj.2;omega,(nA j hj).2⟩
 ·exact fun j hj=>⟨by have:=(h.ld j hj).1;omega,(h.ld j hj).2⟩
 ·exact fun j hj=>⟨by have:=(h.lr j hj).1;omega,(h.lr j hj).2⟩
 ·intro j hj
  rcases hj with hj | ⟨hj | hj,_⟩ | hj | hj
  ·exact .inl (hG j (.inl hj))
  ·exact .inl (hG j (.inr (.inl hj)))
  ·exact .inr (by omega)
  ·exact .inl (hG j (.inr (.inr (.inl hj))))
  ·exact .inl (hG j (.inr (.inr (.inr hj))))
theorem LP.booked {w3 w4:World}{l:Value}(h:LP w bw bp bq bk A D R p n)(g:w.grownBy w3 none)(hl:∀j,l.ownBlock=some j->w.heap.size<=j)(hb:∃nI nE nT,nI<=n+4/\nE<=n+4/\nT<=n+4/\BK w4 bk (RX w3 w4 R l) nI nE nT)(o:Only w3 w4 (fun j=>R j∨l.ownBlock=some j))(hG:∀j,LF bw A D R j->G j):LIn w w4 bw G (n+4):=by
 have h3:=h.grown g
 have z:=g.size
 have nF:∀j,LF bw A D R j->¬l.ownBlock=some j:=fun j hj e=>by have:=h.lt hj;have:=hl j e;omega
 have rx:∀j,RX w3 w4 R l j->R j∨w.heap.size<=j:=fun j hj=>by
  rcases hj.1 with e | e | e
  ·exact .inl e
  ·exact .inr (hl j e)
  ·exact .inr (by omega)
 refine ⟨⟨bp,bq,bk,A,D,RX w3 w4 R l,p,⟨h3.lw.only o ?_,h3.pw.only o ?_,h3.ds.only o ?_,hb,?_,?_,?_⟩,?_⟩,?_⟩
 ·rintro (e | e)
  ·exact (h.lr _ e).2 rfl
  ·exact nF _ (.inl rfl) e
 ·rintro j _ hj (e | e)
  ·exact (h.la j hj).2.2.2 e
  ·exact nF _ (.inr (.inl hj)) e
 ·rintro j _ hj (e | e)
  ·exact (h.ld j hj).2.2 e
  ·exact nF _ (.inr (.inr (.inl hj))) e
 ·refine fun j hj=>⟨Nat.lt_of_lt_of_le (h3.la j hj).1 o.size,(h.la j hj).2.1,(h.la j hj).2.2.1,fun e=>?_⟩
  rcases rx j e with e | e
  ·exact (h.la j hj).2.2.2 e
  ·have:=(h.la j hj).1;omega
 ·refine fun j hj=>⟨Nat.lt_of_lt_of_le (h3.ld j hj).1 o.size,(h.ld j hj).2.1,fun e=>?_⟩
  rcases rx j e with e | e
  ·exact (h.ld j hj).2.2 e
  ·have:=(h.ld j hj).1;omega
 ·refine fun j hj=>⟨hj.2,?_⟩
  rcases rx j hj with e | e
  ·exact (h.lr j e).2
  ·have:=h.lw.lt;omega
 ·intro j hj
  rcases hj with hj | hj | hj | hj
  ·exact .inl (hG j (.inl hj))
  ·exact .inl (hG j (.inr (.inl hj)))
  ·exact .inl (hG j (.inr (.inr (.inl hj))))
  ·rcases rx j hj with e | e
   ·exact .inl (hG j (.inr (.inr (.inr e))))
   ·exact .inr e
 ·refine ((Only.grown g).mono (by simp)).trans (o.mono (fun j _ e=>?_))
  rcases e with e | e
  ·exact .inl (hG j (.inr (.inr (.inr e))))
  ·exact .inr (hl j e)
end
section
variable {w : World} {bw bp bq bk : Nat} {A D R G : Nat -> Prop} {p p' : Pr} {n : Nat}
theorem dH (h:LP w bw bp bq bk A D R p n)(hG:∀j,LF bw A D R j->G j)(cs:List Value):Hid (w.grownBy (w.alloc (.cells cs.toArray 35)) none)/\Hid (At (w.alloc (.cells cs.toArray 35)) w.heap.size cs)/\Hid (At (w.alloc (.cells cs.toArray 35)) bw (LC bp bq bk))/\Hid (LP w bw bp bq bk A D R p n)/\Hid (∀j,LF bw A D R j->G j):=
 ⟨World.grownBy_alloc w _ none,At.new w cs 35,h.lw.grown (World.grownBy_alloc w _ none),h,hG⟩
theorem LP.held1 (h:LP w bw bp bq bk A D R p n){W w1:World}(n1:PN W w1 bp A p'){cs:List Value}(hh:At W bw (LC bp bq bk)/\At W w.heap.size cs):At w1 bw (LC bp bq bk)/\At w1 w.heap.size cs:=
 ⟨hh.1.only n1.2 (fun e=>(h.la _ e).2.1 rfl),hh.2.only n1.2 (fun e=>Nat.lt_irrefl _ (h.la _ e).1)⟩
theorem LP.held2 (h:LP w bw bp bq bk A D R p n){W w1:World}(n1:DSn W w1 bq D p'){cs:List Value}(hh:At W bw (LC bp bq bk)/\At W w.heap.size cs):At w1 bw (LC bp bq bk)/\At w1 w.heap.size cs:=
 ⟨hh.1.only n1.2 (fun e=>(h.ld _ e).2.1 rfl),hh.2.only n1.2 (fun e=>Nat.lt_irrefl _ (h.ld _ e).1)⟩
theorem LP.ds1 (h:LP w bw bp bq bk A D R p n){W1 w1 W2:World}(g0:w.grownBy W1 none)(pn:PN W1 w1 bp A p')(g1:w1.grownBy W2 none):DS W2 bq D p:=
 ((h.ds.grown g0).only pn.2 (fun j _ hj e=>(h.la j e).2.2.1 hj)).grown g1
end
theorem zH (bw n:Nat)(G:Nat->Prop)(sh k m x y:Int)(pl sp:Nat)(t:ByteArray)(w:World)(h:LI w bw G n)(hx:bD x)(hy:bD y):
  Calls prog 22 #[.pointer (some ⟨bw,0,none⟩),.agg #[.int .i64 2,.int .i64 sh,.int .i64 k,.int .i64 m,.int .i64 x,.int .i64 y,.float .f32 pl,.float .f32 sp,.string t]] w fun e w'=>e=.returned (.bool true)/\LIn w w' bw G n:=by
 obtain ⟨bp,bq,bk,A,D,R,p,h,hG⟩:=h
 have BX:Hid (∀W,w.grownBy W none->Calls prog 48 #[.pointer (some ⟨bp,0,none⟩),.int .i64 sh,.agg #[.int .i64 x,.int .i64 y]] W fun e w1=>e=.returned (.int .i64 (p.destroy sh x y).1)/\PN W w1 bp A (p.destroy sh x y).2):=Hid.mk' fun W gW=>aAZ (h.pw.grown gW) h.ds.gd sh x y hx hy
 have BY:Hid (∀W,DS W bq D p->Calls prog 49 #[.pointer (some ⟨bq,0,none⟩),.int .i64 sh,.agg #[.int .i64 x,.int .i64 y]] W fun e w2=>e=.returned (.int .i64 (p.destroy sh x y).1)/\DSn W w2 bq D (p.destroy sh x y).2):=Hid.mk' fun W hd=>aBk hd sh x y
 obtain ⟨G0,AX,AW,H,HG⟩:=dH h hG [.int .i64 2,.int .i64 sh,.int .i64 k,.int .i64 m,.int .i64 x,.int .i64 y,.float .f32 pl,.float .f32 sp,.string t]
 clear h hG
 generalize (p.destroy sh x y).1=z at *
 generalize (p.destroy sh x y).2=p' at *
 go_enter func22,ntmps22
 go_wp2_with fail
 refine wp_region_held_drew (S:=fun w'=>At w' bw (LC bp bq bk)/\At w' w.heap.size (AC 2 sh k m x y pl sp t)) (by kernel_rfl) (⟨AW.out.drew,AX.out.drew⟩) (fun hHeld=>?_)
 refine aN 0 ?_;simp only[aF]
 refine aN 1 ?_;simp only[aF]
 refine aN 2 ?_;simp only[aF]
 refine bV 3 (fun _ h=>h.1.c 0 _ rfl) ?_;simp only[aF]
 refine aN 4 ?_;simp only[aF]
 refine bV 5 (fun _ h=>h.2.c 1 _ rfl) ?_;simp only[aF]
 refine aN 6 ?_;simp only[aF]
 refine dG 7 rfl (by intro w hSw;have S4:=hSw.2.c 4 _ rfl;have S5:=hSw.2.c 5 _ rfl;go_simp;try with_reducible rfl) ?_;simp only[aF]
 refine aX 8 (f:=48) (args:=#[.pointer (some ⟨bp,0,none⟩),.int .i64 sh,.agg #[.int .i64 x,.int .i64 y]]) (by kernel_rfl) (by rfl) (by rfl) (by go_simp) ?_
 refine Calls.mono (BX.out _ (aA G0.out)) ?_
 rintro e w1 ⟨rfl,n1⟩
 have h1:=H.out.held1 n1 hHeld
 have N1:=Hid.mk' n1
 clear hHeld n1
 have hHeld:=h1
 refine ⟨_,rfl,hHeld,?_⟩;simp only[aF]
 refine aN 9 ?_;simp only[aF]
 refine wpAnyH_done (by kernel_rfl) ?_ _
 have H1:=Hid.mk' hHeld
 clear hHeld h1
 go_wp2_with fail
 refine wp_region_held_drew (S:=fun w'=>At w' bw (LC bp bq bk)/\At w' w.heap.size (AC 2 sh k m x y pl sp t)) (by kernel_rfl) (⟨H1.out.1.drew,H1.out.2.drew⟩) (fun hHeld=>?_)
 refine aN 0 ?_;simp only[aF]
 refine aN 1 ?_;simp only[aF]
 refine aN 2 ?_;simp only[aF]
 refine bV 3 (fun _ h=>h.1.c 1 _ rfl) ?_;simp only[aF]
 refine aN 4 ?_;simp only[aF]
 refine bV 5 (fun _ h=>h.2.c 1 _ rfl) ?_;simp only[aF]
 refine aN 6 ?_;simp only[aF]
 refine dG 7 rfl (by intro w hSw;have S4:=hSw.2.c 4 _ rfl;have S5:=hSw.2.c 5 _ rfl;go_simp;try with_reducible rfl) ?_;simp only[aF]
 refine aX 8 (f:=49) (args:=#[.pointer (some ⟨bq,0,none⟩),.int .i64 sh,.agg #[.int .i64 x,.int .i64 y]]) (by kernel_rfl) (by rfl) (by rfl) (by go_simp) ?_
 refine Calls.mono (BY.out _ (H.out.ds1 (aA G0.out) N1.out (aA (aD _ _)))) ?_
 rintro e w2 ⟨rfl,n2⟩
 have h2:=H.out.held2 n2 hHeld
 have N2:=Hid.mk' n2
 clear hHeld n2
 have hHeld:=h2
 refine ⟨_,rfl,hHeld,?_⟩;simp only[aF]
 refine aN 9 ?_;simp only[aF]
 refine wpAnyH_done (by kernel_rfl) ?_ _
 clear hHeld h2
 have hzz:(z==z)=true:=by simp
 go_wp2
 go_ret
 exact ⟨rfl,H.out.both (aA G0.out) N1.out (aA (aD _ _)) N2.out HG.out⟩
theorem aGz (bw n:Nat)(G:Nat->Prop)(sh k m x y:Int)(pl sp:Nat)(t:ByteArray)(w:World)(h:LI w bw G n):
  Calls prog 22 #[.pointer (some ⟨bw,0,none⟩),.agg #[.int .i64 3,.int .i64 sh,.int .i64 k,.int .i64 m,.int .i64 x,.int .i64 y,.float .f32 pl,.float .f32 sp,.string t]] w fun e w'=>e=.returned (.bool true)/\LIn w w' bw G n:=by
 obtain ⟨bp,bq,bk,A,D,R,p,h,hG⟩:=h
 have BX:Hid (∀W,w.grownBy W none->Calls prog 33 #[.pointer (some ⟨bp,0,none⟩),.int .i64 sh] W fun e w1=>e=.returned (.int .i64 (p.tick sh).1)/\PN W w1 bp A (p.tick sh).2):=Hid.mk' fun W gW=>aHP (h.pw.grown gW) h.ds.gd sh
 have BY:Hid (∀W,DS W bq D p->Calls prog 50 #[.pointer (some ⟨bq,0,none⟩),.int .i64 sh] W fun e w2=>e=.returned (.int .i64 (p.tick sh).1)/\DSn W w2 bq D (p.tick sh).2):=Hid.mk' fun W hd=>aIe hd sh
 obtain ⟨G0,AX,AW,H,HG⟩:=dH h hG [.int .i64 3,.int .i64 sh,.int .i64 k,.int .i64 m,.int .i64 x,.int .i64 y,.float .f32 pl,.float .f32 sp,.string t]
 clear h hG
 generalize (p.tick sh).1=z at *
 generalize (p.tick sh).2=p' at *
 go_enter func22,ntmps22
 go_wp2_with fail
 refine wp_region_held_drew (S:=fun w'=>At w' bw (LC bp bq bk)/\At w' w.heap.size (AC 3 sh k m x y pl sp t)) (by kernel_rfl) (⟨AW.out.drew,AX.out.drew⟩) (fun hHeld=>?_)
 refine aN 0 ?_;simp only[aF]
 refine aN 1 ?_;simp only[aF]
 refine aN 2 ?_;simp only[aF]
 refine bV 3 (fun _ h=>h.1.c 0 _ rfl) ?_;simp only[aF]
 refine aN 4 ?_;simp only[aF]
 refine bV 5 (fun _ h=>h.2.c 1 _ rfl) ?_;simp only[aF]
 refine aX 6 (f:=33) (args:=#[.pointer (some ⟨bp,0,none⟩),.int .i64 sh]) (by kernel_rfl) (by rfl) (by rfl) (by go_simp) ?_
 refine Calls.mono (BX.out _ (aA G0.out)) ?_
 rintro e w1 ⟨rfl,n1⟩
 have h1:=H.out.held1 n1 hHeld
 have N1:=Hid.mk' n1
 clear hHeld n1
 have hHeld:=h1
 refine ⟨_,rfl,hHeld,?_⟩;simp only[aF]
 refine aN 7 ?_;simp only[aF]
 refine wpAnyH_done (by kernel_rfl) ?_ _
 have H1:=Hid.mk' hHeld
 clear hHeld h1
 go_wp2_with fail
 refine wp_region_held_drew (S:=fun w'=>At w' bw (LC bp bq bk)/\At w' w.heap.size (AC 3 sh k m x y pl sp t)) (by kernel_rfl) (⟨H1.out.1.drew,H1.out.2.drew⟩) (fun hHeld=>?_)
 refine aN 0 ?_;simp only[aF]
 refine aN 1 ?_;simp only[aF]
 refine aN 2 ?_;simp only[aF]
 refine bV 3 (fun _ h=>h.1.c 1 _ rfl) ?_;simp only[aF]
 refine aN 4 ?_;simp only[aF]
 refine bV 5 (fun _ h=>h.2.c 1 _ rfl) ?_;simp only[aF]
 refine aX 6 (f:=50) (args:=#[.pointer (some ⟨bq,0,none⟩),.int .i64 sh]) (by kernel_rfl) (by rfl) (by rfl) (by go_simp) ?_
 refine Calls.mono (BY.out _ (H.out.ds1 (aA G0.out) N1.out (aA (aD _ _)))) ?_
 rintro e w2 ⟨rfl,n2⟩
 have h2:=H.out.held2 n2 hHeld
 have N2:=Hid.mk' n2
 clear hHeld n2
 have hHeld:=h2
 refine ⟨_,rfl,hHeld,?_⟩;simp only[aF]
 refine aN 7 ?_;simp only[aF]
 refine wpAnyH_done (by kernel_rfl) ?_ _
 clear hHeld h2
 have hzz:(z==z)=true:=by simp
 go_wp2
 go_ret
 exact ⟨rfl,H.out.both (aA G0.out) N1.out (aA (aD _ _)) N2.out HG.out⟩
theorem aGA (bw n:Nat)(G:Nat->Prop)(sh k m x y:Int)(pl sp:Nat)(t:ByteArray)(w:World)(h:LI w bw G n):
  Calls prog 22 #[.pointer (some ⟨bw,0,none⟩),.agg #[.int .i64 4,.int .i64 sh,.int .i64 k,.int .i64 m,.int .i64 x,.int .i64 y,.float .f32 pl,.float .f32 sp,.string t]] w fun e w'=>e=.returned (.bool true)/\LIn w w' bw G n:=by
 obtain ⟨bp,bq,bk,A,D,R,p,h,hG⟩:=h
 have BX:Hid (∀W,w.grownBy W none->Calls prog 28 #[.pointer (some ⟨bp,0,none⟩),.int .i64 sh] W fun e w1=>e=.returned (.int .i64 (p.snap sh).1)/\PN W w1 bp A (p.snap sh).2):=Hid.mk' fun W gW=>aHQ (h.pw.grown gW) h.ds.gd sh
 have BY:Hid (∀W,DS W bq D p->Calls prog 51 #[.pointer (some ⟨bq,0,none⟩),.int .i64 sh] W fun e w2=>e=.returned (.int .i64 (p.snap sh).1)/\DSn W w2 bq D (p.snap sh).2):=Hid.mk' fun W hd=>aIf hd sh
 obtain ⟨G0,AX,AW,H,HG⟩:=dH h hG [.int .i64 4,.int .i64 sh,.int .i64 k,.int .i64 m,.int .i64 x,.int .i64 y,.float .f32 pl,.float .f32 sp,.string t]
 clear h hG
 generalize (p.snap sh).1=z at *
 generalize (p.snap sh).2=p' at *
 go_enter func22,ntmps22
 go_wp2_with fail
 refine wp_region_held_drew (S:=fun w'=>At w' bw (LC bp bq bk)/\At w' w.heap.size (AC 4 sh k m x y pl sp t)) (by kernel_rfl) (⟨AW.out.drew,AX.out.drew⟩) (fun hHeld=>?_)
 refine aN 0 ?_;simp only[aF]
 refine aN 1 ?_;simp only[aF]
 refine aN 2 ?_;simp only[aF]
 refine bV 3 (fun _ h=>h.1.c 0 _ rfl) ?_;simp only[aF]
 refine aN 4 ?_;simp only[aF]
 refine bV 5 (fun _ h=>h.2.c 1 _ rfl) ?_;simp only[aF]
 refine aX 6 (f:=28) (args:=#[.pointer (some ⟨bp,0,none⟩),.int .i64 sh]) (by kernel_rfl) (by rfl) (by rfl) (by go_simp) ?_
 refine Calls.mono (BX.out _ (aA G0.out)) ?_
 rintro e w1 ⟨rfl,n1⟩
 have h1:=H.out.held1 n1 hHeld
 have N1:=Hid.mk' n1
 clear hHeld n1
 have hHeld:=h1
 refine ⟨_,rfl,hHeld,?_⟩;simp only[aF]
 refine aN 7 ?_;simp only[aF]
 refine wpAnyH_done (by kernel_rfl) ?_ _
 have H1:=Hid.mk' hHeld
 clear hHeld h1
 go_wp2_with fail
 refine wp_region_held_drew (S:=fun w'=>At w' bw (LC bp bq bk)/\At w' w.heap.size (AC 4 sh k m x y pl sp t)) (by kernel_rfl) (⟨H1.out.1.drew,H1.out.2.drew⟩) (fun hHeld=>?_)
 refine aN 0 ?_;simp only[aF]
 refine aN 1 ?_;simp only[aF]
 refine aN 2 ?_;simp only[aF]
 refine bV 3 (fun _ h=>h.1.c 1 _ rfl) ?_;simp only[aF]
 refine aN 4 ?_;simp only[aF]
 refine bV 5 (fun _ h=>h.2.c 1 _ rfl) ?_;simp only[aF]
 refine aX 6 (f:=51) (args:=#[.pointer (some ⟨bq,0,none⟩),.int .i64 sh]) (by kernel_rfl) (by rfl) (by rfl) (by go_simp) ?_
 refine Calls.mono (BY.out _ (H.out.ds1 (aA G0.out) N1.out (aA (aD _ _)))) ?_
 rintro e w2 ⟨rfl,n2⟩
 have h2:=H.out.held2 n2 hHeld
 have N2:=Hid.mk' n2
 clear hHeld n2
 have hHeld:=h2
 refine ⟨_,rfl,hHeld,?_⟩;simp only[aF]
 refine aN 7 ?_;simp only[aF]
 refine wpAnyH_done (by kernel_rfl) ?_ _
 clear hHeld h2
 have hzz:(z==z)=true:=by simp
 go_wp2
 go_ret
 exact ⟨rfl,H.out.both (aA G0.out) N1.out (aA (aD _ _)) N2.out HG.out⟩
theorem aDP (bw n:Nat)(G:Nat->Prop)(sh k m x y:Int)(pl sp:Nat)(t:ByteArray)(w:World)(h:LI w bw G n)(hk:bD k)(hm:bD m):
  Calls prog 22 #[.pointer (some ⟨bw,0,none⟩),.agg #[.int .i64 5,.int .i64 sh,.int .i64 k,.int .i64 m,.int .i64 x,.int .i64 y,.float .f32 pl,.float .f32 sp,.string t]] w fun e w'=>e=.returned (.bool true)/\LIn w w' bw G n:=by
 obtain ⟨bp,bq,bk,A,D,R,p,h,hG⟩:=h
 have BX:Hid (∀W,w.grownBy W none->Calls prog 27 #[.pointer (some ⟨bp,0,none⟩),.int .i64 sh,.int .i64 k,.int .i64 m] W fun e w1=>e=.returned (.int .i64 (p.brk sh k m).1)/\PN W w1 bp A (p.brk sh k m).2):=Hid.mk' fun W gW=>aGk (h.pw.grown gW) sh k m hk.2
 have BY:Hid (∀W,DS W bq D p->Calls prog 52 #[.pointer (some ⟨bq,0,none⟩),.int .i64 sh,.int .i64 k,.int .i64 m] W fun e w2=>e=.returned (.int .i64 (p.brk sh k m).1)/\DSn W w2 bq D (p.brk sh k m).2):=Hid.mk' fun W hd=>aGv hd sh k m hk.2 hm
 obtain ⟨G0,AX,AW,H,HG⟩:=dH h hG [.int .i64 5,.int .i64 sh,.int .i64 k,.int .i64 m,.int .i64 x,.int .i64 y,.float .f32 pl,.float .f32 sp,.string t]
 clear h hG
 generalize (p.brk sh k m).1=z at *
 generalize (p.brk sh k m).2=p' at *
 go_enter func22,ntmps22
 go_wp2_with fail
 refine wp_region_held_drew (S:=fun w'=>At w' bw (LC bp bq bk)/\At w' w.heap.size (AC 5 sh k m x y pl sp t)) (by kernel_rfl) (⟨AW.out.drew,AX.out.drew⟩) (fun hHeld=>?_)
 refine aN 0 ?_;simp only[aF]
 refine aN 1 ?_;simp only[aF]
 refine aN 2 ?_;simp only[aF]
 refine bV 3 (fun _ h=>h.1.c 0 _ rfl) ?_;simp only[aF]
 refine aN 4 ?_;simp only[aF]
 refine bV 5 (fun _ h=>h.2.c 1 _ rfl) ?_;simp only[aF]
 refine aN 6 ?_;simp only[aF]
 refine bV 7 (fun _ h=>h.2.c 2 _ rfl) ?_;simp only[aF]
 refine aN 8 ?_;simp only[aF]
 refine bV 9 (fun _ h=>h.2.c 3 _ rfl) ?_;simp only[aF]
 refine aX 10 (f:=27) (args:=#[.pointer (some ⟨bp,0,none⟩),.int .i64 sh,.int .i64 k,.int .i64 m]) (by kernel_rfl) (by rfl) (by rfl) (by go_simp) ?_
 refine Calls.mono (BX.out _ (aA G0.out)) ?_
 rintro e w1 ⟨rfl,n1⟩
 have h1:=H.out.held1 n1 hHeld
 have N1:=Hid.mk' n1
 clear hHeld n1
 have hHeld:=h1
 refine ⟨_,rfl,hHeld,?_⟩;simp only[aF]
 refine aN 11 ?_;simp only[aF]
 refine wpAnyH_done (by kernel_rfl) ?_ _
 have H1:=Hid.mk' hHeld
 clear hHeld h1
 go_wp2_with fail
 refine wp_region_held_drew (S:=fun w'=>At w' bw (LC bp bq bk)/\At w' w.heap.size (AC 5 sh k m x y pl sp t)) (by kernel_rfl) (⟨H1.out.1.drew,H1.out.2.drew⟩) (fun hHeld=>?_)
 refine aN 0 ?_;simp only[aF]
 refine aN 1 ?_;simp only[aF]
 refine aN 2 ?_;simp only[aF]
 refine bV 3 (fun _ h=>h.1.c 1 _ rfl) ?_;simp only[aF]
 refine aN 4 ?_;simp only[aF]
 refine bV 5 (fun _ h=>h.2.c 1 _ rfl) ?_;simp only[aF]
 refine aN 6 ?_;simp only[aF]
 refine bV 7 (fun _ h=>h.2.c 2 _ rfl) ?_;simp only[aF]
 refine aN 8 ?_;simp only[aF]
 refine bV 9 (fun _ h=>h.2.c 3 _ rfl) ?_;simp only[aF]
 refine aX 10 (f:=52) (args:=#[.pointer (some ⟨bq,0,none⟩),.int .i64 sh,.int .i64 k,.int .i64 m]) (by kernel_rfl) (by rfl) (by rfl) (by go_simp) ?_
 refine Calls.mono (BY.out _ (H.out.ds1 (aA G0.out) N1.out (aA (aD _ _)))) ?_
 rintro e w2 ⟨rfl,n2⟩
 have h2:=H.out.held2 n2 hHeld
 have N2:=Hid.mk' n2
 clear hHeld n2
 have hHeld:=h2
 refine ⟨_,rfl,hHeld,?_⟩;simp only[aF]
 refine aN 11 ?_;simp only[aF]
 refine wpAnyH_done (by kernel_rfl) ?_ _
 clear hHeld h2
 have hzz:(z==z)=true:=by simp
 go_wp2
 go_ret
 exact ⟨rfl,H.out.both (aA G0.out) N1.out (aA (aD _ _)) N2.out HG.out⟩
theorem aDQ (bw n:Nat)(G:Nat->Prop)(sh k m x y:Int)(pl sp:Nat)(t:ByteArray)(w:World)(h:LI w bw G n)(hm:bD m):
  Calls prog 22 #[.pointer (some ⟨bw,0,none⟩),.agg #[.int .i64 6,.int .i64 sh,.int .i64 k,.int .i64 m,.int .i64 x,.int .i64 y,.float .f32 pl,.float .f32 sp,.string t]] w fun e w'=>e=.returned (.bool true)/\LIn w w' bw G n:=by
 obtain ⟨bp,bq,bk,A,D,R,p,h,hG⟩:=h
 have BX:Hid (∀W,w.grownBy W none->Calls prog 18 #[.pointer (some ⟨bp,0,none⟩),.int .i64 sh,.int .i64 m] W fun e w1=>e=.returned (.int .i64 (p.crash sh m).1)/\PN W w1 bp A (p.crash sh m).2):=Hid.mk' fun W gW=>aGj (h.pw.grown gW) sh m
 have BY:Hid (∀W,DS W bq D p->Calls prog 53 #[.pointer (some ⟨bq,0,none⟩),.int .i64 sh,.int .i64 m] W fun e w2=>e=.returned (.int .i64 (p.crash sh m).1)/\DSn W w2 bq D (p.crash sh m).2):=Hid.mk' fun W hd=>aGu hd sh m hm
 obtain ⟨G0,AX,AW,H,HG⟩:=dH h hG [.int .i64 6,.int .i64 sh,.int .i64 k,.int .i64 m,.int .i64 x,.int .i64 y,.float .f32 pl,.float .f32 sp,.string t]
 clear h hG
 generalize (p.crash sh m).1=z at *
 generalize (p.crash sh m).2=p' at *
 go_enter func22,ntmps22
 go_wp2_with fail
 refine wp_region_held_drew (S:=fun w'=>At w' bw (LC bp bq bk)/\At w' w.heap.size (AC 6 sh k m x y pl sp t)) (by kernel_rfl) (⟨AW.out.drew,AX.out.drew⟩) (fun hHeld=>?_)
 refine aN 0 ?_;simp only[aF]
 refine aN 1 ?_;simp only[aF]
 refine aN 2 ?_;simp only[aF]
 refine bV 3 (fun _ h=>h.1.c 0 _ rfl) ?_;simp only[aF]
 refine aN 4 ?_;simp only[aF]
 refine bV 5 (fun _ h=>h.2.c 1 _ rfl) ?_;simp only[aF]
 refine aN 6 ?_;simp only[aF]
 refine bV 7 (fun _ h=>h.2.c 3 _ rfl) ?_;simp only[aF]
 refine aX 8 (f:=18) (args:=#[.pointer (some ⟨bp,0,none⟩),.int .i64 sh,.int .i64 m]) (by kernel_rfl) (by rfl) (by rfl) (by go_simp) ?_
 refine Calls.mono (BX.out _ (aA G0.out)) ?_
 rintro e w1 ⟨rfl,n1⟩
 have h1:=H.out.held1 n1 hHeld
 have N1:=Hid.mk' n1
 clear hHeld n1
 have hHeld:=h1
 refine ⟨_,rfl,hHeld,?_⟩;simp only[aF]
 refine aN 9 ?_;simp only[aF]
 refine wpAnyH_done (by kernel_rfl) ?_ _
 have H1:=Hid.mk' hHeld
 clear hHeld h1
 go_wp2_with fail
 refine wp_region_held_drew (S:=fun w'=>At w' bw (LC bp bq bk)/\At w' w.heap.size (AC 6 sh k m x y pl sp t)) (by kernel_rfl) (⟨H1.out.1.drew,H1.out.2.drew⟩) (fun hHeld=>?_)
 refine aN 0 ?_;simp only[aF]
 refine aN 1 ?_;simp only[aF]
 refine aN 2 ?_;simp only[aF]
 refine bV 3 (fun _ h=>h.1.c 1 _ rfl) ?_;simp only[aF]
 refine aN 4 ?_;simp only[aF]
 refine bV 5 (fun _ h=>h.2.c 1 _ rfl) ?_;simp only[aF]
 refine aN 6 ?_;simp only[aF]
 refine bV 7 (fun _ h=>h.2.c 3 _ rfl) ?_;simp only[aF]
 refine aX 8 (f:=53) (args:=#[.pointer (some ⟨bq,0,none⟩),.int .i64 sh,.int .i64 m]) (by kernel_rfl) (by rfl) (by rfl) (by go_simp) ?_
 refine Calls.mono (BY.out _ (H.out.ds1 (aA G0.out) N1.out (aA (aD _ _)))) ?_
 rintro e w2 ⟨rfl,n2⟩
 have h2:=H.out.held2 n2 hHeld
 have N2:=Hid.mk' n2
 clear hHeld n2
 have hHeld:=h2
 refine ⟨_,rfl,hHeld,?_⟩;simp only[aF]
 refine aN 9 ?_;simp only[aF]
 refine wpAnyH_done (by kernel_rfl) ?_ _
 clear hHeld h2
 have hzz:(z==z)=true:=by simp
 go_wp2
 go_ret
 exact ⟨rfl,H.out.both (aA G0.out) N1.out (aA (aD _ _)) N2.out HG.out⟩
theorem zI (bw n:Nat)(G:Nat->Prop)(sh k m x y:Int)(pl sp:Nat)(t:ByteArray)(w:World)(h:LI w bw G n):
  Calls prog 22 #[.pointer (some ⟨bw,0,none⟩),.agg #[.int .i64 7,.int .i64 sh,.int .i64 k,.int .i64 m,.int .i64 x,.int .i64 y,.float .f32 pl,.float .f32 sp,.string t]] w fun e w'=>e=.returned (.bool true)/\LIn w w' bw G n:=by
 obtain ⟨bp,bq,bk,A,D,R,p,h,hG⟩:=h
 have BX:Hid (∀W,w.grownBy W none->Calls prog 17 #[.pointer (some ⟨bp,0,none⟩),.int .i64 sh] W fun e w1=>e=.returned (.int .i64 (p.restart sh).1)/\PN W w1 bp A (p.restart sh).2):=Hid.mk' fun W gW=>aAY (h.pw.grown gW) h.ds.gd sh
 have BY:Hid (∀W,DS W bq D p->Calls prog 54 #[.pointer (some ⟨bq,0,none⟩),.int .i64 sh] W fun e w2=>e=.returned (.int .i64 (p.restart sh).1)/\DSn W w2 bq D (p.restart sh).2):=Hid.mk' fun W hd=>aBj hd sh
 obtain ⟨G0,AX,AW,H,HG⟩:=dH h hG [.int .i64 7,.int .i64 sh,.int .i64 k,.int .i64 m,.int .i64 x,.int .i64 y,.float .f32 pl,.float .f32 sp,.string t]
 clear h hG
 generalize (p.restart sh).1=z at *
 generalize (p.restart sh).2=p' at *
 go_enter func22,ntmps22
 go_wp2_with fail
 refine wp_region_held_drew (S:=fun w'=>At w' bw (LC bp bq bk)/\At w' w.heap.size (AC 7 sh k m x y pl sp t)) (by kernel_rfl) (⟨AW.out.drew,AX.out.drew⟩) (fun hHeld=>?_)
 refine aN 0 ?_;simp only[aF]
 refine aN 1 ?_;simp only[aF]
 refine aN 2 ?_;simp only[aF]
 refine bV 3 (fun _ h=>h.1.c 0 _ rfl) ?_;simp only[aF]
 refine aN 4 ?_;simp only[aF]
 refine bV 5 (fun _ h=>h.2.c 1 _ rfl) ?_;simp only[aF]
 refine aX 6 (f:=17) (args:=#[.pointer (some ⟨bp,0,none⟩),.int .i64 sh]) (by kernel_rfl) (by rfl) (by rfl) (by go_simp) ?_
 refine Calls.mono (BX.out _ (aA G0.out)) ?_
 rintro e w1 ⟨rfl,n1⟩
 have h1:=H.out.held1 n1 hHeld
 have N1:=Hid.mk' n1
 clear hHeld n1
 have hHeld:=h1
 refine ⟨_,rfl,hHeld,?_⟩;simp only[aF]
 refine aN 7 ?_;simp only[aF]
 refine wpAnyH_done (by kernel_rfl) ?_ _
 have H1:=Hid.mk' hHeld
 clear hHeld h1
 go_wp2_with fail
 refine wp_region_held_drew (S:=fun w'=>At w' bw (LC bp bq bk)/\At w' w.heap.size (AC 7 sh k m x y pl sp t)) (by kernel_rfl) (⟨H1.out.1.drew,H1.out.2.drew⟩) (fun hHeld=>?_)
 refine aN 0 ?_;simp only[aF]
 refine aN 1 ?_;simp only[aF]
 refine aN 2 ?_;simp only[aF]
 refine bV 3 (fun _ h=>h.1.c 1 _ rfl) ?_;simp only[aF]
 refine aN 4 ?_;simp only[aF]
 refine bV 5 (fun _ h=>h.2.c 1 _ rfl) ?_;simp only[aF]
 refine aX 6 (f:=54) (args:=#[.pointer (some ⟨bq,0,none⟩),.int .i64 sh]) (by kernel_rfl) (by rfl) (by rfl) (by go_simp) ?_
 refine Calls.mono (BY.out _ (H.out.ds1 (aA G0.out) N1.out (aA (aD _ _)))) ?_
 rintro e w2 ⟨rfl,n2⟩
 have h2:=H.out.held2 n2 hHeld
 have N2:=Hid.mk' n2
 clear hHeld n2
 have hHeld:=h2
 refine ⟨_,rfl,hHeld,?_⟩;simp only[aF]
 refine aN 7 ?_;simp only[aF]
 refine wpAnyH_done (by kernel_rfl) ?_ _
 clear hHeld h2
 have hzz:(z==z)=true:=by simp
 go_wp2
 go_ret
 exact ⟨rfl,H.out.both (aA G0.out) N1.out (aA (aD _ _)) N2.out HG.out⟩
theorem aGB (bw n:Nat)(G:Nat->Prop)(sh k m x y:Int)(pl sp:Nat)(t:ByteArray)(w:World)(h:LI w bw G n):
  Calls prog 22 #[.pointer (some ⟨bw,0,none⟩),.agg #[.int .i64 8,.int .i64 sh,.int .i64 k,.int .i64 m,.int .i64 x,.int .i64 y,.float .f32 pl,.float .f32 sp,.string t]] w fun e w'=>e=.returned (.bool true)/\LIn w w' bw G n:=by
 obtain ⟨bp,bq,bk,A,D,R,p,h,hG⟩:=h
 have BX:Hid (∀W,w.grownBy W none->Calls prog 29 #[.pointer (some ⟨bp,0,none⟩),.int .i64 sh] W fun e w1=>e=.returned (.int .i64 (p.send sh).1)/\PN W w1 bp A (p.send sh).2):=Hid.mk' fun W gW=>aHT (h.pw.grown gW) h.ds.gd sh
 have BY:Hid (∀W,DS W bq D p->Calls prog 55 #[.pointer (some ⟨bq,0,none⟩),.int .i64 sh] W fun e w2=>e=.returned (.int .i64 (p.send sh).1)/\DSn W w2 bq D (p.send sh).2):=Hid.mk' fun W hd=>aIh hd sh
 obtain ⟨G0,AX,AW,H,HG⟩:=dH h hG [.int .i64 8,.int .i64 sh,.int .i64 k,.int .i64 m,.int .i64 x,.int .i64 y,.float .f32 pl,.float .f32 sp,.string t]
 clear h hG
 generalize (p.send sh).1=z at *
 generalize (p.send sh).2=p' at *
 go_enter func22,ntmps22
 go_wp2_with fail
 refine wp_region_held_drew (S:=fun w'=>At w' bw (LC bp bq bk)/\At w' w.heap.size (AC 8 sh k m x y pl sp t)) (by kernel_rfl) (⟨AW.out.drew,AX.out.drew⟩) (fun hHeld=>?_)
 refine aN 0 ?_;simp only[aF]
 refine aN 1 ?_;simp only[aF]
 refine aN 2 ?_;simp only[aF]
 refine bV 3 (fun _ h=>h.1.c 0 _ rfl) ?_;simp only[aF]
 refine aN 4 ?_;simp only[aF]
 refine bV 5 (fun _ h=>h.2.c 1 _ rfl) ?_;simp only[aF]
 refine aX 6 (f:=29) (args:=#[.pointer (some ⟨bp,0,none⟩),.int .i64 sh]) (by kernel_rfl) (by rfl) (by rfl) (by go_simp) ?_
 refine Calls.mono (BX.out _ (aA G0.out)) ?_
 rintro e w1 ⟨rfl,n1⟩
 have h1:=H.out.held1 n1 hHeld
 have N1:=Hid.mk' n1
 clear hHeld n1
 have hHeld:=h1
 refine ⟨_,rfl,hHeld,?_⟩;simp only[aF]
 refine aN 7 ?_;simp only[aF]
 refine wpAnyH_done (by kernel_rfl) ?_ _
 have H1:=Hid.mk' hHeld
 clear hHeld h1
 go_wp2_with fail
 refine wp_region_held_drew (S:=fun w'=>At w' bw (LC bp bq bk)/\At w' w.heap.size (AC 8 sh k m x y pl sp t)) (by kernel_rfl) (⟨H1.out.1.drew,H1.out.2.drew⟩) (fun hHeld=>?_)
 refine aN 0 ?_;simp only[aF]
 refine aN 1 ?_;simp only[aF]
 refine aN 2 ?_;simp only[aF]
 refine bV 3 (fun _ h=>h.1.c 1 _ rfl) ?_;simp only[aF]
 refine aN 4 ?_;simp only[aF]
 refine bV 5 (fun _ h=>h.2.c 1 _ rfl) ?_;simp only[aF]
 refine aX 6 (f:=55) (args:=#[.pointer (some ⟨bq,0,none⟩),.int .i64 sh]) (by kernel_rfl) (by rfl) (by rfl) (by go_simp) ?_
 refine Calls.mono (BY.out _ (H.out.ds1 (aA G0.out) N1.out (aA (aD _ _)))) ?_
 rintro e w2 ⟨rfl,n2⟩
 have h2:=H.out.held2 n2 hHeld
 have N2:=Hid.mk' n2
 clear hHeld n2
 have hHeld:=h2
 refine ⟨_,rfl,hHeld,?_⟩;simp only[aF]
 refine aN 7 ?_;simp only[aF]
 refine wpAnyH_done (by kernel_rfl) ?_ _
 clear hHeld h2
 have hzz:(z==z)=true:=by simp
 go_wp2
 go_ret
 exact ⟨rfl,H.out.both (aA G0.out) N1.out (aA (aD _ _)) N2.out HG.out⟩
theorem aGC (bw n:Nat)(G:Nat->Prop)(sh k m x y:Int)(pl sp:Nat)(t:ByteArray)(w:World)(h:LI w bw G n):
  Calls prog 22 #[.pointer (some ⟨bw,0,none⟩),.agg #[.int .i64 10,.int .i64 sh,.int .i64 k,.int .i64 m,.int .i64 x,.int .i64 y,.float .f32 pl,.float .f32 sp,.string t]] w fun e w'=>e=.returned (.bool true)/\LIn w w' bw G n:=by
 obtain ⟨bp,bq,bk,A,D,R,p,h,hG⟩:=h
 have BX:Hid (∀W,w.grownBy W none->Calls prog 35 #[.pointer (some ⟨bp,0,none⟩),.int .i64 sh,.int .i64 k] W fun e w1=>e=.returned (.int .i64 (p.drop sh k).1)/\PN W w1 bp A (p.drop sh k).2):=Hid.mk' fun W gW=>aHS (h.pw.grown gW) sh k
 have BY:Hid (∀W,DS W bq D p->Calls prog 57 #[.pointer (some ⟨bq,0,none⟩),.int .i64 sh,.int .i64 k] W fun e w2=>e=.returned (.int .i64 (p.drop sh k).1)/\DSn W w2 bq D (p.drop sh k).2):=Hid.mk' fun W hd=>aIg hd sh k
 obtain ⟨G0,AX,AW,H,HG⟩:=dH h hG [.int .i64 10,.int .i64 sh,.int .i64 k,.int .i64 m,.int .i64 x,.int .i64 y,.float .f32 pl,.float .f32 sp,.string t]
 clear h hG
 generalize (p.drop sh k).1=z at *
 generalize (p.drop sh k).2=p' at *
 go_enter func22,ntmps22
 go_wp2_with fail
 refine wp_region_held_drew (S:=fun w'=>At w' bw (LC bp bq bk)/\At w' w.heap.size (AC 10 sh k m x y pl sp t)) (by kernel_rfl) (⟨AW.out.drew,AX.out.drew⟩) (fun hHeld=>?_)
 refine aN 0 ?_;simp only[aF]
 refine aN 1 ?_;simp only[aF]
 refine aN 2 ?_;simp only[aF]
 refine bV 3 (fun _ h=>h.1.c 0 _ rfl) ?_;simp only[aF]
 refine aN 4 ?_;simp only[aF]
 refine bV 5 (fun _ h=>h.2.c 1 _ rfl) ?_;simp only[aF]
 refine aN 6 ?_;simp only[aF]
 refine bV 7 (fun _ h=>h.2.c 2 _ rfl) ?_;simp only[aF]
 refine aX 8 (f:=35) (args:=#[.pointer (some ⟨bp,0,none⟩),.int .i64 sh,.int .i64 k]) (by kernel_rfl) (by rfl) (by rfl) (by go_simp) ?_
 refine Calls.mono (BX.out _ (aA G0.out)) ?_
 rintro e w1 ⟨rfl,n1⟩
 have h1:=H.out.held1 n1 hHeld
 have N1:=Hid.mk' n1
 clear hHeld n1
 have hHeld:=h1
 refine ⟨_,rfl,hHeld,?_⟩;simp only[aF]
 refine aN 9 ?_;simp only[aF]
 refine wpAnyH_done (by kernel_rfl) ?_ _
 have H1:=Hid.mk' hHeld
 clear hHeld h1
 go_wp2_with fail
 refine wp_region_held_drew (S:=fun w'=>At w' bw (LC bp bq bk)/\At w' w.heap.size (AC 10 sh k m x y pl sp t)) (by kernel_rfl) (⟨H1.out.1.drew,H1.out.2.drew⟩) (fun hHeld=>?_)
 refine aN 0 ?_;simp only[aF]
 refine aN 1 ?_;simp only[aF]
 refine aN 2 ?_;simp only[aF]
 refine bV 3 (fun _ h=>h.1.c 1 _ rfl) ?_;simp only[aF]
 refine aN 4 ?_;simp only[aF]
 refine bV 5 (fun _ h=>h.2.c 1 _ rfl) ?_;simp only[aF]
 refine aN 6 ?_;simp only[aF]
 refine bV 7 (fun _ h=>h.2.c 2 _ rfl) ?_;simp only[aF]
 refine aX 8 (f:=57) (args:=#[.pointer (some ⟨bq,0,none⟩),.int .i64 sh,.int .i64 k]) (by kernel_rfl) (by rfl) (by rfl) (by go_simp) ?_
 refine Calls.mono (BY.out _ (H.out.ds1 (aA G0.out) N1.out (aA (aD _ _)))) ?_
 rintro e w2 ⟨rfl,n2⟩
 have h2:=H.out.held2 n2 hHeld
 have N2:=Hid.mk' n2
 clear hHeld n2
 have hHeld:=h2
 refine ⟨_,rfl,hHeld,?_⟩;simp only[aF]
 refine aN 9 ?_;simp only[aF]
 refine wpAnyH_done (by kernel_rfl) ?_ _
 clear hHeld h2
 have hzz:(z==z)=true:=by simp
 go_wp2
 go_ret
 exact ⟨rfl,H.out.both (aA G0.out) N1.out (aA (aD _ _)) N2.out HG.out⟩
theorem aBl (bw n:Nat)(G:Nat->Prop)(sh k m x y:Int)(pl sp:Nat)(t:ByteArray)(w:World)(h:LI w bw G n):
  Calls prog 22 #[.pointer (some ⟨bw,0,none⟩),.agg #[.int .i64 11,.int .i64 sh,.int .i64 k,.int .i64 m,.int .i64 x,.int .i64 y,.float .f32 pl,.float .f32 sp,.string t]] w fun e w'=>e=.returned (.bool true)/\LIn w w' bw G n:=by
 obtain ⟨bp,bq,bk,A,D,R,p,h,hG⟩:=h
 have BX:Hid (∀W,w.grownBy W none->Calls prog 36 #[.pointer (some ⟨bp,0,none⟩),.int .i64 sh,.int .i64 k] W fun e w1=>e=.returned (.int .i64 (p.double sh k).1)/\PN W w1 bp A (p.double sh k).2):=Hid.mk' fun W gW=>aDA (h.pw.grown gW) sh k
 have BY:Hid (∀W,DS W bq D p->Calls prog 58 #[.pointer (some ⟨bq,0,none⟩),.int .i64 sh,.int .i64 k] W fun e w2=>e=.returned (.int .i64 (p.double sh k).1)/\DSn W w2 bq D (p.double sh k).2):=Hid.mk' fun W hd=>aDL hd sh k
 obtain ⟨G0,AX,AW,H,HG⟩:=dH h hG [.int .i64 11,.int .i64 sh,.int .i64 k,.int .i64 m,.int .i64 x,.int .i64 y,.float .f32 pl,.float .f32 sp,.string t]
 clear h hG
 generalize (p.double sh k).1=z at *
 generalize (p.double sh k).2=p' at *
 go_enter func22,ntmps22
 go_wp2_with fail
 refine wp_region_held_drew (S:=fun w'=>At w' bw (LC bp bq bk)/\At w' w.heap.size (AC 11 sh k m x y pl sp t)) (by kernel_rfl) (⟨AW.out.drew,AX.out.drew⟩) (fun hHeld=>?_)
 refine aN 0 ?_;simp only[aF]
 refine aN 1 ?_;simp only[aF]
 refine aN 2 ?_;simp only[aF]
 refine bV 3 (fun _ h=>h.1.c 0 _ rfl) ?_;simp only[aF]
 refine aN 4 ?_;simp only[aF]
 refine bV 5 (fun _ h=>h.2.c 1 _ rfl) ?_;simp only[aF]
 refine aN 6 ?_;simp only[aF]
 refine bV 7 (fun _ h=>h.2.c 2 _ rfl) ?_;simp only[aF]
 refine aX 8 (f:=36) (args:=#[.pointer (some ⟨bp,0,none⟩),.int .i64 sh,.int .i64 k]) (by kernel_rfl) (by rfl) (by rfl) (by go_simp) ?_
 refine Calls.mono (BX.out _ (aA G0.out)) ?_
 rintro e w1 ⟨rfl,n1⟩
 have h1:=H.out.held1 n1 hHeld
 have N1:=Hid.mk' n1
 clear hHeld n1
 have hHeld:=h1
 refine ⟨_,rfl,hHeld,?_⟩;simp only[aF]
 refine aN 9 ?_;simp only[aF]
 refine wpAnyH_done (by kernel_rfl) ?_ _
 have H1:=Hid.mk' hHeld
 clear hHeld h1
 go_wp2_with fail
 refine wp_region_held_drew (S:=fun w'=>At w' bw (LC bp bq bk)/\At w' w.heap.size (AC 11 sh k m x y pl sp t)) (by kernel_rfl) (⟨H1.out.1.drew,H1.out.2.drew⟩) (fun hHeld=>?_)
 refine aN 0 ?_;simp only[aF]
 refine aN 1 ?_;simp only[aF]
 refine aN 2 ?_;simp only[aF]
 refine bV 3 (fun _ h=>h.1.c 1 _ rfl) ?_;simp only[aF]
 refine aN 4 ?_;simp only[aF]
 refine bV 5 (fun _ h=>h.2.c 1 _ rfl) ?_;simp only[aF]
 refine aN 6 ?_;simp only[aF]
 refine bV 7 (fun _ h=>h.2.c 2 _ rfl) ?_;simp only[aF]
 refine aX 8 (f:=58) (args:=#[.pointer (some ⟨bq,0,none⟩),.int .i64 sh,.int .i64 k]) (by kernel_rfl) (by rfl) (by rfl) (by go_simp) ?_
 refine Calls.mono (BY.out _ (H.out.ds1 (aA G0.out) N1.out (aA (aD _ _)))) ?_
 rintro e w2 ⟨rfl,n2⟩
 have h2:=H.out.held2 n2 hHeld
 have N2:=Hid.mk' n2
 clear hHeld n2
 have hHeld:=h2
 refine ⟨_,rfl,hHeld,?_⟩;simp only[aF]
 refine aN 9 ?_;simp only[aF]
 refine wpAnyH_done (by kernel_rfl) ?_ _
 clear hHeld h2
 have hzz:(z==z)=true:=by simp
 go_wp2
 go_ret
 exact ⟨rfl,H.out.both (aA G0.out) N1.out (aA (aD _ _)) N2.out HG.out⟩
theorem aDR (bw n:Nat)(G:Nat->Prop)(sh k m x y:Int)(pl sp:Nat)(t:ByteArray)(w:World)(h:LI w bw G n):
  Calls prog 22 #[.pointer (some ⟨bw,0,none⟩),.agg #[.int .i64 12,.int .i64 sh,.int .i64 k,.int .i64 m,.int .i64 x,.int .i64 y,.float .f32 pl,.float .f32 sp,.string t]] w fun e w'=>e=.returned (.bool true)/\LIn w w' bw G n:=by
 obtain ⟨bp,bq,bk,A,D,R,p,h,hG⟩:=h
 have BX:Hid (∀W,w.grownBy W none->Calls prog 37 #[.pointer (some ⟨bp,0,none⟩),.int .i64 sh,.int .i64 k,.int .i64 m] W fun e w1=>e=.returned (.int .i64 (p.spoil sh k m).1)/\PN W w1 bp A (p.spoil sh k m).2):=Hid.mk' fun W gW=>aGl (h.pw.grown gW) sh k m
 have BY:Hid (∀W,DS W bq D p->Calls prog 59 #[.pointer (some ⟨bq,0,none⟩),.int .i64 sh,.int .i64 k,.int .i64 m] W fun e w2=>e=.returned (.int .i64 (p.spoil sh k m).1)/\DSn W w2 bq D (p.spoil sh k m).2):=Hid.mk' fun W hd=>aGx hd sh k m
 obtain ⟨G0,AX,AW,H,HG⟩:=dH h hG [.int .i64 12,.int .i64 sh,.int .i64 k,.int .i64 m,.int .i64 x,.int .i64 y,.float .f32 pl,.float .f32 sp,.string t]
 clear h hG
 generalize (p.spoil sh k m).1=z at *
 generalize (p.spoil sh k m).2=p' at *
 go_enter func22,ntmps22
 go_wp2_with fail
 refine wp_region_held_drew (S:=fun w'=>At w' bw (LC bp bq bk)/\At w' w.heap.size (AC 12 sh k m x y pl sp t)) (by kernel_rfl) (⟨AW.out.drew,AX.out.drew⟩) (fun hHeld=>?_)
 refine aN 0 ?_;simp only[aF]
 refine aN 1 ?_;simp only[aF]
 refine aN 2 ?_;simp only[aF]
 refine bV 3 (fun _ h=>h.1.c 0 _ rfl) ?_;simp only[aF]
 refine aN 4 ?_;simp only[aF]
 refine bV 5 (fun _ h=>h.2.c 1 _ rfl) ?_;simp only[aF]
 refine aN 6 ?_;simp only[aF]
 refine bV 7 (fun _ h=>h.2.c 2 _ rfl) ?_;simp only[aF]
 refine aN 8 ?_;simp only[aF]
 refine bV 9 (fun _ h=>h.2.c 3 _ rfl) ?_;simp only[aF]
 refine aX 10 (f:=37) (args:=#[.pointer (some ⟨bp,0,none⟩),.int .i64 sh,.int .i64 k,.int .i64 m]) (by kernel_rfl) (by rfl) (by rfl) (by go_simp) ?_
 refine Calls.mono (BX.out _ (aA G0.out)) ?_
 rintro e w1 ⟨rfl,n1⟩
 have h1:=H.out.held1 n1 hHeld
 have N1:=Hid.mk' n1
 clear hHeld n1
 have hHeld:=h1
 refine ⟨_,rfl,hHeld,?_⟩;simp only[aF]
 refine aN 11 ?_;simp only[aF]
 refine wpAnyH_done (by kernel_rfl) ?_ _
 have H1:=Hid.mk' hHeld
 clear hHeld h1
 go_wp2_with fail
 refine wp_region_held_drew (S:=fun w'=>At w' bw (LC bp bq bk)/\At w' w.heap.size (AC 12 sh k m x y pl sp t)) (by kernel_rfl) (⟨H1.out.1.drew,H1.out.2.drew⟩) (fun hHeld=>?_)
 refine aN 0 ?_;simp only[aF]
 refine aN 1 ?_;simp only[aF]
 refine aN 2 ?_;simp only[aF]
 refine bV 3 (fun _ h=>h.1.c 1 _ rfl) ?_;simp only[aF]
 refine aN 4 ?_;simp only[aF]
 refine bV 5 (fun _ h=>h.2.c 1 _ rfl) ?_;simp only[aF]
 refine aN 6 ?_;simp only[aF]
 refine bV 7 (fun _ h=>h.2.c 2 _ rfl) ?_;simp only[aF]
 refine aN 8 ?_;simp only[aF]
 refine bV 9 (fun _ h=>h.2.c 3 _ rfl) ?_;simp only[aF]
 refine aX 10 (f:=59) (args:=#[.pointer (some ⟨bq,0,none⟩),.int .i64 sh,.int .i64 k,.int .i64 m]) (by kernel_rfl) (by rfl) (by rfl) (by go_simp) ?_
 refine Calls.mono (BY.out _ (H.out.ds1 (aA G0.out) N1.out (aA (aD _ _)))) ?_
 rintro e w2 ⟨rfl,n2⟩
 have h2:=H.out.held2 n2 hHeld
 have N2:=Hid.mk' n2
 clear hHeld n2
 have hHeld:=h2
 refine ⟨_,rfl,hHeld,?_⟩;simp only[aF]
 refine aN 11 ?_;simp only[aF]
 refine wpAnyH_done (by kernel_rfl) ?_ _
 clear hHeld h2
 have hzz:(z==z)=true:=by simp
 go_wp2
 go_ret
 exact ⟨rfl,H.out.both (aA G0.out) N1.out (aA (aD _ _)) N2.out HG.out⟩
theorem aBm (bw n:Nat)(G:Nat->Prop)(sh k m x y:Int)(pl sp:Nat)(l:List UInt8)(w:World)(h:LI w bw G n):
  Calls prog 22 #[.pointer (some ⟨bw,0,none⟩),.agg #[.int .i64 13,.int .i64 sh,.int .i64 k,.int .i64 m,.int .i64 x,.int .i64 y,.float .f32 pl,.float .f32 sp,.string (S l)]] w fun e w'=>e=.returned (.bool true)/\LIn w w' bw G n:=by
 obtain ⟨bp,bq,bk,A,D,R,p,h,hG⟩:=h
 have BX:Hid (∀W,w.grownBy W none->Calls prog 60 #[.pointer (some ⟨bp,0,none⟩),.int .i64 sh,.string (S l)] W fun e w1=>e=.returned (.int .i64 (p.inject sh l).1)/\PN W w1 bp A (p.inject sh l).2):=Hid.mk' fun W gW=>aDB (h.pw.grown gW) sh l
 have BY:Hid (∀W,DS W bq D p->Calls prog 61 #[.pointer (some ⟨bq,0,none⟩),.int .i64 sh,.string (S l)] W fun e w2=>e=.returned (.int .i64 (p.inject sh l).1)/\DSn W w2 bq D (p.inject sh l).2):=Hid.mk' fun W hd=>aDM hd sh l
 obtain ⟨G0,AX,AW,H,HG⟩:=dH h hG [.int .i64 13,.int .i64 sh,.int .i64 k,.int .i64 m,.int .i64 x,.int .i64 y,.float .f32 pl,.float .f32 sp,.string (S l)]
 clear h hG
 generalize (p.inject sh l).1=z at *
 generalize (p.inject sh l).2=p' at *
 go_enter func22,ntmps22
 go_wp2_with fail
 refine wp_region_held_drew (S:=fun w'=>At w' bw (LC bp bq bk)/\At w' w.heap.size (AC 13 sh k m x y pl sp (S l))) (by kernel_rfl) (⟨AW.out.drew,AX.out.drew⟩) (fun hHeld=>?_)
 refine aN 0 ?_;simp only[aF]
 refine aN 1 ?_;simp only[aF]
 refine aN 2 ?_;simp only[aF]
 refine bV 3 (fun _ h=>h.1.c 0 _ rfl) ?_;simp only[aF]
 refine aN 4 ?_;simp only[aF]
 refine bV 5 (fun _ h=>h.2.c 1 _ rfl) ?_;simp only[aF]
 refine aN 6 ?_;simp only[aF]
 refine bV 7 (fun _ h=>h.2.c 8 _ rfl) ?_;simp only[aF]
 refine aX 8 (f:=60) (args:=#[.pointer (some ⟨bp,0,none⟩),.int .i64 sh,.string (S l)]) (by kernel_rfl) (by rfl) (by rfl) (by go_simp) ?_
 refine Calls.mono (BX.out _ (aA G0.out)) ?_
 rintro e w1 ⟨rfl,n1⟩
 have h1:=H.out.held1 n1 hHeld
 have N1:=Hid.mk' n1
 clear hHeld n1
 have hHeld:=h1
 refine ⟨_,rfl,hHeld,?_⟩;simp only[aF]
 refine aN 9 ?_;simp only[aF]
 refine wpAnyH_done (by kernel_rfl) ?_ _
 have H1:=Hid.mk' hHeld
 clear hHeld h1
 go_wp2_with fail
 refine wp_region_held_drew (S:=fun w'=>At w' bw (LC bp bq bk)/\At w' w.heap.size (AC 13 sh k m x y pl sp (S l))) (by kernel_rfl) (⟨H1.out.1.drew,H1.out.2.drew⟩) (fun hHeld=>?_)
 refine aN 0 ?_;simp only[aF]
 refine aN 1 ?_;simp only[aF]
 refine aN 2 ?_;simp only[aF]
 refine bV 3 (fun _ h=>h.1.c 1 _ rfl) ?_;simp only[aF]
 refine aN 4 ?_;simp only[aF]
 refine bV 5 (fun _ h=>h.2.c 1 _ rfl) ?_;simp only[aF]
 refine aN 6 ?_;simp only[aF]
 refine bV 7 (fun _ h=>h.2.c 8 _ rfl) ?_;simp only[aF]
 refine aX 8 (f:=61) (args:=#[.pointer (some ⟨bq,0,none⟩),.int .i64 sh,.string (S l)]) (by kernel_rfl) (by rfl) (by rfl) (by go_simp) ?_
 refine Calls.mono (BY.out _ (H.out.ds1 (aA G0.out) N1.out (aA (aD _ _)))) ?_
 rintro e w2 ⟨rfl,n2⟩
 have h2:=H.out.held2 n2 hHeld
 have N2:=Hid.mk' n2
 clear hHeld n2
 have hHeld:=h2
 refine ⟨_,rfl,hHeld,?_⟩;simp only[aF]
 refine aN 9 ?_;simp only[aF]
 refine wpAnyH_done (by kernel_rfl) ?_ _
 clear hHeld h2
 have hzz:(z==z)=true:=by simp
 go_wp2
 go_ret
 exact ⟨rfl,H.out.both (aA G0.out) N1.out (aA (aD _ _)) N2.out HG.out⟩
theorem aGD (bw n:Nat)(G:Nat->Prop)(sh k m x y:Int)(pl sp:Nat)(t:ByteArray)(w:World)(h:LI w bw G n)(wp:pl<4294967296)(wq:sp<4294967296):
  Calls prog 22 #[.pointer (some ⟨bw,0,none⟩),.agg #[.int .i64 1,.int .i64 sh,.int .i64 k,.int .i64 m,.int .i64 x,.int .i64 y,.float .f32 pl,.float .f32 sp,.string t]] w fun e w'=>e=.returned (.bool true)/\LIn w w' bw G n:=by
 obtain ⟨bp,bq,bk,A,D,R,p,lm,hG⟩:=h
 have g0:=World.grownBy_alloc w (.cells #[.int .i64 1,.int .i64 sh,.int .i64 k,.int .i64 m,.int .i64 x,.int .i64 y,.float .f32 pl,.float .f32 sp,.string t] 35) none
 have LMH:=Hid.mk' lm
 have G0:=Hid.mk' g0
 have AX:=Hid.mk' (At.new w [.int .i64 1,.int .i64 sh,.int .i64 k,.int .i64 m,.int .i64 x,.int .i64 y,.float .f32 pl,.float .f32 sp,.string t] 35)
 have AW:=Hid.mk' (lm.lw.grown g0)
 have nqb:Hid (∀j,D j->j≠bw/\j<w.heap.size/\G j):=Hid.mk' fun j hj=>⟨(lm.ld j hj).2.1,(lm.ld j hj).1,hG j (.inr (.inr (.inl hj)))⟩
 have nfb:Hid (∀j,A j->j≠bw/\j<w.heap.size/\G j):=Hid.mk' fun j hj=>⟨(lm.la j hj).2.1,(lm.la j hj).1,hG j (.inr (.inl hj))⟩
 have BT:=Hid.mk' fun W (gW:w.grownBy W none)=>aDO (LMH.out.grown gW) hG w.heap.size (fun j hj=>lm.lt hj) gW.size sh pl sp wp wq
 have bwl:=lm.lw.lt
 clear lm g0 hG
 unfold qB at BT
 go_enter func22,ntmps22
 go_wp2_with fail
 refine wp_region_held_drew (S:=fun w'=>At w' bw (LC bp bq bk)/\At w' w.heap.size (AC 1 sh k m x y pl sp t)/\True) (by kernel_rfl) (⟨AW.out.drew,AX.out.drew,trivial⟩) (fun hHeld=>?_)
 refine aN 0 ?_
 simp only[aF]
 refine aN 1 ?_
 simp only[aF]
 refine aN 2 ?_
 simp only[aF]
 refine bV 3 (fun _ h=>h.1.c 0 _ rfl) ?_
 simp only[aF]
 refine aN 4 ?_
 simp only[aF]
 refine bV 5 (fun _ h=>h.2.1.c 1 _ rfl) ?_
 simp only[aF]
 refine aN 6 ?_
 simp only[aF]
 refine bV 7 (fun _ h=>h.2.1.c 6 _ rfl) ?_
 simp only[aF]
 refine aN 8 ?_
 simp only[aF]
 refine bV 9 (fun _ h=>h.2.1.c 7 _ rfl) ?_
 simp only[aF]
 refine qP 10 14 (f:=46) (args:=#[.pointer (some ⟨bp,0,none⟩),.int .i64 sh,.float .f32 pl,.float .f32 sp]) (by kernel_rfl) (by rfl) (by rfl) (by go_simp) (by rfl) (by rfl) ?_ ?_
 refine Calls.mono (BT.out _ (aA G0.out)) ?_
 rintro e w1 ⟨ix,iy,z,rfl,o1,nx⟩
 have hS:At w1 bw (LC bp bq bk)/\At w1 w.heap.size (AC 1 sh k m x y pl sp t)/\True:=⟨hHeld.1.only o1 (fun e=>(nfb.out _ e).1 rfl),hHeld.2.1.only o1 (fun e=>Nat.lt_irrefl _ (nfb.out _ e).2.1),trivial⟩
 have O1:=Hid.mk' o1
 have NX0:=Hid.mk' nx
 have z1:=o1.size
 simp at z1
 clear hHeld
 have hHeld:=hS
 refine ⟨_,rfl,hHeld,?_⟩
 simp only[aF]
 refine aN 11 ?_
 simp only[aF]
 refine aN 12 ?_
 simp only[aF]
 refine aN 13 ?_
 simp only[aF]
 refine fV 14 (by kernel_rfl) (by rfl) (by rfl) ?_
 intro K hK
 go_simp
 refine hK _ _ ⟨hHeld.1.alloc _,hHeld.2.1.alloc _,trivial⟩ ?_
 clear hK K
 refine fV 15 (by kernel_rfl) (by rfl) (by rfl) ?_
 intro K hK
 go_simp
 refine hK _ _ ⟨hHeld.1.alloc _,hHeld.2.1.alloc _,trivial⟩ ?_
 clear hK K
 replace hHeld:At (w1.alloc (.cells #[.int .i64 ix,.int .i64 iy] 32)) bw [.pointer (some ⟨bp,0,none⟩),.pointer (some ⟨bq,0,none⟩),.pointer (some ⟨bk,0,none⟩)]/\At (w1.alloc (.cells #[.int .i64 ix,.int .i64 iy] 32)) w.heap.size [.int .i64 1,.int .i64 sh,.int .i64 k,.int .i64 m,.int .i64 x,.int .i64 y,.float .f32 pl,.float .f32 sp,.string t]/\True:=⟨hHeld.1.alloc _,hHeld.2.1.alloc _,trivial⟩
 refine aN 16 ?_
 simp only[aF]
 refine wpAnyH_done (by kernel_rfl) ?_ _
 have XA1:Hid (At (w1.alloc (.cells #[.int .i64 ix,.int .i64 iy] 32)) w1.heap.size [.int .i64 ix,.int .i64 iy]):=Hid.mk' (At.new w1 [.int .i64 ix,.int .i64 iy] 32)
 have VO:=Hid.mk' ((Only.grown (World.grownBy_alloc w1 (.cells #[.int .i64 ix,.int .i64 iy] 32) none)).mono (A':=fun j=>w.heap.size<j/\j<(w.alloc (.cells #[.int .i64 1,.int .i64 sh,.int .i64 k,.int .i64 m,.int .i64 x,.int .i64 y,.float .f32 pl,.float .f32 sp,.string t] 35)).drew.heap.size) (by simp))
 have ON1:Hid (Only w (w1.alloc (.cells #[.int .i64 ix,.int .i64 iy] 32)) G):=Hid.mk' ((((Only.grown (aA G0.out)).mono (A':=G) (by simp)).trans (O1.out.mono (fun j _ e=>.inl (nfb.out j e).2.2))).trans (VO.out.mono (fun j _ e=>.inr (by omega))))
 have NX1:Hid (∀W,(w1.alloc (.cells #[.int .i64 ix,.int .i64 iy] 32)).grownBy W none->Calls prog 47 #[.pointer (some ⟨bq,0,none⟩),.int .i64 sh,.float .f32 pl,.float .f32 sp] W fun e' w2=>e'=.returned (.tuple #[.agg #[.int .i64 ix,.int .i64 iy],.int .i64 z])/\Only W w2 D/\∀V',Only w2 V' (fun j=>(w1.alloc (.cells #[.int .i64 ix,.int .i64 iy] 32)).heap.size<=j)->LI V' bw (fun j=>G j∨w.heap.size<=j) n):=Hid.mk' fun W gW=>by
  refine (NX0.out W ((VO.out.mono (fun j h1 h2=>.inl ⟨by omega,h2.2⟩)).trans ((Only.grown gW).mono (by simp)))).mono ?_
  rintro e w2 ⟨e1,e2,e3⟩
  exact ⟨e1,e2,fun V' o'=>e3 V' (o'.mono (fun j _ e=>.inr (by simp at e;omega)))⟩
 have HA1:=Hid.mk' hHeld
 have xl1:w.heap.size<w1.heap.size:=by omega
 have ONZ:=ON1.out.size
 have xv1:=XA1.out.lt
 clear hHeld hS NX0 VO O1
 generalize (w1.alloc (.cells #[.int .i64 ix,.int .i64 iy] 32))=V1 at *
 generalize w1.heap.size=X1 at *
 rotate_left
 intro K hK
 go_simp
 refine hK _ _ ⟨hHeld.1.alloc _,hHeld.2.1.alloc _,trivial⟩ ?_
 clear hK K
 replace hHeld:At ((w.alloc (.cells #[.int .i64 1,.int .i64 sh,.int .i64 k,.int .i64 m,.int .i64 x,.int .i64 y,.float .f32 pl,.float .f32 sp,.string t] 35)).drew.alloc (.cells #[.int .i64 0,.int .i64 0] 32)) bw [.pointer (some ⟨bp,0,none⟩),.pointer (some ⟨bq,0,none⟩),.pointer (some ⟨bk,0,none⟩)]/\At ((w.alloc (.cells #[.int .i64 1,.int .i64 sh,.int .i64 k,.int .i64 m,.int .i64 x,.int .i64 y,.float .f32 pl,.float .f32 sp,.string t] 35)).drew.alloc (.cells #[.int .i64 0,.int .i64 0] 32)) w.heap.size [.int .i64 1,.int .i64 sh,.int .i64 k,.int .i64 m,.int .i64 x,.int .i64 y,.float .f32 pl,.float .f32 sp,.string t]/\True:=⟨hHeld.1.alloc _,hHeld.2.1.alloc _,trivial⟩
 refine aX 10 (f:=46) (args:=#[.pointer (some ⟨bp,0,none⟩),.int .i64 sh,.float .f32 pl,.float .f32 sp]) (by kernel_rfl) (by rfl) (by rfl) (by go_simp) ?_
 refine Calls.mono (BT.out _ (aG (aA G0.out) _)) ?_
 rintro e w1 ⟨ix,iy,z,rfl,o1,nx⟩
 have hS:At w1 bw (LC bp bq bk)/\At w1 w.heap.size (AC 1 sh k m x y pl sp t)/\True:=⟨hHeld.1.only o1 (fun e=>(nfb.out _ e).1 rfl),hHeld.2.1.only o1 (fun e=>Nat.lt_irrefl _ (nfb.out _ e).2.1),trivial⟩
 have O1:=Hid.mk' o1
 have NX0:=Hid.mk' nx
 have z1:=o1.size
 simp at z1
 have XB:At w1 (w.heap.size+1) [.int .i64 0,.int .i64 0]:=by
  have:=(At.new (w.alloc (.cells #[.int .i64 1,.int .i64 sh,.int .i64 k,.int .i64 m,.int .i64 x,.int .i64 y,.float .f32 pl,.float .f32 sp,.string t] 35)).drew [.int .i64 0,.int .i64 0] 32).only o1 (fun e=>by have:=(nfb.out _ e).2.1;simp at this;omega)
  simpa using this
 clear hHeld
 have hHeld:=hS
 refine ⟨_,rfl,hHeld,?_⟩
 simp only[aF]
 refine aN 11 ?_
 simp only[aF]
 refine aN 12 ?_
 simp only[aF]
 refine aN 13 ?_
 simp only[aF]
 refine fV 15 (by kernel_rfl) (by rfl) (by rfl) ?_
 intro K hK
 have xf:=XB.f
 have xc0:=XB.c 0 _ rfl
 have xc1:=XB.c 1 _ rfl
 have PXL:=XB.all [.int .i64 ix,.int .i64 iy] rfl
 have POL:=cW (w.heap.size+1) [.int .i64 ix,.int .i64 iy] w1 0
 simp only[mR,Nat.reduceAdd] at PXL POL
 go_simp
 have hS2:At ((w1.setCell ⟨(w.heap.size+1),0,none⟩ (.int .i64 ix)).setCell ⟨(w.heap.size+1),1,none⟩ (.int .i64 iy)) bw [.pointer (some ⟨bp,0,none⟩),.pointer (some ⟨bq,0,none⟩),.pointer (some ⟨bk,0,none⟩)]/\At ((w1.setCell ⟨(w.heap.size+1),0,none⟩ (.int .i64 ix)).setCell ⟨(w.heap.size+1),1,none⟩ (.int .i64 iy)) w.heap.size [.int .i64 1,.int .i64 sh,.int .i64 k,.int .i64 m,.int .i64 x,.int .i64 y,.float .f32 pl,.float .f32 sp,.string t]/\True:=⟨hHeld.1.only POL (fun e=>by omega),hHeld.2.1.only POL (fun e=>by omega),trivial⟩
 refine hK _ _ hS2 ?_
 clear hK K
 clear hHeld
 have hHeld:=hS2
 refine aN 16 ?_
 simp only[aF]
 refine wpAnyH_done (by kernel_rfl) ?_ _
 have XA1:Hid (At ((w1.setCell ⟨(w.heap.size+1),0,none⟩ (.int .i64 ix)).setCell ⟨(w.heap.size+1),1,none⟩ (.int .i64 iy)) (w.heap.size+1) [.int .i64 ix,.int .i64 iy]):=Hid.mk' PXL
 have VO:=Hid.mk' (POL.mono (A':=fun j=>w.heap.size<j/\j<((w.alloc (.cells #[.int .i64 1,.int .i64 sh,.int .i64 k,.int .i64 m,.int .i64 x,.int .i64 y,.float .f32 pl,.float .f32 sp,.string t] 35)).drew.alloc (.cells #[.int .i64 0,.int .i64 0] 32)).heap.size) (fun j h1 h2=>by simp;omega))
 have ON1:Hid (Only w ((w1.setCell ⟨(w.heap.size+1),0,none⟩ (.int .i64 ix)).setCell ⟨(w.heap.size+1),1,none⟩ (.int .i64 iy)) G):=Hid.mk' (((((Only.grown (aA G0.out)).mono (A':=G) (by simp)).trans ((Only.grown (World.grownBy_alloc (w.alloc (.cells #[.int .i64 1,.int .i64 sh,.int .i64 k,.int .i64 m,.int .i64 x,.int .i64 y,.float .f32 pl,.float .f32 sp,.string t] 35)).drew (.cells #[.int .i64 0,.int .i64 0] 32) none)).mono (by simp))).trans (O1.out.mono (fun j _ e=>.inl (nfb.out j e).2.2))).trans (VO.out.mono (fun j _ e=>.inr (by omega))))
 have NX1:Hid (∀W,((w1.setCell ⟨(w.heap.size+1),0,none⟩ (.int .i64 ix)).setCell ⟨(w.heap.size+1),1,none⟩ (.int .i64 iy)).grownBy W none->Calls prog 47 #[.pointer (some ⟨bq,0,none⟩),.int .i64 sh,.float .f32 pl,.float .f32 sp] W fun e' w2=>e'=.returned (.tuple #[.agg #[.int .i64 ix,.int .i64 iy],.int .i64 z])/\Only W w2 D/\∀V',Only w2 V' (fun j=>((w1.setCell ⟨(w.heap.size+1),0,none⟩ (.int .i64 ix)).setCell ⟨(w.heap.size+1),1,none⟩ (.int .i64 iy)).heap.size<=j)->LI V' bw (fun j=>G j∨w.heap.size<=j) n):=Hid.mk' fun W gW=>by
  refine (NX0.out W ((VO.out.mono (fun j h1 h2=>.inl ⟨by omega,h2.2⟩)).trans ((Only.grown gW).mono (by simp)))).mono ?_
  rintro e w2 ⟨e1,e2,e3⟩
  exact ⟨e1,e2,fun V' o'=>e3 V' (o'.mono (fun j _ e=>.inr (by simp at e;omega)))⟩
 clear PXL POL hS2 XB xf xc0 xc1
 have HA1:=Hid.mk' hHeld
 have xl1:w.heap.size<(w.heap.size+1):=by omega
 have ONZ:=ON1.out.size
 have xv1:=XA1.out.lt
 clear hHeld hS NX0 VO O1
 generalize ((w1.setCell ⟨(w.heap.size+1),0,none⟩ (.int .i64 ix)).setCell ⟨(w.heap.size+1),1,none⟩ (.int .i64 iy))=V1 at *
 generalize (w.heap.size+1)=X1 at *
 all_goals
  go_wp2_with fail
  refine wp_region_held_drew (S:=fun w'=>At w' bw (LC bp bq bk)/\At w' w.heap.size (AC 1 sh k m x y pl sp t)/\At w' X1 [.int .i64 ix,.int .i64 iy]) (by kernel_rfl) (⟨HA1.out.1.drew,HA1.out.2.1.drew,XA1.out.drew⟩) (fun hHeld=>?_)
  refine aN 0 ?_
  simp only[aF]
  refine aN 1 ?_
  simp only[aF]
  refine aN 2 ?_
  simp only[aF]
  refine bV 3 (fun _ h=>h.1.c 1 _ rfl) ?_
  simp only[aF]
  refine aN 4 ?_
  simp only[aF]
  refine bV 5 (fun _ h=>h.2.1.c 1 _ rfl) ?_
  simp only[aF]
  refine aN 6 ?_
  simp only[aF]
  refine bV 7 (fun _ h=>h.2.1.c 6 _ rfl) ?_
  simp only[aF]
  refine aN 8 ?_
  simp only[aF]
  refine bV 9 (fun _ h=>h.2.1.c 7 _ rfl) ?_
  simp only[aF]
  refine qP 10 14 (f:=47) (args:=#[.pointer (some ⟨bq,0,none⟩),.int .i64 sh,.float .f32 pl,.float .f32 sp]) (by kernel_rfl) (by rfl) (by rfl) (by go_simp) (by rfl) (by rfl) ?_ ?_
  refine Calls.mono (NX1.out _ (aA (aD _ _))) ?_
  rintro e w2 ⟨rfl,o2,cl2⟩
  have hS:At w2 bw (LC bp bq bk)/\At w2 w.heap.size (AC 1 sh k m x y pl sp t)/\At w2 X1 [.int .i64 ix,.int .i64 iy]:=⟨hHeld.1.only o2 (fun e=>(nqb.out _ e).1 rfl),hHeld.2.1.only o2 (fun e=>Nat.lt_irrefl _ (nqb.out _ e).2.1),hHeld.2.2.only o2 (fun e=>by have:=(nqb.out _ e).2.1;omega)⟩
  have O2:=Hid.mk' o2
  have CL2:=Hid.mk' cl2
  have z2:=o2.size
  simp at z2
  clear hHeld
  have hHeld:=hS
  refine ⟨_,rfl,hHeld,?_⟩
  simp only[aF]
  refine aN 11 ?_
  simp only[aF]
  refine aN 12 ?_
  simp only[aF]
  refine aN 13 ?_
  simp only[aF]
  refine fV 14 (by kernel_rfl) (by rfl) (by rfl) ?_
  intro K hK
  go_simp
  refine hK _ _ ⟨hHeld.1.alloc _,hHeld.2.1.alloc _,hHeld.2.2.alloc _⟩ ?_
  clear hK K
  refine fV 15 (by kernel_rfl) (by rfl) (by rfl) ?_
  intro K hK
  go_simp
  refine hK _ _ ⟨hHeld.1.alloc _,hHeld.2.1.alloc _,hHeld.2.2.alloc _⟩ ?_
  clear hK K
  replace hHeld:At (w2.alloc (.cells #[.int .i64 ix,.int .i64 iy] 32)) bw [.pointer (some ⟨bp,0,none⟩),.pointer (some ⟨bq,0,none⟩),.pointer (some ⟨bk,0,none⟩)]/\At (w2.alloc (.cells #[.int .i64 ix,.int .i64 iy] 32)) w.heap.size [.int .i64 1,.int .i64 sh,.int .i64 k,.int .i64 m,.int .i64 x,.int .i64 y,.float .f32 pl,.float .f32 sp,.string t]/\At (w2.alloc (.cells #[.int .i64 ix,.int .i64 iy] 32)) X1 [.int .i64 ix,.int .i64 iy]:=⟨hHeld.1.alloc _,hHeld.2.1.alloc _,hHeld.2.2.alloc _⟩
  refine aN 16 ?_
  simp only[aF]
  refine wpAnyH_done (by kernel_rfl) ?_ _
  have XA2:Hid (At (w2.alloc (.cells #[.int .i64 ix,.int .i64 iy] 32)) w2.heap.size [.int .i64 ix,.int .i64 iy]):=Hid.mk' (At.new w2 [.int .i64 ix,.int .i64 iy] 32)
  have VO:=Hid.mk' ((Only.grown (World.grownBy_alloc w2 (.cells #[.int .i64 ix,.int .i64 iy] 32) none)).mono (A':=fun j=>V1.heap.size<=j) (by simp))
  have L2:=Hid.mk' (CL2.out _ VO.out)
  have ON2:Hid (Only w (w2.alloc (.cells #[.int .i64 ix,.int .i64 iy] 32)) G):=Hid.mk' ((ON1.out.drew.trans (O2.out.mono (fun j _ e=>.inl (nqb.out j e).2.2))).trans (VO.out.mono (fun j _ e=>.inr (by omega))))
  have HA2:=Hid.mk' hHeld
  clear hHeld hS VO O2 CL2
  generalize (w2.alloc (.cells #[.int .i64 ix,.int .i64 iy] 32))=V2 at *
  generalize w2.heap.size=X2 at *
  rotate_left
  intro K hK
  go_simp
  refine hK _ _ ⟨hHeld.1.alloc _,hHeld.2.1.alloc _,hHeld.2.2.alloc _⟩ ?_
  clear hK K
  replace hHeld:At (V1.drew.alloc (.cells #[.int .i64 0,.int .i64 0] 32)) bw [.pointer (some ⟨bp,0,none⟩),.pointer (some ⟨bq,0,none⟩),.pointer (some ⟨bk,0,none⟩)]/\At (V1.drew.alloc (.cells #[.int .i64 0,.int .i64 0] 32)) w.heap.size [.int .i64 1,.int .i64 sh,.int .i64 k,.int .i64 m,.int .i64 x,.int .i64 y,.float .f32 pl,.float .f32 sp,.string t]/\At (V1.drew.alloc (.cells #[.int .i64 0,.int .i64 0] 32)) X1 [.int .i64 ix,.int .i64 iy]:=⟨hHeld.1.alloc _,hHeld.2.1.alloc _,hHeld.2.2.alloc _⟩
  refine aX 10 (f:=47) (args:=#[.pointer (some ⟨bq,0,none⟩),.int .i64 sh,.float .f32 pl,.float .f32 sp]) (by kernel_rfl) (by rfl) (by rfl) (by go_simp) ?_
  refine Calls.mono (NX1.out _ (aG (aA (aD _ _)) _)) ?_
  rintro e w2 ⟨rfl,o2,cl2⟩
  have hS:At w2 bw (LC bp bq bk)/\At w2 w.heap.size (AC 1 sh k m x y pl sp t)/\At w2 X1 [.int .i64 ix,.int .i64 iy]:=⟨hHeld.1.only o2 (fun e=>(nqb.out _ e).1 rfl),hHeld.2.1.only o2 (fun e=>Nat.lt_irrefl _ (nqb.out _ e).2.1),hHeld.2.2.only o2 (fun e=>by have:=(nqb.out _ e).2.1;omega)⟩
  have O2:=Hid.mk' o2
  have CL2:=Hid.mk' cl2
  have z2:=o2.size
  simp at z2
  have XB:At w2 V1.heap.size [.int .i64 0,.int .i64 0]:=by
   have:=(At.new V1.drew [.int .i64 0,.int .i64 0] 32).only o2 (fun e=>by have:=(nqb.out _ e).2.1;simp at this;omega)
   simpa using this
  clear hHeld
  have hHeld:=hS
  refine ⟨_,rfl,hHeld,?_⟩
  simp only[aF]
  refine aN 11 ?_
  simp only[aF]
  refine aN 12 ?_
  simp only[aF]
  refine aN 13 ?_
  simp only[aF]
  refine fV 15 (by kernel_rfl) (by rfl) (by rfl) ?_
  intro K hK
  have xf:=XB.f
  have xc0:=XB.c 0 _ rfl
  have xc1:=XB.c 1 _ rfl
  have PXL:=XB.all [.int .i64 ix,.int .i64 iy] rfl
  have POL:=cW V1.heap.size [.int .i64 ix,.int .i64 iy] w2 0
  simp only[mR,Nat.reduceAdd] at PXL POL
  go_simp
  have hS2:At ((w2.setCell ⟨V1.heap.size,0,none⟩ (.int .i64 ix)).setCell ⟨V1.heap.size,1,none⟩ (.int .i64 iy)) bw [.pointer (some ⟨bp,0,none⟩),.pointer (some ⟨bq,0,none⟩),.pointer (some ⟨bk,0,none⟩)]/\At ((w2.setCell ⟨V1.heap.size,0,none⟩ (.int .i64 ix)).setCell ⟨V1.heap.size,1,none⟩ (.int .i64 iy)) w.heap.size [.int .i64 1,.int .i64 sh,.int .i64 k,.int .i64 m,.int .i64 x,.int .i64 y,.float .f32 pl,.float .f32 sp,.string t]/\At ((w2.setCell ⟨V1.heap.size,0,none⟩ (.int .i64 ix)).setCell ⟨V1.heap.size,1,none⟩ (.int .i64 iy)) X1 [.int .i64 ix,.int .i64 iy]:=⟨hHeld.1.only POL (fun e=>by omega),hHeld.2.1.only POL (fun e=>by omega),hHeld.2.2.only POL (fun e=>by omega)⟩
  refine hK _ _ hS2 ?_
  clear hK K
  clear hHeld
  have hHeld:=hS2
  refine aN 16 ?_
  simp only[aF]
  refine wpAnyH_done (by kernel_rfl) ?_ _
  have XA2:Hid (At ((w2.setCell ⟨V1.heap.size,0,none⟩ (.int .i64 ix)).setCell ⟨V1.heap.size,1,none⟩ (.int .i64 iy)) V1.heap.size [.int .i64 ix,.int .i64 iy]):=Hid.mk' PXL
  have VO:=Hid.mk' (POL.mono (A':=fun j=>V1.heap.size<=j) (fun j h1 h2=>by omega))
  have L2:=Hid.mk' (CL2.out _ VO.out)
  have ON2:Hid (Only w ((w2.setCell ⟨V1.heap.size,0,none⟩ (.int .i64 ix)).setCell ⟨V1.heap.size,1,none⟩ (.int .i64 iy)) G):=Hid.mk' (((ON1.out.drew.trans ((Only.grown (World.grownBy_alloc V1.drew (.cells #[.int .i64 0,.int .i64 0] 32) none)).mono (by simp))).trans (O2.out.mono (fun j _ e=>.inl (nqb.out j e).2.2))).trans (VO.out.mono (fun j _ e=>.inr (by omega))))
  have HA2:=Hid.mk' hHeld
  clear PXL POL hS2 XB xf xc0 xc1
  clear hHeld hS VO O2 CL2
  generalize ((w2.setCell ⟨V1.heap.size,0,none⟩ (.int .i64 ix)).setCell ⟨V1.heap.size,1,none⟩ (.int .i64 iy))=V2 at *
  generalize V1.heap.size=X2 at *
  all_goals
   have c0:=HA2.out.2.2.c 0 _ rfl
   have c1:=HA2.out.2.2.c 1 _ rfl
   have d0:=XA2.out.c 0 _ rfl
   have d1:=XA2.out.c 1 _ rfl
   have hzz:(z==z)=true:=by simp
   go_wp2
   go_ret
   exact ⟨rfl,⟨L2.out,ON2.out⟩⟩
theorem aIi (W:World):(binOp BinOp.neq 37 (.slice none 0 0) (.slice none 0 0)).run prog W=.ok (.bool false) W:=by kernel_rfl
theorem aIj (W:World):(binOp BinOp.neq 49 (.slice none 0 0) (.slice none 0 0)).run prog W=.ok (.bool false) W:=by kernel_rfl
theorem aIk (W:World):(binOp BinOp.neq 104 (.slice none 0 0) (.slice none 0 0)).run prog W=.ok (.bool false) W:=by kernel_rfl
def Pr.flT (p:Pr)(i:Int):List Tx:=(flE p.f0 p.f1 i).map tx
def flZ (i:Int):Int:=if aV i then 0 else 2
def Pr.fileT (p:Pr)(i k:Int):ByteArray:=if aV i/\aV k then S ((p.sh i).dk.file k.toNat) else S []
def zJ (i k:Int):Int:=if aV i then (if aV k then 0 else 4) else 2
section
variable {w : World} {bp bq : Nat} {A D : Nat -> Prop} {p : Pr}
theorem aIl (h:PW w bp A p)(i k:Int):Calls prog 118 #[.pointer (some ⟨bp,0,none⟩),.int .i64 i,.int .i64 k] w fun e w1=>e=.returned (.tuple #[.string (p.fileT i k),.int .i64 (zJ i k)])/\w1=w:=by
 obtain ⟨b0,b1,v0,v1,F0,F1,hx,hA⟩:=h
 unfold Pr.fileT zJ
 refine aHO bp b0 b1 _ _ i k w hx.fx.at_ _ (fun hi=>⟨by rw[if_neg (fun e=>hi e.1),if_neg hi];rfl,rfl⟩) (fun hi=>?_)
 refine (aHC _ _ _ k w (hx.at hi)).mono ?_
 rintro e w1 ⟨rfl,rfl⟩
 refine ⟨_,_,rfl,?_,rfl⟩
 by_cases hk:aV k
 ·have hk':k=0∨k=1:=hk
  simp only[if_pos hk',if_pos (And.intro hi hk),if_pos hi]
 ·have hk':¬(k=0∨k=1):=hk
  have hik:¬(aV i/\aV k):=fun e=>hk e.2
  simp only[if_neg hk',if_neg hik,if_pos hi]
theorem aIm (h:DS w bq D p)(i k:Int):Calls prog 119 #[.pointer (some ⟨bq,0,none⟩),.int .i64 i,.int .i64 k] w fun e w1=>e=.returned (.tuple #[.string (p.fileT i k),.int .i64 (zJ i k)])/\w1=w:=by
 obtain ⟨cI,cO,cJ,r0,r1,q0,q1,v0,v1,hx,pg,hD⟩:=h
 unfold Pr.fileT zJ
 refine (aDC bq q0 q1 cI cO cJ r0 r1 i k w hx.ry).mono ?_
 rintro e w1 ⟨rfl,rfl⟩
 refine ⟨?_,rfl⟩
 by_cases hi:aV i/\aV k
 ·rw[if_pos hi,if_pos hi,(pg.at hi.1).1.dk.file];rfl
 ·rw[if_neg hi,if_neg hi]
theorem aGE (h:DS w bq D p)(i:Int):Calls prog 109 #[.pointer (some ⟨bq,0,none⟩),.int .i64 i] w fun e w1=>∃v,e=.returned (.tuple #[v,.int .i64 (p.upE i)])/\OwnI w.heap.size w1 v (p.world i)/\w.grownBy w1 none:=by
 obtain ⟨cI,cO,cJ,r0,r1,q0,q1,v0,v1,hx,pg,hD⟩:=h
 refine (aBe bq q0 q1 cI cO cJ p.s0 p.s1 r0 r1 i w hx.ry pg).mono ?_
 rintro e w1 ⟨k1,k2⟩
 rw[pg.up] at k1 k2
 unfold Pr.world
 by_cases hu:p.upE i=0
 ·obtain ⟨v,he,ho,g1⟩:=k2 hu
  exact ⟨v,by rw[he,hu],by rw[if_pos hu];exact ho,g1⟩
 ·obtain ⟨he,rfl⟩:=k1 hu
  exact ⟨_,he,by rw[if_neg hu];exact OwnI.nil _ _,aD _ _⟩
theorem aDS (h:DS w bq D p)(i:Int):Calls prog 111 #[.pointer (some ⟨bq,0,none⟩),.int .i64 i] w fun e w1=>∃v,e=.returned (.tuple #[v,.int .i64 (p.upE i)])/\OwnE w.heap.size w1 v (p.outbox i)/\w.grownBy w1 none:=by
 obtain ⟨cI,cO,cJ,r0,r1,q0,q1,v0,v1,hx,pg,hD⟩:=h
 refine (zD bq q0 q1 cI cO cJ p.s0 p.s1 r0 r1 i w hx.ry pg).mono ?_
 rintro e w1 ⟨k1,k2⟩
 rw[pg.up] at k1 k2
 unfold Pr.outbox
 by_cases hu:p.upE i=0
 ·obtain ⟨v,he,ho,g1⟩:=k2 hu
  exact ⟨v,by rw[he,hu],by rw[if_pos hu];exact ho,g1⟩
 ·obtain ⟨he,rfl⟩:=k1 hu
  exact ⟨_,he,by rw[if_neg hu];exact OwnE.nil _ _,aD _ _⟩
theorem aGF (h:DS w bq D p)(i:Int):Calls prog 113 #[.pointer (some ⟨bq,0,none⟩),.int .i64 i] w fun e w1=>e=.returned (.tuple #[mkV (p.marks i),.int .i64 (p.upE i)])/\w.grownBy w1 none:=by
 obtain ⟨cI,cO,cJ,r0,r1,q0,q1,v0,v1,hx,pg,hD⟩:=h
 refine (aBf bq q0 q1 cI cO cJ p.s0 p.s1 r0 r1 i w hx.ry pg).mono ?_
 rintro e w1 ⟨g1,k1,k2⟩
 rw[pg.up] at k1 k2
 refine ⟨?_,g1⟩
 unfold Pr.marks
 by_cases hu:p.upE i=0
 ·rw[k2 hu,if_pos hu,hu];rfl
 ·rw[k1 hu,if_neg hu];rfl
theorem aDT (h:PW w bp A p)(i:Int):Calls prog 114 #[.pointer (some ⟨bp,0,none⟩),.int .i64 i] w fun e w1=>∃v,e=.returned (.tuple #[v,.int .i64 (flZ i)])/\OwnT w.heap.size w1 v (p.flT i)/\(flZ i≠0->v=.slice none 0 0)/\w.grownBy w1 none:=by
 obtain ⟨b0,b1,v0,v1,F0,F1,hx,hA⟩:=h
 refine (yP hx.fx i).mono ?_
 rintro e w1 ⟨v,rfl,ho,hz,g⟩
 exact ⟨v,rfl,ho,fun e=>hz (fun hi=>e (if_pos hi)),g⟩
theorem aDU (h:DS w bq D p)(i:Int):Calls prog 115 #[.pointer (some ⟨bq,0,none⟩),.int .i64 i] w fun e w1=>∃v,e=.returned (.tuple #[v,.int .i64 (flZ i)])/\OwnT 0 w1 v (p.flT i)/\w.grownBy w1 none:=by
 obtain ⟨cI,cO,cJ,r0,r1,q0,q1,v0,v1,hx,pg,hD⟩:=h
 refine (zE hx i).mono ?_
 rintro e w1 ⟨v,rfl,ho,rfl⟩
 exact ⟨v,rfl,ho,aD _ _⟩
theorem aDV (h:DS w bq D p)(i:Int):(p.flT i).length<=1000:=by
 obtain ⟨cI,cO,cJ,r0,r1,q0,q1,v0,v1,hx,pg,hD⟩:=h
 unfold Pr.flT flE
 rw[List.length_map]
 by_cases hi:aV i
 ·rw[if_pos hi]
  have:=(hx.at hi).2.2.2.1
  omega
 ·rw[if_neg hi];simp
theorem aGG (h:PGd p)(i:Int):(p.world i).length<=1000/\∀x∈p.world i,Fine x:=by
 unfold Pr.world
 by_cases hu:p.upE i=0
 ·rw[if_pos hu]
  obtain ⟨hi,up⟩:=eL hu
  obtain ⟨⟨r,g⟩,_⟩:=h.at hi
  obtain ⟨_,_,_,_,_,has,_⟩:=g.has up
  have h1:((cH (p.sh i).th).length:Int)<=_:=has.tl
  have h3:=g.i1
  exact ⟨by omega,fun x hx=>aBw (has.it x hx).1⟩
 ·rw[if_neg hu];simp
theorem aDW (h:PGd p)(i:Int):(p.outbox i).length<=1000/\∀x∈p.outbox i,Fine x.it:=by
 unfold Pr.outbox
 by_cases hu:p.upE i=0
 ·rw[if_pos hu]
  obtain ⟨hi,up⟩:=eL hu
  obtain ⟨⟨r,g⟩,_⟩:=h.at hi
  obtain ⟨_,_,_,_,_,has,_⟩:=g.has up
  have h1:((p.sh i).ob.length:Int)<=_:=has.ol
  have h3:=g.o1
  exact ⟨by omega,fun x hx=>aBw (has.en x hx).1⟩
 ·rw[if_neg hu];simp
end
theorem aJj (ts:List Tx):ts.flatMap Tx.cells=ts.map (fun t=>Value.string t.s):=by
 induction ts with
 | nil=>rfl
 | cons a t ih=>rw[List.flatMap_cons,ih];rfl
theorem OwnT.cell {B:Nat}{w:World}{v:Value}{ts:List Tx}(h:OwnT B w v ts){k:Nat}(hk:k<ts.length):∃g c,v=.slice (some ⟨g,0,none⟩) ts.length c/\w.cell? ⟨g,k,none⟩=some (.string ts[k].s):=by
 unfold OwnT at h
 have h1:=h
 rcases h.2 with ⟨_,h0⟩ | ⟨g,cap,cur,rfl,_⟩
 ·omega
 ·refine ⟨g,cap,rfl,(h1.cellAt k (by omega)).trans ?_⟩
  rw[aJj,List.getElem?_map,List.getElem?_eq_getElem hk];rfl
theorem tF (v u:Value)(ts:List Tx){B B':Nat}(w:World)(h:OwnT B w v ts)(h':OwnT B' w u ts)(hl:ts.length<=1000):Calls prog 116 #[v,u] w fun e w'=>e=.returned (.bool true)/\w.grownBy w' none:=by
 obtain ⟨a,c,rfl⟩:=aJ h
 obtain ⟨a',c',rfl⟩:=aJ h'
 have H:=Hid.mk' h
 have H':=Hid.mk' h'
 obtain ⟨n,hn⟩:∃n,ts.length=n:=⟨_,rfl⟩
 have HN:=Hid.mk' hn
 rw[hn] at hl ⊢
 clear h h' hn
 go_enter func116,ntmps116
 go_wp2_with fail
 go_loopw [5] (fun t wr=>∃k:Nat,k<=n/\t=.int .i64 k/\w.grownBy wr none) (fun t _=>n -(intOf t).toNat)
 case atStart=>exact ⟨0,by omega,rfl,aD _ _⟩
 case round=>
  obtain ⟨k,hk,rfl,gk⟩:=hrel
  have GK:=Hid.mk' gk
  clear gk
  by_cases hlt:k<n
  ·have hkl:k<ts.length:=by rw[HN.out];exact hlt
   obtain ⟨g,c2,hv,d0⟩:=H.out.cell hkl
   injection hv with ha _ hcc
   subst ha hcc
   obtain ⟨g',c3,hv',d1⟩:=H'.out.cell hkl
   injection hv' with ha' _ hcc'
   subst ha' hcc'
   have e0:=GK.out.cell d0 (by simp)
   have e1:=GK.out.cell d1 (by simp)
   generalize ts[k].s=T at *
   clear d0 d1 hkl
   have y0:(0:Int)<=(k:Int):=by omega
   have y1:(k:Int)<(n:Int):=by omega
   go_wp2_with fail
   go_quiet (fail)
   go_wp2
   go_roundw
   case rel=>exact ⟨k+1,by omega,by go_num,aL GK.out nq⟩
   case measure=>simp[intOf];omega
  ·go_wp2
   go_ret
   exact ⟨rfl,GK.out⟩
end Go.Proofs.YtammnaafdhhjaaaGreat
