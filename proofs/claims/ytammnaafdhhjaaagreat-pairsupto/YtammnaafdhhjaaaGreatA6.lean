import Derived.Test.YtammnaafdhhjaaaGreatA1
import Derived.Test.YtammnaafdhhjaaaGreatJG7
set_option maxHeartbeats 16000000
set_option maxRecDepth 100000
namespace Go.Proofs.YtammnaafdhhjaaaGreat
open Go.RowKit Go.Proofs.Tryz
def mS (q:Int)(e:En):Bool:=decide (e.sq<=q)
def enV (e:En):Value:=.agg #[.int .i64 e.sq,.int .i64 e.it.sh,.int .i64 e.it.nu,.float .f32 e.it.pl,.float .f32 e.it.sp]
theorem aFL (e:En)(bx:Nat)(q:Int)(w:World)(h:w.cell? ⟨bx,0,none⟩=some (.int .i64 q)):
  Calls prog 172 #[enV e,.pointer (some ⟨bx,0,none⟩)] w fun e' w'=>e'=.returned (.bool (mS q e))/\w.grownBy w' none:=by
 have hb:bx<w.heap.size:=World.block_lt_of_cell? w _ h
 have hne:bx≠w.heap.size:=by omega
 unfold enV mS
 go_enter func172,ntmps172
 go_wp2
 go_ret
 exact ⟨rfl,World.grownBy_alloc _ _ _⟩
def bC (q:Int):List En->Nat
 | []=>0
 | e::t=>if mS q e then 0 else bC q t+1
theorem jI (q:Int):∀(l:List En) (k:Nat),k<bC q l->∀h:k<l.length,mS q l[k]=false
 | [],k,h,hl=>by simp at hl
 | e::t,k,h,hl=>by
  unfold bC at h
  split at h
  ·omega
  ·rename_i hg
   cases k with
   | zero=>simpa using hg
   | succ k=>exact jI q t k (by omega) (by simpa using hl)
theorem kU (q:Int):∀(l:List En) (h:bC q l<l.length),mS q l[bC q l]=true
 | [],h=>by simp at h
 | e::t,h=>by
  by_cases hg:mS q e=true
  ·have:bC q (e::t)=0:=by unfold bC;rw[if_pos hg]
   simp only[this]
   simpa using hg
  ·have e1:bC q (e::t)=bC q t+1:=by show (if mS q e=true then 0 else bC q t+1)=_;rw[if_neg hg]
   simp only[e1] at h ⊢
   simpa using kU q t (by simpa using h)
theorem lZ (q:Int)(l:List En)(k:Nat)(hk:k<=bC q l):(l.take k).filter (fun e=> !mS q e)=l.take k:=by
 rw[List.filter_eq_self]
 intro x hx
 obtain ⟨i,hi,rfl⟩:=List.mem_iff_getElem.1 hx
 rw[List.length_take] at hi
 rw[List.getElem_take,jI q l i (by omega) (by omega)]
 rfl
def ixE (q:Int)(es:List En)(n:Nat):Int:=if bC q es<n then (bC q es:Int) else -1
theorem sB (B:Nat)(g c n:Nat)(es:List En)(bx:Nat)(q:Int)(w:World)(h:w.ownsRow B 87 5 (.slice (some ⟨g,0,none⟩) n c) n (es.flatMap En.cells))(hn:es.length=n)(hl:n<=1000)(hb:w.cell? ⟨bx,0,none⟩=some (.int .i64 q)):
  Calls prog 200 #[.slice (some ⟨g,0,none⟩) n c,.func (.func 172) #[] #[.pointer (some ⟨bx,0,none⟩)]] w fun e w'=>e=.returned (.int .i64 (ixE q es n))/\w.grownBy w' none:=by
 have HO:=Hid.mk' h
 have HN:=Hid.mk' hn
 have EG:∀args w,(callFunc 172 args).run prog w=.ok (.enter 172 args) w:=enters_of func172 (by kernel_rfl) rfl
 clear h hn
 go_enter func200,ntmps200
 go_wp2_with fail
 go_loopw [8] (fun t wr=>∃k:Nat,k<=n/\k<=bC q es/\t=.int .i64 k/\w.grownBy wr none) (fun t _=>n -(intOf t).toNat)
 case atStart=>exact ⟨0,by omega,Nat.zero_le _,rfl,aD _ _⟩
 case round=>
  obtain ⟨k,hk,hf,rfl,hg⟩:=hrel
  have HG:=Hid.mk' hg
  have HF:=Hid.mk' hf
  clear hg hf
  by_cases hlt:k<n
  ·have hkl:k<es.length:=by rw[HN.out];exact hlt
   obtain ⟨x,hx⟩:∃x,es[k]=x:=⟨_,rfl⟩
   have d:∀j (hj:j<5) u,x.cells[j]?=some u->wr.cell? ⟨g,k * 5+j,none⟩=some u:=fun j hj u hu=>by
    refine HG.out.cell ((HO.out.cellAt (k * 5+j) (by omega)).trans ?_) (by simp)
    rw[Nat.mul_comm k 5,dY es k j hkl hj,hx]
    exact hu
   have d0:=d 0 (by omega) _ rfl
   have d1:=d 1 (by omega) _ rfl
   have d2:=d 2 (by omega) _ rfl
   have d3:=d 3 (by omega) _ rfl
   have d4:=d 4 (by omega) _ rfl
   rw[Nat.add_zero] at d0
   have CL:=Hid.mk' (aFL x bx q wr (HG.out.cell hb (by simp)))
   unfold enV at CL
   have y0:(0:Int)<=(k:Int):=by omega
   have y1:(k:Int)<(n:Int):=by omega
   clear d
   cases hgx:mS q x
   ·rw[hgx] at CL
    have HK:Hid (k+1<=bC q es):=by
     show _<=_
     rcases Nat.lt_or_ge k (bC q es) with h | h
     ·exact h
     ·have e:bC q es=k:=Nat.le_antisymm h HF.out
      have:=kU q es (by omega)
      simp only[e,hx,hgx] at this
      cases this
    clear hgx hx
    go_wp2_with fail
    refine Calls.mono CL.out ?_
    rintro e w2 ⟨rfl,g2⟩
    go_wp2
    exact ⟨⟨k+1,by omega,HK.out,by go_num,HG.out.trans g2⟩,by simp[intOf];omega⟩
   ·rw[hgx] at CL
    have HK:Hid (bC q es=k):=by
     show _=_
     rcases Nat.lt_or_ge k (bC q es) with h | h
     ·have:=jI q es k h hkl
      rw[hx,hgx] at this
      cases this
     ·exact Nat.le_antisymm h HF.out
    clear hgx hx
    go_wp2_with fail
    refine Calls.mono CL.out ?_
    rintro e w2 ⟨rfl,g2⟩
    go_wp2
    go_ret
    refine ⟨?_,HG.out.trans g2⟩
    have:ixE q es n=(k:Int):=by unfold ixE;rw[HK.out,if_pos hlt]
    rw[this]
    rfl
  ·obtain rfl:k=n:=by omega
   have y1:¬(k:Int)<(k:Int):=by omega
   go_wp2
   go_ret
   refine ⟨?_,HG.out⟩
   have:ixE q es k=-1:=by unfold ixE;rw[if_neg (by have:=HF.out;omega)]
   rw[this]
   rfl
theorem aAH (w:World)(ty:TypeId)(b o n c:Nat)(hn:0<n)(hc:∀j,j<n * 5->(w.cell? ⟨b,o+j,none⟩).isSome=true)(hf:∀j,j<n * 5->w.frozen? ⟨b,o+j,none⟩=false):
  ∃zs:List Value,zs.length=n * 5/\(Builtin.clear_ #[49] ty #[.slice (some ⟨b,o,none⟩) n c]).run prog w=.ok (.tuple #[]) (w.setCells b o zs):=by
 obtain ⟨zs,hzs⟩:∃zs,(Builtin.zeroCells (Value.cells (.agg #[.int .i64 0,.int .i64 0,.int .i64 0,.float .f32 0,.float .f32 0])) n).toList=zs:=⟨_,rfl⟩
 have hl:zs.length=n * 5:=by
  rw[<- hzs]
  simp[Builtin.zeroCells,Value.cells]
 have h1:∀v∈zs,v.oneCell'=true:=by
  rw[<- hzs]
  intro v hv
  simp only[Builtin.zeroCells,Value.cells,Array.toList_map,List.mem_map] at hv
  obtain ⟨i,_,rfl⟩:=hv
  have:i % 5=0∨i % 5=1∨i % 5=2∨i % 5=3∨i % 5=4:=by omega
  rcases this with e | e | e | e | e<;>simp[e,Value.oneCell']
 have hst:=run_storeCells_cells (P:=prog) b o zs 0 w (by rw[hl];simpa using hc) (by rw[hl];simpa using hf) h1
 simp only[Nat.add_zero] at hst
 obtain ⟨m,rfl⟩:∃m,n=m+1:=⟨n -1,by omega⟩
 refine ⟨zs,hl,?_⟩
 simp[Builtin.clear_,run_underlying underlying49,hzs,hst]
theorem Only.set5 (w:World)(b p:Nat)(x0 x1 x2 x3 x4:Value):Only w (((((w.setCell ⟨b,p,none⟩ x0).setCell ⟨b,p+1,none⟩ x1).setCell ⟨b,p+2,none⟩ x2).setCell ⟨b,p+3,none⟩ x3).setCell ⟨b,p+4,none⟩ x4) (fun k=>k=b):=
 ((((Only.set w b p x0).trans ((Only.set _ b _ x1).mono (fun _ _ h=>.inl h))).trans ((Only.set _ b _ x2).mono (fun _ _ h=>.inl h))).trans ((Only.set _ b _ x3).mono (fun _ _ h=>.inl h))).trans ((Only.set _ b _ x4).mono (fun _ _ h=>.inl h))
theorem pZ {B:Nat}{e:TypeId}{g n cap:Nat}{xs ys:List Value}:∀(zs:List Value) (o:Nat) (w:World),w.ownsRow B e 5 (.slice (some ⟨g,0,none⟩) n cap) n (xs++ys)->xs.length<=o->∃ys',(w.setCells g o zs).ownsRow B e 5 (.slice (some ⟨g,0,none⟩) n cap) n (xs++ys')/\w.grownBy (w.setCells g o zs) (some g)
 | [],o,w,h,_=>⟨ys,h,aD _ _⟩
 | z::zs,o,w,h,ho=>by
  obtain ⟨h1,g1⟩:=h.stored o z
  rw[List.set_append_right _ _ (by omega)] at h1
  obtain ⟨ys',h2,g2⟩:=pZ (ys:=ys.set (o -xs.length) z) zs (o+1) _ h1 (by omega)
  exact ⟨ys',h2,⟨g2.os.trans g1.os,g2.tape.trans g1.tape,g2.output.trans g1.output,Nat.le_trans g1.size g2.size,fun k hk hn=>(g2.block k (Nat.lt_of_lt_of_le hk g1.size) hn).trans (g1.block k hk hn)⟩⟩
theorem aAI (bx:Nat)(w:World):
  Calls prog 200 #[.slice none 0 0,.func (.func 172) #[] #[.pointer (some ⟨bx,0,none⟩)]] w fun e w'=>e=.returned (.int .i64 (-1))/\w'=w:=by
 go_enter func200,ntmps200
 go_wp2_with fail
 go_loopw [8] (fun t wr=>t=.int .i64 0/\wr=w) (fun _ _=>0)
 case atStart=>exact ⟨rfl,rfl⟩
 case round=>
  obtain ⟨rfl,rfl⟩:=hrel
  go_wp2
  go_ret
  exact ⟨rfl,rfl⟩
def bY (q:Int)(es:List En):List En:=es.filter (fun e=> !mS q e)
theorem aDi {q:Int}{es:List En}(h:¬bC q es<es.length):bY q es=es:=by
 have:=lZ q es es.length (by omega)
 rwa [List.take_length] at this
theorem yH (B g c n:Nat)(es:List En)(bx:Nat)(q:Int)(w:World)(h:w.ownsRow B 87 5 (.slice (some ⟨g,0,none⟩) n c) n (es.flatMap En.cells))(hn:es.length=n)(hl:n<=1000)(hb:w.cell? ⟨bx,0,none⟩=some (.int .i64 q))(hbg:bx≠g)(hf:bC q es<n):
  Calls prog 171 #[.slice (some ⟨g,0,none⟩) n c,.func (.func 172) #[] #[.pointer (some ⟨bx,0,none⟩)]] w fun e w'=>e=.returned (.slice (some ⟨g,0,none⟩) (bY q es).length c)/\w'.ownsRow B 87 5 (.slice (some ⟨g,0,none⟩) (bY q es).length c) (bY q es).length ((bY q es).flatMap En.cells)/\Only w w' (fun j=>j=g):=by
 have hsf:=aK
 have hgl:g<w.heap.size:=(h.lt g rfl).2
 have HO:=Hid.mk' h
 have HN:=Hid.mk' hn
 have IX:=Hid.mk' (sB B g c n es bx q w h hn hl hb)
 have e0:ixE q es n=(bC q es:Int):=if_pos hf
 rw[e0] at IX
 have EG:∀args w,(callFunc 172 args).run prog w=.ok (.enter 172 args) w:=enters_of func172 (by kernel_rfl) rfl
 have ft:=Hid.mk' (lZ q es (bC q es) (Nat.le_refl _))
 have fa:Hid (∀h:bC q es<es.length,mS q (es[bC q es]'h)=true):=kU q es
 obtain ⟨i0,hi0⟩:∃i0,bC q es=i0:=⟨_,rfl⟩
 have HI:=Hid.mk' hi0
 rw[hi0] at IX hf
 clear h hn e0 hi0
 go_enter func171,ntmps171
 go_wp2_with fail
 refine Calls.mono IX.out ?_
 rintro e w1 ⟨rfl,g1⟩
 have hm1:((i0:Int)==-1)=false:=beq_eq_false_iff_ne.2 (by omega)
 have w1':IntKind.i64.wrap ((i0:Int)+1)=(i0:Int)+1:=by simp[IntKind.wrap,IntKind.bits,IntKind.signed];omega
 have G1:=Hid.mk' g1
 clear g1
 go_wp2_with fail
 go_loopw [5,6] (fun s t wr=>∃(j:Nat) (X:List En),j<=n/\t=.int .i64 j/\s=.int .i64 ((bY q (es.take j)).length:Int)/\(bY q (es.take j)).length+X.length=j/\0<X.length/\wr.ownsRow B 87 5 (.slice (some ⟨g,0,none⟩) n c) n ((bY q (es.take j)++X++es.drop j).flatMap En.cells)/\Only w wr (fun k=>k=g)) (fun _ t _=>n -(intOf t).toNat)
 case atStart=>
  have hil:i0<es.length:=by rw[HN.out];exact hf
  have e1:es.take (i0+1)=es.take i0++[es[i0]]:=List.take_succ_eq_append_getElem hil
  have k1:bY q (es.take (i0+1))=es.take i0:=by
   unfold bY
   have f1:=ft.out
   have f2:=fa.out (by rw[HI.out];exact hil)
   simp only[HI.out] at f1 f2
   rw[e1,List.filter_append,f1]
   simp[f2]
  refine ⟨i0+1,[es[i0]],by omega,by go_num,?_,?_,by simp,?_,(Only.grown G1.out).mono (by simp)⟩
  ·rw[k1,List.length_take,Nat.min_eq_left (by omega)]
  ·rw[k1,List.length_take,Nat.min_eq_left (by omega)];simp
  ·rw[k1,<- e1,List.take_append_drop]
   exact aO HO.out G1.out
 case round=>
  obtain ⟨j,X,hj,rfl,rfl,hx,hx0,ho,on⟩:=hrel
  have HO2:=Hid.mk' ho
  have ON:=Hid.mk' on
  have hb2:=on.cell hb hbg
  clear ho on
  obtain ⟨A,hA⟩:∃A,bY q (es.take j)=A:=⟨_,rfl⟩
  rw[hA] at hx HO2 ⊢
  have HA:=Hid.mk' hA
  clear hA
  by_cases hlt:j<n
  ·have hjl:j<es.length:=by rw[HN.out];exact hlt
   obtain ⟨x,hxx⟩:∃x,es[j]=x:=⟨_,rfl⟩
   have HX:=Hid.mk' hxx
   have dr:es.drop j=x::es.drop (j+1):=by rw[<- hxx];exact List.drop_eq_getElem_cons hjl
   have d:∀k (hk:k<5) u,x.cells[k]?=some u->wr.cell? ⟨g,j * 5+k,none⟩=some u:=fun k hk u hu=>by
    refine (HO2.out.cellAt (j * 5+k) (by omega)).trans ?_
    rw[List.flatMap_append,List.getElem?_append_right (by rw[fM,List.length_append];omega),dr,List.flatMap_cons,List.getElem?_append_left (by rw[fM,List.length_append];simp[En.cells];omega),fM,List.length_append]
    rw[show j * 5+k -(A.length+X.length) * 5=k by omega]
    exact hu
   have d0:=d 0 (by omega) _ rfl
   have d1:=d 1 (by omega) _ rfl
   have d2:=d 2 (by omega) _ rfl
   have d3:=d 3 (by omega) _ rfl
   have d4:=d 4 (by omega) _ rfl
   rw[Nat.add_zero] at d0
   have hwz:=(ON.out).size
   have g0:=World.grownBy_alloc wr (.cells #[.int .i64 x.sq,.int .i64 x.it.sh,.int .i64 x.it.nu,.float .f32 x.it.pl,.float .f32 x.it.sp] 87) none
   have CL:=Hid.mk' (aFL x bx q _ (g0.cell hb2 (by simp)))
   unfold enV at CL
   have y0:(0:Int)<=(j:Int):=by omega
   have y1:(j:Int)<(n:Int):=by omega
   have TK:Hid (es.take (j+1)=es.take j++[x]):=by show _=_;rw[List.take_succ_eq_append_getElem hjl,hxx]
   have DR:=Hid.mk' dr
   have G0:=Hid.mk' g0
   clear d dr hxx g0
   cases hgx:mS q x
   ·rw[hgx] at CL
    have KK:Hid (bY q (es.take (j+1))=A++[x]):=by
     show _=_
     rw[TK.out,<- HA.out]
     unfold bY
     rw[List.filter_append]
     simp[hgx]
    clear hgx
    obtain ⟨y,X',rfl⟩:∃y X',X=y::X':=by
     cases X with
     | nil=>simp at hx0
     | cons y X'=>exact ⟨y,X',rfl⟩
    have hal:A.length<n:=by simp at hx;omega
    have hxl:Hid (A.length+X'.length+1=j):=by show _=_;simp at hx;omega
    go_wp2_with fail
    refine Calls.mono CL.out ?_
    rintro e w2 ⟨rfl,g2⟩
    have G2:=Hid.mk' (G0.out.trans g2)
    have O2':(w2.ownsRow B 87 5 (.slice (some ⟨g,0,none⟩) n c) n (A.flatMap En.cells++(.int .i64 y.sq:: .int .i64 y.it.sh:: .int .i64 y.it.nu:: .float .f32 y.it.pl:: .float .f32 y.it.sp::(X'++es.drop j).flatMap En.cells))):=by
     have:=aO HO2.out G2.out
     simpa [En.cells] using this
    have O2:=Hid.mk' O2'
    clear O2'
    have LA:Hid ((A.flatMap En.cells).length=A.length * 5):=fM A
    have k:∀t (ht:t<5),(w2.cell? ⟨g,A.length * 5+t,none⟩).isSome=true:=fun t ht=>by
     rw[O2.out.cellAt _ (by omega),List.getElem?_append_right (by rw[LA.out];omega),LA.out,Nat.add_sub_cancel_left]
     rcases (by omega:t=0∨t=1∨t=2∨t=3∨t=4) with rfl | rfl | rfl | rfl | rfl<;>rfl
    obtain ⟨q0,k0⟩:=Option.isSome_iff_exists.1 (k 0 (by omega))
    obtain ⟨q1,k1⟩:=Option.isSome_iff_exists.1 (k 1 (by omega))
    obtain ⟨q2,k2⟩:=Option.isSome_iff_exists.1 (k 2 (by omega))
    obtain ⟨q3,k3⟩:=Option.isSome_iff_exists.1 (k 3 (by omega))
    obtain ⟨q4,k4⟩:=Option.isSome_iff_exists.1 (k 4 (by omega))
    rw[Nat.add_zero] at k0
    have fz:∀o,w2.frozen? ⟨g,o,none⟩=false:=fun o=>O2.out.frozenAt o
    have b0:w2.cell? ⟨wr.heap.size,0,none⟩=some (.int .i64 x.sq):=g2.cell (by go_simp) (by simp)
    have b1:w2.cell? ⟨wr.heap.size,1,none⟩=some (.int .i64 x.it.sh):=g2.cell (by go_simp) (by simp)
    have b2:w2.cell? ⟨wr.heap.size,2,none⟩=some (.int .i64 x.it.nu):=g2.cell (by go_simp) (by simp)
    have b3:w2.cell? ⟨wr.heap.size,3,none⟩=some (.float .f32 x.it.pl):=g2.cell (by go_simp) (by simp)
    have b4:w2.cell? ⟨wr.heap.size,4,none⟩=some (.float .f32 x.it.sp):=g2.cell (by go_simp) (by simp)
    have hgw:g≠wr.heap.size:=by omega
    have z0:(0:Int)<=(A.length:Int):=by omega
    have z1:(A.length:Int)<(n:Int):=by omega
    have w3:IntKind.i64.wrap ((A.length:Int)+1)=(A.length:Int)+1:=by simp[IntKind.wrap,IntKind.bits,IntKind.signed];omega
    clear k d0 d1 d2 d3 d4 g2 hx hx0
    go_wp2
    refine ⟨⟨j+1,X'++[x],by omega,by go_num,?_,?_,by simp,?_,?_⟩,by simp[intOf];omega⟩
    ·rw[KK.out];simp
    ·rw[KK.out];have:=hxl.out;simp;omega
    ·rw[KK.out]
     have:=xA O2.out LA.out (.int .i64 x.sq) (.int .i64 x.it.sh) (.int .i64 x.it.nu) (.float .f32 x.it.pl) (.float .f32 x.it.sp)
     have e:A.flatMap En.cells++(.int .i64 x.sq:: .int .i64 x.it.sh:: .int .i64 x.it.nu:: .float .f32 x.it.pl:: .float .f32 x.it.sp::(X'++es.drop j).flatMap En.cells)=(A++[x]++(X'++[x])++es.drop (j+1)).flatMap En.cells:=by
      rw[DR.out]
      simp[En.cells]
     rw[e] at this
     exact this
    ·exact ON.out.trans (((Only.grown G2.out).mono (by simp)).trans ((Only.set5 w2 g (A.length * 5) _ _ _ _ _).mono (fun k _ e=>.inl (.inl e))))
   ·rw[hgx] at CL
    have KK:Hid (bY q (es.take (j+1))=A):=by
     show _=_
     rw[TK.out,<- HA.out]
     unfold bY
     rw[List.filter_append]
     simp[hgx]
    clear hgx
    go_wp2_with fail
    refine Calls.mono CL.out ?_
    rintro e w2 ⟨rfl,g2⟩
    have G2:=Hid.mk' (G0.out.trans g2)
    clear g2
    go_wp2
    refine ⟨⟨j+1,X++[x],by omega,by go_num,by rw[KK.out],by rw[KK.out];simp;omega,by simp,?_,?_⟩,by simp[intOf];omega⟩
    ·rw[KK.out]
     have:=aO HO2.out G2.out
     rw[DR.out] at this
     simpa using this
    ·exact ON.out.trans ((Only.grown G2.out).mono (by simp))
  ·obtain rfl:j=n:=by omega
   have y1:¬(j:Int)<(j:Int):=by omega
   have e1:es.drop j=[]:=List.drop_eq_nil_of_le (by rw[HN.out];omega)
   have e2:A=bY q es:=by rw[<- HA.out,List.take_of_length_le (by rw[HN.out];omega)]
   have E2:=Hid.mk' e2
   have O3:Hid (wr.ownsRow B 87 5 (.slice (some ⟨g,0,none⟩) j c) j (A.flatMap En.cells++X.flatMap En.cells)):=by
    have:=HO2.out
    rw[e1,List.append_nil,List.flatMap_append] at this
    exact this
   have LA:Hid ((A.flatMap En.cells).length=A.length * 5):=fM A
   obtain ⟨zs,hz,hcl⟩:=aAH wr 0 g (A.length * 5) (j -A.length) (c -A.length) (by omega) (fun t ht=>by rw[O3.out.cellAt _ (by omega),List.getElem?_eq_getElem (by rw[O3.out.1];omega)];rfl) (fun t _=>O3.out.frozenAt _)
   have hcap:j<=c:=by
    rcases O3.out.2 with ⟨h',_⟩ | ⟨g',cap',cur,h',hb,hg,hnc,hcm,hcs,ht⟩
    ·simp at h'
    ·simp only[Value.slice.injEq,Option.some.injEq,Addr.mk.injEq,and_true,true_and] at h'
     obtain ⟨rfl,rfl⟩:=h'
     exact hnc
   have a0:(0:Int)<=(A.length:Int):=by omega
   have a1:(A.length:Int)<=(j:Int):=by omega
   have a2:(j:Int)<=(c:Int):=by omega
   have a3:(A.length:Int)<=(c:Int):=by omega
   have a4:(A.length:Int)<(j:Int):=by omega
   have a5:(A.length:Int)<(c:Int):=by omega
   have a6:¬A.length=c:=by omega
   have a7:¬c -A.length=0:=by omega
   have a8:¬j -A.length=0:=by omega
   have a9:A.length<c:=by omega
   clear e1 e2
   go_wp2
   go_ret
   rw[E2.out] at O3 LA
   rw[E2.out]
   obtain ⟨ys',o4,g4⟩:=pZ zs ((bY q es).length * 5) wr O3.out (by rw[LA.out];exact Nat.le_refl _)
   have o5:=aBI o4 (show (bY q es).length<=j by rw[<- E2.out];omega)
   have e6:(List.flatMap En.cells (bY q es)++ys').take ((bY q es).length * 5)=List.flatMap En.cells (bY q es):=by rw[<- LA.out,List.take_left]
   rw[e6] at o5
   exact ⟨rfl,o5,ON.out.trans ((Only.grown g4).mono (fun k _ e=>.inl (by injection e with e;exact e.symm)))⟩
theorem yI (B:Nat)(v:Value)(es:List En)(bx:Nat)(q:Int)(w:World)(h:OwnE B w v es)(hl:es.length<=1000)(hb:w.cell? ⟨bx,0,none⟩=some (.int .i64 q))(hv:v.ownBlock≠some bx):
  Calls prog 171 #[v,.func (.func 172) #[] #[.pointer (some ⟨bx,0,none⟩)]] w fun e w'=>∃v',e=.returned v'/\OwnE B w' v' (bY q es)/\v'.ownBlock=v.ownBlock/\Only w w' (fun j=>v.ownBlock=some j):=by
 rcases h.2 with ⟨hv0,hn⟩ | ⟨g,cap,cur,hv0,_⟩
 ·have e0:es=[]:=List.eq_nil_of_length_eq_zero hn
  subst hv0 e0
  have IX:=Hid.mk' (aAI bx w)
  clear h hl hb hv hn
  go_enter func171,ntmps171
  go_wp2_with fail
  refine Calls.mono IX.out ?_
  rintro e w1 ⟨rfl,rfl⟩
  go_wp2
  go_ret
  exact ⟨_,rfl,World.ownsRow_nil _ _ _ _,rfl,Only.refl _ _⟩
 ·subst hv0
  have hbg:bx≠g:=fun e=>hv (by rw[e];rfl)
  by_cases hf:bC q es<es.length
  ·refine (yH B g cap es.length es bx q w h rfl hl hb hbg hf).mono ?_
   rintro e w' ⟨rfl,o,on⟩
   exact ⟨_,rfl,o,rfl,on.mono (fun j _ e=>by rw[e];rfl)⟩
  ·rw[aDi hf]
   have IX:=Hid.mk' (sB B g cap es.length es bx q w h rfl hl hb)
   have e0:ixE q es es.length=-1:=if_neg hf
   rw[e0] at IX
   have HO:=Hid.mk' h
   clear h hb hv hf e0 hbg
   go_enter func171,ntmps171
   go_wp2_with fail
   refine Calls.mono IX.out ?_
   rintro e w1 ⟨rfl,g1⟩
   go_wp2
   go_ret
   exact ⟨_,rfl,aO HO.out g1,rfl,(Only.grown g1).mono (by simp)⟩
def Sh.doAcked (s:Sh)(q:Int):Sh:={s with ob:=bY q s.ob,ms:={s.ms with a:=q}}
theorem aDj (B b bd bm:Nat)(ov:Value)(s:Sh)(q:Int)(w:World)(h:HS w B b s bd bm ov)(hl:s.ob.length<=1000):
  Calls prog 144 #[.pointer (some ⟨b,7,none⟩),.int .i64 q] w fun e w'=>e=.returned (.tuple #[])/\∃ov',HS w' B b (s.doAcked q) bd bm ov'/\Only w w' (HS.foot b bm ov)/\(∀j,ov'.ownBlock=some j->ov.ownBlock=some j∨w.heap.size<=j):=by
 obtain ⟨ao,co,rfl⟩:=aJ h.ob
 have H:=Hid.mk' h
 have hf:=h.at_.f
 have hbl:=h.at_.lt
 have c12:=h.at_.c 12 _ rfl
 have hne:¬b=w.heap.size:=by omega
 have A1:=((h.at_.put 12 (.int .i64 q) (by simp[Sh.cells])).grown (World.grownBy_alloc _ (.cells #[.int .i64 q] 3) none))
 have c8:=A1.c 8 _ rfl
 have X1:((w.setCell ⟨b,12,none⟩ (.int .i64 q)).alloc (.cells #[.int .i64 q] 3)).cell? ⟨w.heap.size,0,none⟩=some (.int .i64 q):=by go_simp
 have O1:Hid (OwnE B ((w.setCell ⟨b,12,none⟩ (.int .i64 q)).alloc (.cells #[.int .i64 q] 3)) (.slice ao s.ob.length co) s.ob):=World.ownsRow.alloc (aH h.ob _ _ _ h.n1) _
 have vb:Value.ownBlock (.slice ao s.ob.length co)≠some w.heap.size:=fun e=>by have:=(h.ob.lt _ e).2;omega
 have DE:=Hid.mk' (yI B _ s.ob w.heap.size q _ O1.out hl X1 vb)
 have AA:=Hid.mk' A1
 have fa:=A1.f
 have OO:Hid (Only w ((w.setCell ⟨b,12,none⟩ (.int .i64 q)).alloc (.cells #[.int .i64 q] 3)) (fun j=>j=b)):=(Only.set _ b 12 _).trans ((Only.grown (World.grownBy_alloc _ _ none)).mono (by simp))
 clear h A1 X1 vb
 go_enter func144,ntmps144
 go_wp2_with fail
 refine Calls.mono DE.out ?_
 rintro e w2 ⟨v2,rfl,o2,b2,on2⟩
 obtain ⟨a2,c2,rfl⟩:=aJ o2
 have A2:=Hid.mk' (AA.out.only on2 H.out.n1)
 have k8:=A2.out.c 8 _ rfl
 have f2:=A2.out.f
 go_wp2
 have nb:Value.ownBlock (.slice a2 (bY q s.ob).length c2)≠some b:=by rw[b2];exact H.out.n1
 refine bodyPost_end (v:=.tuple #[]) (by simp[results,results144]) rfl ⟨rfl,_,⟨A2.out.put 8 _ (by simp[Sh.cells]),?_,aH o2 _ _ _ nb,nb,H.out.n2,by rw[b2];exact H.out.n3,?_⟩,?_,fun j hj=>.inl (by rw[<- b2];exact hj)⟩
 ·exact ((H.out.mp.only OO.out H.out.n2).only on2 H.out.n3).only (Only.set w2 b 8 _) H.out.n2
 ·have z1:=OO.out.size
  have z2:=on2.size
  have:=H.out.hB
  have z3:=(Only.set w2 b 8 (.slice a2 (bY q s.ob).length c2)).size
  exact Nat.le_trans this (Nat.le_trans z1 (Nat.le_trans z2 z3))
 ·exact (OO.out.mono (fun _ _ e=>.inl e)).trans ((on2.mono (fun j _ e=>.inl (.inr (.inr e)))).trans ((Only.set w2 b 8 _).mono (fun _ _ e=>.inl (.inl (.inl e)))))
end Go.Proofs.YtammnaafdhhjaaaGreat
