import Derived.Test.YtammnaafdhhjaaaGreatJP1
set_option maxHeartbeats 16000000
set_option maxRecDepth 100000
namespace Go.Proofs.YtammnaafdhhjaaaGreat
open Go.RowKit Go.Proofs.Tryz
theorem gN (l:List UInt8)(n:Nat):(S l).extract 0 n=S (l.take n):=by
 apply ByteArray.ext
 apply Array.toList_inj.1
 rw[Lib.extract_data];simp[S]
theorem aIL (l:List UInt8)(n:Nat):(S l).extract n (S l).size=S (l.drop n):=by
 apply ByteArray.ext
 apply Array.toList_inj.1
 rw[Lib.extract_to_end];simp[S]
def lF (l:List UInt8):Bool:=decide (2<=l.length)&&decide (b2 l<=((t2 l).length:Int))
def frame (l:List UInt8):List UInt8:=(t2 l).take (b2 l).toNat
theorem aAf (l:List UInt8)(w:World)(hl:l.length<=1000000000):
  Calls prog 140 #[.string (S l)] w fun e w'=>e=.returned (.tuple #[.string (if lF l then S (frame l) else S []),.bool (lF l)])/\w.grownBy w' none:=by
 have hz:=aQ l
 have hz2:=aQ (t2 l)
 obtain ⟨h0,h1⟩:=nV l
 have hl2:(t2 l).length<=l.length:=by rw[t2,eQ,eQ];simp
 by_cases ha:l.length<2
 ·have E:lF l=false:=by simp[lF];intro h;omega
  rw[E]
  clear E
  go_enter func140,ntmps140
  go_wp2
  go_ret2
  exact ⟨eG rfl rfl,aD _ _⟩
 ·by_cases hb:((t2 l).length:Int)<b2 l
  ·have E:lF l=false:=by simp[lF];intro h;omega
   rw[E]
   clear E
   have ha':decide ((l.length:Int)<2)=false:=by simp;omega
   have hb':decide (((t2 l).length:Int)<b2 l)=true:=by simp;omega
   go_enter func140,ntmps140
   go_wp2_with fail
   refine Calls.mono (bZ l w.heap.size _ (by go_simp) (by go_simp)) ?_
   rintro e w1 ⟨rfl,r1⟩
   have hc:=r1.c
   have G:=Hid.mk' (lL (World.grownBy_alloc w _ none) r1.g (Nat.le_refl _))
   go_wp2
   go_ret2
   exact ⟨eG rfl rfl,G.out⟩
  ·have E:lF l=true:=by simp[lF];omega
   rw[E]
   clear E
   have ha':decide ((l.length:Int)<2)=false:=by simp;omega
   have hb':decide (((t2 l).length:Int)<b2 l)=false:=by simp;omega
   have hb2:b2 l<=((t2 l).length:Int):=by omega
   go_enter func140,ntmps140
   go_wp2_with fail
   refine Calls.mono (bZ l w.heap.size _ (by go_simp) (by go_simp)) ?_
   rintro e w1 ⟨rfl,r1⟩
   have hc:=r1.c
   have G:=Hid.mk' (lL (World.grownBy_alloc w _ none) r1.g (Nat.le_refl _))
   go_wp2
   go_ret2
   exact ⟨eG (by show _=Value.string (S (frame l));rw[frame,<- gN];rfl) rfl,G.out⟩
def oD:Nat->List UInt8->Nat×Nat
 | 0,_=>(0,0)
 | f+1,l=>if lF l=true/\cV (frame l)=true then (1+(oD f (l.drop (2+(frame l).length))).1,2+(frame l).length+(oD f (l.drop (2+(frame l).length))).2) else (0,0)
def bK (l:List UInt8):Nat×Nat:=oD l.length l
theorem aAg (f g:Nat)(l:List UInt8)(hf:l.length<=f)(hg:l.length<=g):oD f l=oD g l:=by
 induction f generalizing g l with
 | zero=>
  have hl:l=[]:=List.eq_nil_of_length_eq_zero (by omega)
  subst hl
  cases g with
  | zero=>rfl
  | succ g=>show _=if _ then _ else _;rw[if_neg (by simp[lF])];rfl
 | succ f ih=>
  cases g with
  | zero=>
   have hl:l=[]:=List.eq_nil_of_length_eq_zero (by omega)
   subst hl
   show (if _ then _ else _)=_
   rw[if_neg (by simp[lF])];rfl
  | succ g=>
   show (if _ then _ else _)=if _ then _ else _
   by_cases h:lF l=true/\cV (frame l)=true
   ·rw[if_pos h,if_pos h,ih g (l.drop (2+(frame l).length)) (by rw[List.length_drop];omega) (by rw[List.length_drop];omega)]
   ·rw[if_neg h,if_neg h]
theorem aAh:∃i,prog.info? 139=some i/\i.zero=some bQ/\i.size=13/\i.bytes=128:=info_parts (by kernel_rfl)
theorem aBD {w:World}{ops:Array Oper}{rest:List Oper}{o:Oper}{a:Act}{Q:Exit->Act->World->Prop}(hgd:o.guard=none)(s x:Operand)
  (ho:o.op=.call {callee:=.builtin .append,args:=#[s,x],argTypes:=#[133,133]})
  (B:Nat) (v:Value) (n:Nat) (xs:List Value) (hs:a.eval s=v) (hown:w.ownsRow B 139 13 v n xs) (ad:Addr) (news:List Value) (hx:a.eval x=.slice (some ad) 1 1) (hln:news.length=13)
  (hnews:∀j u,news[j]?=some u->w.cell? (ad.add j)=some u) (h1:∀u∈news,u.oneCell'=true) (hl:n+1<=1000000001) (hB:B<=w.heap.size)
  (h:∀v' w',w'.ownsRow B 139 13 v' (n+1) (xs++news)->w.grownBy w' v.ownBlock->(v'.ownBlock=v.ownBlock∨v'.ownBlock=some w.heap.size)->wpList prog ops Q rest (a.put o.dst v') w'):wpList prog ops Q (o::rest) a w:=by
 obtain ⟨i0,hi,hz0,hz1,hz2⟩:=aAh
 refine wpList_append_own_at w hgd s x _ ho B 139 i0 _ 13 128 underlying133 hi hz0 hz1 hz2 rfl (by decide) v n xs hs hown ad 1 1 news hx hln hnews h1 ?_ ?_ hB ?_
 ·unfold maxLen;omega
 ·omega
 ·intro v' w' g1 g2 _ g4
  exact h v' w' g1 g2 g4
theorem dL {w W w':World}{v:Value}(g:W.grownBy w' v.ownBlock)(h:w.grownBy W none)(hv:∀j,v.ownBlock=some j->w.heap.size<=j):w.grownBy w' none:=
 ⟨g.os.trans h.os,g.tape.trans h.tape,g.output.trans h.output,Nat.le_trans h.size g.size,fun k hk _=>by
  have hz:=h.size
  rw[g.block k (by omega) (fun e=>by have:=hv k e.symm;omega),h.block k hk (by simp)]⟩
theorem iY (l:List UInt8)(h:¬(lF l=true/\cV (frame l)=true)):bK l=(0,0):=by
 unfold bK
 cases l.length with
 | zero=>rfl
 | succ f=>show (if _ then _ else _)=_;rw[if_neg h]
theorem pD (l:List UInt8)(h:lF l=true/\cV (frame l)=true):bK l=(1+(bK (l.drop (2+(frame l).length))).1,2+(frame l).length+(bK (l.drop (2+(frame l).length))).2):=by
 have h2:2<=l.length:=by have:=h.1;simp[lF] at this;exact this.1
 obtain ⟨f,hf⟩:∃f,l.length=f+1:=⟨l.length -1,by omega⟩
 have e:oD f (l.drop (2+(frame l).length))=bK (l.drop (2+(frame l).length)):=aAg _ _ _ (by rw[List.length_drop];omega) (Nat.le_refl _)
 rw[<- e]
 unfold bK
 rw[hf]
 show (if _ then _ else _)=_
 rw[if_pos h]
theorem tP (l:List UInt8)(h:lF l=true):2+(frame l).length<=l.length:=by
 simp[lF] at h
 simp[frame,t2,eQ]
 omega
structure Rw where
 p:Rc
 vi:Value
 vo:Value
def Rw.cells (r:Rw):List Value:=
 [.int .i64 r.p.kind,.int .i64 r.p.seq,.int .i64 r.p.it.sh,.int .i64 r.p.it.nu,.float .f32 r.p.it.pl,.float .f32 r.p.it.sp,.int .i64 r.p.mks.g,.int .i64 r.p.mks.m,.int .i64 r.p.mks.s,.int .i64 r.p.mks.a,.int .i64 r.p.mks.n,r.vi,r.vo]
def Rw.has (r:Rw)(j:Nat):Prop:=r.vi.ownBlock=some j∨r.vo.ownBlock=some j
structure Came (B:Nat)(w:World)(v:Value)(rs:List Rw):Prop where
 row:w.ownsRow B 139 13 v rs.length (rs.flatMap Rw.cells)
 oi:∀r∈rs,OwnI B w r.vi r.p.items
 oo:∀r∈rs,OwnE B w r.vo r.p.outs
 io:∀r∈rs,∀j,r.vi.ownBlock=some j->r.vo.ownBlock≠some j
 pw:rs.Pairwise (fun r r'=>∀j,r.has j->¬r'.has j)
 out:∀r∈rs,∀j,r.has j->v.ownBlock≠some j
theorem Came.nil (B:Nat)(w:World):Came B w (.slice none 0 0) []:=
 ⟨World.ownsRow_nil _ _ _ _,by simp,by simp,by simp,List.Pairwise.nil,by simp⟩
theorem Came.grown {B:Nat}{w w':World}{v:Value}{rs:List Rw}(h:Came B w v rs)(g:w.grownBy w' none):Came B w' v rs:=
 ⟨aO h.row g,fun r hr=>aO (h.oi r hr) g,fun r hr=>aO (h.oo r hr) g,h.io,h.pw,h.out⟩
theorem Came.lt {B:Nat}{w:World}{v:Value}{rs:List Rw}(h:Came B w v rs){r:Rw}(hr:r∈rs){j:Nat}(hj:r.has j):B<=j/\j<w.heap.size:=by
 rcases hj with hj | hj
 ·exact (h.oi r hr).lt j hj
 ·exact (h.oo r hr).lt j hj
theorem Came.add {B:Nat}{w W w':World}{v v':Value}{rs:List Rw}{r:Rw}(h:Came B w v rs)(hB:B<=w.heap.size)(g:w.grownBy W none)(oi:OwnI w.heap.size W r.vi r.p.items)(oo:OwnE w.heap.size W r.vo r.p.outs)
  (io:∀j,r.vi.ownBlock=some j->r.vo.ownBlock≠some j) (hrow:w'.ownsRow B 139 13 v' (rs.length+1) (rs.flatMap Rw.cells++r.cells)) (g':W.grownBy w' v.ownBlock)
  (hv:v'.ownBlock=v.ownBlock∨∃j,W.heap.size<=j/\v'.ownBlock=some j):Came B w' v' (rs++[r]):=by
 have hrw:∀j,r.has j->w.heap.size<=j/\j<W.heap.size:=fun j hj=>by
  rcases hj with hj | hj
  ·exact oi.lt j hj
  ·exact oo.lt j hj
 have keepI:∀(e:TypeId) (s:Nat) (u:Value) (n:Nat) (xs:List Value) (C:Nat),W.ownsRow C e s u n xs->(∀j,u.ownBlock=some j->v.ownBlock≠some j)->w'.ownsRow C e s u n xs:=fun e s u n xs C ho hn=>by
  refine ho.kept g' ?_
  cases hu:u.ownBlock with
  | none=>simp
  | some j=>exact .inr (fun e=>hn j hu e.symm)
 have vlt:∀j,v.ownBlock=some j->j<w.heap.size:=fun j hj=>(h.row.lt j hj).2
 have newv:∀j,r.has j->v.ownBlock≠some j:=fun j hj e=>by have:=(hrw j hj).1;have:=vlt j e;omega
 have oldv:∀q∈rs,∀j,q.has j->v'.ownBlock≠some j:=fun q hq j hj e=>by
  have hl:=h.lt hq hj
  have gz:=g.size
  rcases hv with hv | ⟨k,hk,hv⟩
  ·exact h.out q hq j hj (hv ▸ e)
  ·rw[hv] at e
   injection e with e
   omega
 refine ⟨?_,fun q hq=>?_,fun q hq=>?_,fun q hq=>?_,?_,fun q hq j hj=>?_⟩
 ·rw[List.length_append,List.flatMap_append,List.flatMap_singleton]
  exact hrow
 ·rcases List.mem_append.1 hq with hq | hq
  ·exact keepI _ _ _ _ _ _ (aO (h.oi q hq) g) (fun j hj=>h.out q hq j (.inl hj))
  ·rw[List.mem_singleton] at hq
   subst hq
   exact keepI _ _ _ _ _ _ (bP oi hB) (fun j hj=>newv j (.inl hj))
 ·rcases List.mem_append.1 hq with hq | hq
  ·exact keepI _ _ _ _ _ _ (aO (h.oo q hq) g) (fun j hj=>h.out q hq j (.inr hj))
  ·rw[List.mem_singleton] at hq
   subst hq
   exact keepI _ _ _ _ _ _ (bP oo hB) (fun j hj=>newv j (.inr hj))
 ·rcases List.mem_append.1 hq with hq | hq
  ·exact h.io q hq
  ·rw[List.mem_singleton] at hq
   subst hq
   exact io
 ·refine List.pairwise_append.2 ⟨h.pw,List.pairwise_singleton _ _,fun a ha b hb j hj hj'=>?_⟩
  rw[List.mem_singleton] at hb
  subst hb
  have:=h.lt ha hj
  have:=(hrw j hj').1
  omega
 ·rcases List.mem_append.1 hq with hq | hq
  ·exact oldv q hq j hj
  ·rw[List.mem_singleton] at hq
   subst hq
   intro e
   rcases hv with hv | ⟨k,hk,hv⟩
   ·exact newv j hj (hv ▸ e)
   ·have:=hrw j hj
    rw[hv] at e
    injection e with e
    omega
def pR:Nat->List UInt8->List Rc
 | 0,_=>[]
 | f+1,l=>if lF l=true/\cV (frame l)=true then iC (frame l)::pR f (l.drop (2+(frame l).length)) else []
theorem aAi (f g:Nat)(l:List UInt8)(hf:l.length<=f)(hg:l.length<=g):pR f l=pR g l:=by
 induction f generalizing g l with
 | zero=>
  have hl:l=[]:=List.eq_nil_of_length_eq_zero (by omega)
  subst hl
  cases g with
  | zero=>rfl
  | succ g=>show _=if _ then _ else _;rw[if_neg (by simp[lF])];rfl
 | succ f ih=>
  cases g with
  | zero=>
   have hl:l=[]:=List.eq_nil_of_length_eq_zero (by omega)
   subst hl
   show (if _ then _ else _)=_
   rw[if_neg (by simp[lF])];rfl
  | succ g=>
   show (if _ then _ else _)=if _ then _ else _
   by_cases h:lF l=true/\cV (frame l)=true
   ·rw[if_pos h,if_pos h,ih g (l.drop (2+(frame l).length)) (by rw[List.length_drop];omega) (by rw[List.length_drop];omega)]
   ·rw[if_neg h,if_neg h]
def aR (l:List UInt8):List Rc:=pR l.length l
theorem iZ (l:List UInt8)(h:¬(lF l=true/\cV (frame l)=true)):aR l=[]:=by
 unfold aR
 cases l.length with
 | zero=>rfl
 | succ f=>show (if _ then _ else _)=_;rw[if_neg h]
theorem pE (l:List UInt8)(h:lF l=true/\cV (frame l)=true):aR l=iC (frame l)::aR (l.drop (2+(frame l).length)):=by
 have h2:2<=l.length:=by have:=h.1;simp[lF] at this;exact this.1
 obtain ⟨f,hf⟩:∃f,l.length=f+1:=⟨l.length -1,by omega⟩
 have e:pR f (l.drop (2+(frame l).length))=aR (l.drop (2+(frame l).length)):=aAi _ _ _ (by rw[List.length_drop];omega) (Nat.le_refl _)
 rw[<- e]
 unfold aR
 rw[hf]
 show (if _ then _ else _)=_
 rw[if_pos h]
theorem jT (l:List UInt8)(w:World)(hl:l.length<=1000000000):
  Calls prog 85 #[.string (S l)] w fun e w'=>∃v rs,e=.returned (.tuple #[v,.int .i64 (bK l).2])/\Came w.heap.size w' v rs/\rs.map Rw.p=aR l/\w.grownBy w' none:=by
 have hz:=aQ l
 have hsf:=aK
 go_enter func85,ntmps85
 go_wp2
 go_step3
 go_wp2
 go_step3
 go_wp2
 go_loopw [4,5] (fun v i wr=>∃(n:Nat) (rs:List Rw),i=.int .i64 n/\n<=l.length/\rs.length<=n/\w.grownBy wr none/\Came w.heap.size wr v rs/\(bK l).2=n+(bK (l.drop n)).2/\aR l=rs.map Rw.p++aR (l.drop n)) (fun _ i _=>l.length -(intOf i).toNat)
 case atStart=>exact ⟨0,[],rfl,by omega,by simp,aD _ _,Came.nil _ _,by simp,by simp⟩
 case round=>
  obtain ⟨n,rs,rfl,hn,hk,gk,ok,hs,hq⟩:=hrel
  have HS:=Hid.mk' hs
  have HQ:=Hid.mk' hq
  have OK:=Hid.mk' ok
  clear hs ok hq
  have hx:(S l).extract n l.length=S (l.drop n):=by rw[<- hz];exact aIL l n
  have hd:Hid (∀m,(l.drop n).drop m=l.drop (n+m)):=fun m=>by rw[List.drop_drop]
  have hdl:(l.drop n).length=l.length -n:=List.length_drop
  obtain ⟨L,hL⟩:∃L,l.drop n=L:=⟨_,rfl⟩
  rw[hL] at hx hd hdl HS HQ
  clear hL
  go_wp2_with fail
  refine Calls.mono (aAf L _ (by omega)) ?_
  rintro e w1 ⟨rfl,g1⟩
  cases hF:lF L
  ·have e0:=iY L (by rw[hF];simp)
   have e1:=iZ L (by rw[hF];simp)
   rw[e0] at HS
   rw[e1] at HQ
   clear e0 e1
   go_wp2_with fail
   rw[Exit.noGoto_ret]
   go_ret2
   refine ⟨u4,rs,eG rfl ?_,OK.out.grown g1,by rw[HQ.out,List.append_nil],gk.trans g1⟩
   rw[HS.out];rfl
  ·have hfl:=tP L hF
   have hF':(if (true:Bool)=true then S (frame L) else S [])=S (frame L):=rfl
   rw[hF']
   clear hF'
   go_wp2_with fail
   refine Calls.mono (rB (frame L) _) ?_
   rintro e w2 ⟨g2,(⟨hd0,rfl⟩ | ⟨hd1,vi,vo,rfl,oi,oo,io⟩)⟩
   ·have e0:=iY L (by rw[hd0];simp)
    have e1:=iZ L (by rw[hd0];simp)
    rw[e0] at HS
    rw[e1] at HQ
    clear e0 e1
    unfold bQ rv
    go_wp2_with fail
    rw[Exit.noGoto_ret]
    go_ret2
    refine ⟨u4,rs,eG rfl ?_,OK.out.grown (aG (g1.trans g2) _),by rw[HQ.out,List.append_nil],aG ((gk.trans g1).trans g2) _⟩
    rw[HS.out];rfl
   ·have e1:=pD L ⟨hF,hd1⟩
    have e2:=pE L ⟨hF,hd1⟩
    rw[e1] at HS
    rw[e2] at HQ
    clear e1 e2 hd1
    obtain ⟨ai,ni,ci,rfl⟩:=dD oi
    obtain ⟨ao,no,co,rfl⟩:=dD oo
    have OI:=Hid.mk' oi
    have OO:=Hid.mk' oo
    have IOh:=Hid.mk' io
    clear oi oo io
    have hfz:=aQ (frame L)
    generalize iC (frame L)=p at HQ OI OO ⊢
    unfold rv
    have z12:wr.heap.size<=w2.heap.size:=Nat.le_trans g1.size g2.size
    have zk:=gk.size
    have G01:=Hid.mk' (gk.trans g1)
    have OK1:=Hid.mk' (OK.out.grown g1)
    have G2:=Hid.mk' g2
    have o2:Hid (w2.ownsRow w.heap.size 139 13 u4 rs.length (rs.flatMap Rw.cells)):=aO OK1.out.row g2
    have g02:=Hid.mk' (G01.out.trans g2)
    have hv:Hid (∀j,u4.ownBlock=some j->w.heap.size<=j):=fun j hj=>(o2.out.lt j hj).1
    clear g1 g2
    go_wp2_with (at_builtin;refine aBD rfl _ _ rfl w.heap.size u4 rs.length (rs.flatMap Rw.cells) rfl (World.ownsRow.alloc (World.ownsRow.alloc o2.out _) _) ⟨w2.heap.size+1,0,none⟩ [.int .i64 p.kind,.int .i64 p.seq,.int .i64 p.it.sh,.int .i64 p.it.nu,.float .f32 p.it.pl,.float .f32 p.it.sp,.int .i64 p.mks.g,.int .i64 p.mks.m,.int .i64 p.mks.s,.int .i64 p.mks.a,.int .i64 p.mks.n,.slice ai ni ci,.slice ao no co] rfl rfl ?c1 ?c2 ?c3 ?c4 ?c5)
    case c1=>exact aW _ _ _ _ (by simp)
    case c2=>simp[Value.oneCell']
    case c3=>omega
    case c4=>simp;omega
    case c5=>
    intro v' w3 o3 g3 hvv
    have g03:w.grownBy w3 none:=dL g3 (aG (aG g02.out _) _) hv.out
    have CC:Hid (Came w.heap.size w3 v' (rs++[⟨p,.slice ai ni ci,.slice ao no co⟩])):=
     OK1.out.add (r:=⟨p,.slice ai ni ci,.slice ao no co⟩) G01.out.size (aG (aG G2.out _) _) (World.ownsRow.alloc (World.ownsRow.alloc OI.out _) _) (World.ownsRow.alloc (World.ownsRow.alloc OO.out _) _) IOh.out o3 g3
      (by rcases hvv with e | e;exact .inl e;exact .inr ⟨_,by simp,e⟩)
    clear o3 g3 hvv
    go_wp2
    refine ⟨⟨n+(2+(frame L).length),rs++[⟨p,.slice ai ni ci,.slice ao no co⟩],by go_num,by omega,by simp;omega,g03,CC.out,?_,?_⟩,by simp[intOf];omega⟩
    ·rw[HS.out,hd.out]
     show n+(2+(frame L).length+_)=n+(2+(frame L).length)+_
     omega
    ·rw[HQ.out,hd.out]
     simp
end Go.Proofs.YtammnaafdhhjaaaGreat
