import Derived.Deep.RegionHeld3
import Derived.Test.YtammnaafdhhjaaaGreatJW1
set_option maxHeartbeats 16000000
set_option maxRecDepth 100000
namespace Go.Proofs.YtammnaafdhhjaaaGreat
open Go.RowKit Go.Proofs.Tryz
def nY (x y:Int):Int:=if x<y then -1 else if y<x then 1 else 0
def orI (x y:Int):Int:=if x=0 then y else x
theorem aBt (x y:Int)(w:World):
  Calls prog 168 #[.int .i64 x,.int .i64 y] w fun e w'=>e=.returned (.int .i64 (nY x y))/\w'=w:=by
 go_enter func168,ntmps168
 go_wp2
 all_goals (go_ret;refine ⟨eD ?_,rfl⟩)
 all_goals (unfold nY;first | (rw[if_pos (by assumption)];done) | (rw[if_neg (by omega),if_pos (by assumption)];done) | (rw[if_neg (by omega),if_neg (by omega)]))
theorem aEs (x y:Int)(g:Nat)(w:World)(h0:w.cell? ⟨g,0,none⟩=some (.int .i64 x))(h1:w.cell? ⟨g,1,none⟩=some (.int .i64 y)):
  Calls prog 167 #[.slice (some ⟨g,0,none⟩) 2 2] w fun e w'=>e=.returned (.int .i64 (orI x y))/\w'=w:=by
 go_enter func167,ntmps167
 go_wp2
 go_loop [8] (fun i=>∃k:Nat,k<=2/\i=.int .i64 k/\(0<k->x=0)/\(1<k->y=0)) (fun i=>2 -(intOf i).toNat)
 case atStart=>exact ⟨0,by omega,rfl,by omega,by omega⟩
 case round=>
  obtain ⟨k,hk,rfl,hx,hy⟩:=hrel
  have hk3:k=0∨k=1∨k=2:=by omega
  rcases hk3 with rfl | rfl | rfl
  ·clear hx hy hk
   go_wp2
   ·go_ret
    exact ⟨eD (by have hh:=‹(x !=0)=true›;simp at hh;simp[orI,hh]),rfl⟩
   ·go_round
    case rel=>exact ⟨1,by omega,rfl,fun _=>by have hh:=‹(x !=0)=false›;simpa using hh,by omega⟩
    case measure=>simp[intOf]
  ·have hx0:x=0:=hx (by omega)
   subst hx0
   clear hx hy hk
   go_wp2
   ·go_ret
    exact ⟨eD (by simp[orI]),rfl⟩
   ·go_round
    case rel=>exact ⟨2,by omega,rfl,fun _=>trivial,fun _=>by have hh:=‹(y !=0)=false›;simpa using hh⟩
    case measure=>simp[intOf]
  ·have hx0:x=0:=hx (by omega)
   have hy0:y=0:=hy (by omega)
   subst hx0 hy0
   clear hx hy hk
   go_wp2
   go_ret
   exact ⟨eD (by simp[orI]),rfl⟩
theorem aA {w w':World}{row:Option Nat}(h:w.grownBy w' row):w.grownBy w'.drew row:=⟨h.os,h.tape,h.output,h.size,h.block⟩
def fO (a b c d:Int):Int:=orI (nY a c) (nY b d)
theorem wS (a b c d:Int)(w:World):
  Calls prog 138 #[.agg #[.int .i64 a,.int .i64 b],.agg #[.int .i64 c,.int .i64 d]] w fun e w'=>e=.returned (.int .i64 (fO a b c d))/\w.grownBy w' none:=by
 go_enter func138,ntmps138
 go_wp2
 go_region_held3 (fun w'=>w'.cell? ⟨w.heap.size,0,none⟩=some (.int .i64 a)/\w'.cell? ⟨w.heap.size,1,none⟩=some (.int .i64 b)/\w'.cell? ⟨w.heap.size+1,0,none⟩=some (.int .i64 c)/\w'.cell? ⟨w.heap.size+1,1,none⟩=some (.int .i64 d)) (go_keep)
  (first | (go_at_call 168;refine (aBt _ _ _).mono ?_;rintro e w' ⟨rfl,rfl⟩) | (go_at_call 167;refine (aEs (nY a c) (nY b d) _ _ ?_ ?_).mono ?_;(go_simp);(go_simp);rintro e w' ⟨rfl,rfl⟩))
 go_wp2
 go_ret
 exact ⟨rfl,aA (aG (aG (World.grownBy_alloc _ _ _) _) _)⟩
theorem uM (a b c d:Int)(w:World)(p0 p1 p2 p3:Addr)(v0 v1 v2 v3:Value)(h:w.cell? p0=some v0/\w.cell? p1=some v1/\w.cell? p2=some v2/\w.cell? p3=some v3):
  Calls prog 138 #[.agg #[.int .i64 a,.int .i64 b],.agg #[.int .i64 c,.int .i64 d]] w fun e w'=>e=.returned (.int .i64 (fO a b c d))/\w.grownBy w' none/\w'.cell? p0=some v0/\w'.cell? p1=some v1/\w'.cell? p2=some v2/\w'.cell? p3=some v3:=by
 refine (wS a b c d w).mono ?_
 rintro e w' ⟨he,g⟩
 exact ⟨he,g,g.cell h.1 (by simp),g.cell h.2.1 (by simp),g.cell h.2.2.1 (by simp),g.cell h.2.2.2 (by simp)⟩
def Lies (w:World)(v:Value)(n:Nat)(xs:List Value):Prop:=
 ∃a c,v=.slice a n c/\(0<n->∃g off,a=some ⟨g,off,none⟩/\∀j u,xs[j]?=some u->w.cell? ⟨g,off+j,none⟩=some u)
def bH (w:World)(v:Value)(is:List It):Prop:=Lies w v is.length (is.flatMap It.cells)
def bL (w:World)(v:Value)(es:List En):Prop:=Lies w v es.length (es.flatMap En.cells)
theorem Lies.of_own {B:Nat}{e:TypeId}{size:Nat}{v:Value}{n:Nat}{xs:List Value}{w:World}(h:w.ownsRow B e size v n xs):Lies w v n xs:=by
 rcases h.2 with ⟨rfl,hn⟩ | ⟨g,cap,cur,rfl,_⟩
 ·subst hn;exact ⟨none,0,rfl,by omega⟩
 ·refine ⟨_,cap,rfl,fun _=>⟨g,0,rfl,fun j u hu=>?_⟩⟩
  have:=h.cells (g:=g) rfl j u hu
  rw[show (⟨g,0,none⟩:Addr).add j=⟨g,0+j,none⟩ by unfold Addr.add;split<;>simp_all] at this
  exact this
theorem Lies.grown {w w':World}{v:Value}{n:Nat}{xs:List Value}(h:Lies w v n xs)(g:w.grownBy w' none):Lies w' v n xs:=by
 obtain ⟨a,c,hv,hx⟩:=h
 refine ⟨a,c,hv,fun hn=>?_⟩
 obtain ⟨b,off,ha,hc⟩:=hx hn
 exact ⟨b,off,ha,fun j u hu=>g.cell (hc j u hu) (by simp)⟩
theorem cQ (is:List It)(k j:Nat)(hk:k<is.length)(hj:j<4):(is.flatMap It.cells)[4 * k+j]?=is[k].cells[j]?:=by
 induction is generalizing k with
 | nil=>simp at hk
 | cons i t ih=>
  rw[List.flatMap_cons]
  cases k with
  | zero=>rw[List.getElem?_append_left (by simp[It.cells];omega)];simp
  | succ k=>
   rw[List.getElem?_append_right (by simp[It.cells];omega)]
   have e:4 * (k+1)+j -i.cells.length=4 * k+j:=by simp[It.cells];omega
   rw[e,ih k (by simpa using hk)];rfl
theorem dY (is:List En)(k j:Nat)(hk:k<is.length)(hj:j<5):(is.flatMap En.cells)[5 * k+j]?=is[k].cells[j]?:=by
 induction is generalizing k with
 | nil=>simp at hk
 | cons i t ih=>
  rw[List.flatMap_cons]
  cases k with
  | zero=>rw[List.getElem?_append_left (by simp[En.cells];omega)];simp
  | succ k=>
   rw[List.getElem?_append_right (by simp[En.cells];omega)]
   have e:5 * (k+1)+j -i.cells.length=5 * k+j:=by simp[En.cells];omega
   rw[e,ih k (by simpa using hk)];rfl
def jY:Option It->It->Bool
 | none,_=>true
 | some q,i=>decide (fO q.sh q.nu i.sh i.nu<0)
def qV:Option It->List It->Bool
 | _,[]=>true
 | p,i::t=>eF i&&jY p i&&qV (some i) t
def gK (is:List It):Bool:=decide (is.length<=16)&&qV none is
def kG (is:List It)(k:Nat):Option It:=if h:0<k/\k<=is.length then some (is[k -1]'(by omega)) else none
theorem aEt (p:Option It)(is:List It)(k:Nat)(h:k<is.length):qV p (is.drop k)=(eF is[k]&&jY p is[k]&&qV (some is[k]) (is.drop (k+1))):=by
 rw[List.drop_eq_getElem_cons h];rfl
theorem iU (is:List It)(k:Nat)(h:k<is.length):kG is (k+1)=some is[k]:=by simp[kG];omega
theorem aL {w w':World}{row:Option Nat}(h:w.grownBy w' row)(n:Nat):w.grownBy (w'.drewN n) row:=⟨h.os,h.tape,h.output,h.size,h.block⟩
theorem zX (is:List It)(g off c:Nat)(w:World)(hn:is.length<=16)(hpos:0<is.length)(hc:∀j u,(is.flatMap It.cells)[j]?=some u->w.cell? ⟨g,off+j,none⟩=some u):
  Calls prog 227 #[.slice (some ⟨g,off,none⟩) is.length c] w fun e w'=>e=.returned (.bool (qV none is))/\w.grownBy w' none:=by
 obtain ⟨n,hL⟩:∃n,is.length=n:=⟨_,rfl⟩
 rw[hL] at hn hpos ⊢
 have HL:Hid (is.length=n):=hL
 clear hL
 have HC:Hid (∀j u,(is.flatMap It.cells)[j]?=some u->w.cell? ⟨g,off+j,none⟩=some u):=hc
 clear hc
 have hsf:=aK
 have h16:decide ((16:Int)<(n:Int))=false:=by simp;omega
 go_enter func227,ntmps227
 go_wp2
 go_loopw [10] (fun i wr=>∃k:Nat,k<=n/\i=.int .i64 k/\w.grownBy wr none/\qV none is=qV (kG is k) (is.drop k)) (fun i _=>n -(intOf i).toNat)
 case atStart=>exact ⟨0,by omega,rfl,aD _ _,by simp[kG]⟩
 case round=>
  obtain ⟨k,hk,rfl,gk,hck⟩:=hrel
  have HK:Hid (qV none is=qV (kG is k) (is.drop k)):=hck
  clear hck
  by_cases hlt:k<n
  ·have hkl:k<is.length:=by rw[HL.out];exact hlt
   have HA:=Hid.mk' (aEt (kG is k) is k hkl)
   obtain ⟨i,hi⟩:∃i,is[k]=i:=⟨_,rfl⟩
   rw[hi] at HA
   have d:∀j (hj:j<4) u,i.cells[j]?=some u->wr.cell? ⟨g,off+k * 4+j,none⟩=some u:=fun j hj u hu=>by
    have:=HC.out (4 * k+j) u (by rw[cQ is k j hkl hj,hi];exact hu)
    rw[show off+(4 * k+j)=off+k * 4+j by omega] at this
    exact gk.cell this (by simp)
   have d0:=d 0 (by omega) _ rfl
   have d1:=d 1 (by omega) _ rfl
   have d2:=d 2 (by omega) _ rfl
   have d3:=d 3 (by omega) _ rfl
   clear d
   rw[Nat.add_zero] at d0
   have HI:Hid (is[k]=i):=hi
   clear hi
   by_cases hk0:k=0
   ·subst hk0
    simp only[Nat.zero_mul,Nat.add_zero] at d0 d1 d2 d3
    go_wp2_with fail
    refine (iS i _).mono ?_
    rintro e w1 ⟨rfl,g1⟩
    have G1:=Hid.mk' ((aG gk _).trans g1)
    cases hb:eF i
    ·go_wp2_with fail
     go_ret
     exact ⟨aM (by rw[HK.out,HA.out,hb];rfl),G1.out⟩
    ·go_wp2_with fail
     go_quiet (fail)
     go_wp2
     refine ⟨⟨1,by omega,rfl,aL G1.out nq,?_⟩,by simp[intOf];omega⟩
     rw[HK.out,HA.out,hb,iU is 0 hkl,HI.out];simp[kG,jY]
   ·obtain ⟨m,rfl⟩:∃m,k=m+1:=⟨k -1,by omega⟩
    obtain ⟨q,hq⟩:∃q,is[m]'(by omega)=q:=⟨_,rfl⟩
    have hp:Hid (kG is (m+1)=some q):=by show kG is (m+1)=some q;rw[<- hq];simp[kG];omega
    have dq:∀j (hj:j<4) u,q.cells[j]?=some u->wr.cell? ⟨g,off+m * 4+j,none⟩=some u:=fun j hj u hu=>by
     have:=HC.out (4 * m+j) u (by rw[cQ is m j (by omega) hj,hq];exact hu)
     rw[show off+(4 * m+j)=off+m * 4+j by omega] at this
     exact gk.cell this (by simp)
    have q0:=dq 0 (by omega) _ rfl
    have q1:=dq 1 (by omega) _ rfl
    clear dq hq
    rw[Nat.add_zero] at q0
    rw[Int.natCast_succ]
    have y2:m<n:=by omega
    have y1:(m:Int)<(n:Int):=by omega
    have y0:(0:Int)<=(m:Int):=by omega
    have y3:IntKind.i64.wrap (m:Int)=(m:Int):=by simp[IntKind.wrap,IntKind.bits,IntKind.signed];omega
    have y4:wrap64 (m:Int)=(m:Int):=by simp[wrap64];omega
    have y5:IntKind.i64.wrap ((m:Int)+1 -1)=(m:Int):=by rw[Int.add_sub_cancel];exact y3
    have y6:wrap64 ((m:Int)+1 -1)=(m:Int):=by rw[Int.add_sub_cancel];exact y4
    have y7:(m:Int).toNat=m:=rfl
    go_wp2_with fail
    refine (iS i _).mono ?_
    rintro e w1 ⟨rfl,g1⟩
    have e0:=gC g1 wr.heap.size 0 (.int .i64 i.sh)
    have e1:=gC g1 wr.heap.size 1 (.int .i64 i.nu)
    have p0:w1.cell? ⟨g,off+m * 4,none⟩=some (.int .i64 q.sh):=g1.cell ((World.grownBy_alloc wr _ none).cell q0 (by simp)) (by simp)
    have p1:w1.cell? ⟨g,off+m * 4+1,none⟩=some (.int .i64 q.nu):=g1.cell ((World.grownBy_alloc wr _ none).cell q1 (by simp)) (by simp)
    have G1:=Hid.mk' ((aG gk _).trans g1)
    cases hb:eF i
    ·go_wp2_with fail
     go_ret
     exact ⟨aM (by rw[HK.out,HA.out,hb];rfl),G1.out⟩
    ·go_wp2_with fail
     go_region_held3 (fun w'=>w'.cell? ⟨g,off+m * 4,none⟩=some (.int .i64 q.sh)/\w'.cell? ⟨g,off+m * 4+1,none⟩=some (.int .i64 q.nu)/\w'.cell? ⟨wr.heap.size,0,none⟩=some (.int .i64 i.sh)/\w'.cell? ⟨wr.heap.size,1,none⟩=some (.int .i64 i.nu)) (go_keep)
      (first | (go_at_call 138;refine (uM q.sh q.nu i.sh i.nu _ _ _ _ _ _ _ _ _ (by assumption)).mono ?_;rintro e w2 ⟨rfl,g2,k2⟩))
     go_wp2
     ·have hx:=‹0<=fO q.sh q.nu i.sh i.nu›
      go_ret
      exact ⟨aM (by rw[HK.out,HA.out,hb,hp.out];simp[jY];intro hh;omega),(aA G1.out).trans g2⟩
     ·have hx:=‹fO q.sh q.nu i.sh i.nu<0›
      refine ⟨⟨m+1+1,by omega,by go_num,(aA G1.out).trans g2,?_⟩,by simp[intOf];omega⟩
      rw[HK.out,HA.out,hb,iU is (m+1) hkl,HI.out,hp.out];simp[jY,hx]
  ·go_wp2
   go_ret
   exact ⟨aM (by rw[HK.out,List.drop_of_length_le (by rw[HL.out];omega)];rfl),gk⟩
theorem uN (v:Value)(is:List It)(w:World)(h:bH w v is):
  Calls prog 227 #[v] w fun e w'=>e=.returned (.bool (gK is))/\w.grownBy w' none:=by
 obtain ⟨a,c,rfl,hx⟩:=h
 by_cases hn:is.length<=16
 ·by_cases hp:0<is.length
  ·obtain ⟨g,off,rfl,hc⟩:=hx hp
   refine (zX is g off c w hn hp hc).mono ?_
   rintro e w' ⟨rfl,g'⟩
   exact ⟨aM (by simp[gK,hn]),g'⟩
  ·have e0:is=[]:=List.eq_nil_of_length_eq_zero (by omega)
   subst e0
   clear hx hn hp
   show Calls prog 227 #[.slice a 0 c] w _
   go_enter func227,ntmps227
   go_wp2
   refine wp_loop_rounds 1 ?_
   rw[rounds_succ]
   go_wp2
   go_ret
   exact ⟨rfl,aD _ _⟩
 ·have hb:gK is=false:=by simp[gK,hn]
  rw[hb]
  clear hb hx
  obtain ⟨n,hL⟩:∃n,is.length=n:=⟨_,rfl⟩
  rw[hL] at hn ⊢
  clear hL
  have h16:decide ((16:Int)<(n:Int))=true:=by simp;omega
  go_enter func227,ntmps227
  go_wp2
  go_ret
  exact ⟨rfl,aD _ _⟩
def fD:Int->List En->Bool
 | _,[]=>true
 | l,e::t=>decide (l<e.sq)&&eE e.sq&&eF e.it&&fD e.sq t
def lA (es:List En):Bool:=decide (es.length<=8)&&fD 0 es
theorem aBu (l:Int)(es:List En)(k:Nat)(h:k<es.length):fD l (es.drop k)=(decide (l<es[k].sq)&&eE es[k].sq&&eF es[k].it&&fD es[k].sq (es.drop (k+1))):=by
 rw[List.drop_eq_getElem_cons h];rfl
theorem wT (es:List En)(g off c:Nat)(w:World)(hn:es.length<=8)(hpos:0<es.length)(hc:∀j u,(es.flatMap En.cells)[j]?=some u->w.cell? ⟨g,off+j,none⟩=some u):
  Calls prog 228 #[.slice (some ⟨g,off,none⟩) es.length c] w fun e w'=>e=.returned (.bool (fD 0 es))/\w.grownBy w' none:=by
 obtain ⟨n,hL⟩:∃n,es.length=n:=⟨_,rfl⟩
 rw[hL] at hn hpos ⊢
 have HL:Hid (es.length=n):=hL
 clear hL
 have HC:Hid (∀j u,(es.flatMap En.cells)[j]?=some u->w.cell? ⟨g,off+j,none⟩=some u):=hc
 clear hc
 have hsf:=aK
 have h16:decide ((8:Int)<(n:Int))=false:=by simp;omega
 go_enter func228,ntmps228
 go_wp2
 go_loopw [3,11] (fun l i wr=>∃k:Nat,∃q:Int,k<=n/\i=.int .i64 k/\l=.int .i64 q/\w.grownBy wr none/\fD 0 es=fD q (es.drop k)) (fun _ i _=>n -(intOf i).toNat)
 case atStart=>exact ⟨0,0,by omega,rfl,rfl,aD _ _,by simp⟩
 case round=>
  obtain ⟨k,q,hk,rfl,rfl,gk,hck⟩:=hrel
  have HK:Hid (fD 0 es=fD q (es.drop k)):=hck
  clear hck
  by_cases hlt:k<n
  ·have hkl:k<es.length:=by rw[HL.out];exact hlt
   have HA:=Hid.mk' (aBu q es k hkl)
   obtain ⟨i,hi⟩:∃i,es[k]=i:=⟨_,rfl⟩
   rw[hi] at HA
   have d:∀j (hj:j<5) u,i.cells[j]?=some u->wr.cell? ⟨g,off+k * 5+j,none⟩=some u:=fun j hj u hu=>by
    have:=HC.out (5 * k+j) u (by rw[dY es k j hkl hj,hi];exact hu)
    rw[show off+(5 * k+j)=off+k * 5+j by omega] at this
    exact gk.cell this (by simp)
   have d0:=d 0 (by omega) _ rfl
   have d1:=d 1 (by omega) _ rfl
   have d2:=d 2 (by omega) _ rfl
   have d3:=d 3 (by omega) _ rfl
   have d4:=d 4 (by omega) _ rfl
   clear d hi
   rw[Nat.add_zero] at d0
   obtain ⟨sq,it⟩:=i
   by_cases hs:q<sq
   ·have hs':decide (sq<=q)=false:=by simp;omega
    cases hN:eE sq
    ·go_wp2_with (go_at_call 207;refine (iL sq _).mono ?_;rintro e w1 ⟨rfl,rfl⟩)
     go_ret
     exact ⟨aM (by rw[HK.out,HA.out];simp[hN]),aG gk _⟩
    ·go_wp2_with (first | (go_at_call 207;refine (iL sq _).mono ?_;rintro e w1 ⟨rfl,rfl⟩))
     refine (iS it _).mono ?_
     rintro e w1 ⟨rfl,g1⟩
     have G1:=Hid.mk' ((aG gk _).trans g1)
     have e0:=gC g1 wr.heap.size 0 (.int .i64 sq)
     cases hb:eF it
     ·go_wp2_with fail
      go_ret
      exact ⟨aM (by rw[HK.out,HA.out];simp[hb]),G1.out⟩
     ·go_wp2_with fail
      refine ⟨⟨k+1,sq,by omega,by go_num,rfl,G1.out,?_⟩,by simp[intOf];omega⟩
      rw[HK.out,HA.out];simp[hN,hb,hs]
   ·have hs':decide (sq<=q)=true:=by simp;omega
    go_wp2_with fail
    go_ret
    exact ⟨aM (by rw[HK.out,HA.out];simp;intro hh;omega),aG gk _⟩
  ·go_wp2
   go_ret
   exact ⟨aM (by rw[HK.out,List.drop_of_length_le (by rw[HL.out];omega)];rfl),gk⟩
theorem sR (v:Value)(es:List En)(w:World)(h:bL w v es):
  Calls prog 228 #[v] w fun e w'=>e=.returned (.bool (lA es))/\w.grownBy w' none:=by
 obtain ⟨a,c,rfl,hx⟩:=h
 by_cases hn:es.length<=8
 ·by_cases hp:0<es.length
  ·obtain ⟨g,off,rfl,hc⟩:=hx hp
   refine (wT es g off c w hn hp hc).mono ?_
   rintro e w' ⟨rfl,g'⟩
   exact ⟨aM (by simp[lA,hn]),g'⟩
  ·have e0:es=[]:=List.eq_nil_of_length_eq_zero (by omega)
   subst e0
   clear hx hn hp
   show Calls prog 228 #[.slice a 0 c] w _
   go_enter func228,ntmps228
   go_wp2
   refine wp_loop_rounds 1 ?_
   rw[rounds_succ]
   go_wp2
   go_ret
   exact ⟨rfl,aD _ _⟩
 ·have hb:lA es=false:=by simp[lA,hn]
  rw[hb]
  clear hb hx
  obtain ⟨n,hL⟩:∃n,es.length=n:=⟨_,rfl⟩
  rw[hL] at hn ⊢
  clear hL
  have h16:decide ((8:Int)<(n:Int))=true:=by simp;omega
  go_enter func228,ntmps228
  go_wp2
  go_ret
  exact ⟨rfl,aD _ _⟩
def gY (r:Rc):Bool:=zQ r.mks&&gK r.items&&lA r.outs
def eU (r:Rc):Bool:=wR r.mks&&(r.items.length==0)&&(r.outs.length==0)
def aP (r:Rc):Bool:=
 if r.kind=1 then (r.seq==0)&&eF r.it&&eU r
 else if r.kind=2 then (r.seq==0)&&pA r.it.sh r.it.nu&&zU r.it&&eU r
 else if r.kind=3 then (r.seq==0)&&jM r.it&&eU r
 else if r.kind=4∨r.kind=7 then decide (1<=r.seq)&&eE r.seq&&eF r.it&&eU r
 else if r.kind=5∨r.kind=8 then eE r.seq&&jM r.it&&eU r
 else if r.kind=6 then (r.seq==0)&&jM r.it&&gY r
 else false
theorem wU (r:Rc)(vi vo:Value)(w:World)(hi:bH w vi r.items)(ho:bL w vo r.outs):
  Calls prog 208 #[rv r.kind r.seq r.it r.mks vi vo] w fun e w'=>e=.returned (.bool (gY r))/\w.grownBy w' none:=by
 obtain ⟨K,s,i,m,is,es⟩:=r
 have HI:=Hid.mk' hi
 have HO:=Hid.mk' ho
 clear hi ho
 unfold rv
 obtain ⟨ai,ci,rfl,_⟩:=HI.out
 obtain ⟨ao,co,rfl,_⟩:=HO.out
 go_enter func208,ntmps208
 go_wp2_with fail
 refine (uK m _).mono ?_
 rintro e w1 ⟨rfl,g1⟩
 have G1:=Hid.mk' ((World.grownBy_alloc w _ none).trans g1)
 have c11:=gC g1 w.heap.size 11 (.slice ai is.length ci)
 have c12:=gC g1 w.heap.size 12 (.slice ao es.length co)
 cases hm:zQ m
 ·go_wp2_with fail
  go_ret
  exact ⟨aM (by simp[gY,hm]),G1.out⟩
 ·go_wp2_with fail
  refine (uN _ is _ (HI.out.grown G1.out)).mono ?_
  rintro e w2 ⟨rfl,g2⟩
  have G2:=Hid.mk' (G1.out.trans g2)
  have d12:w2.cell? ⟨w.heap.size,12,none⟩=some (.slice ao es.length co):=g2.cell c12 (by simp)
  cases hi:gK is
  ·go_wp2_with fail
   go_ret
   exact ⟨aM (by simp[gY,hi]),G2.out⟩
  ·go_wp2_with fail
   refine (sR _ es _ (HO.out.grown G2.out)).mono ?_
   rintro e w3 ⟨rfl,g3⟩
   go_wp2_with fail
   go_ret
   exact ⟨aM (by simp[gY,hm,hi]),G2.out.trans g3⟩
theorem kQ (n:Int)(w:World):
  Calls prog 207 #[.int .i64 n] w fun e w'=>e=.returned (.bool (eE n))/\w.grownBy w' none:=by
 refine (iL n w).mono ?_
 rintro e w' ⟨he,rfl⟩
 exact ⟨he,aD _ _⟩
theorem aJo (s:Int)(i:It)(m:Mk)(is:List It)(es:List En)(vi vo:Value)(w:World)(hi:bH w vi is)(ho:bL w vo es):
  Calls prog 184 #[rv 1 s i m vi vo] w fun e w'=>e=.returned (.bool (aP ⟨1,s,i,m,is,es⟩))/\w.grownBy w' none:=by
 have HI:=Hid.mk' hi
 have HO:=Hid.mk' ho
 clear hi ho
 unfold rv
 obtain ⟨ai,ci,rfl,_⟩:=HI.out
 obtain ⟨ao,co,rfl,_⟩:=HO.out
 by_cases hs:¬s=0
 ·have hs':(s==0)=false:=by simp[hs]
  have E:aP ⟨1,s,i,m,is,es⟩=false:=by simp[aP,hs]
  rw[E]
  clear E hs
  go_enter func184,ntmps184
  go_wp2_with fail
  go_ret
  exact ⟨rfl,World.grownBy_alloc _ _ _⟩
 replace hs:s=0:=by omega
 subst hs
 go_enter func184,ntmps184
 go_wp2_with fail
 refine Calls.mono (iS i _) ?_
 rintro e w1 ⟨rfl,g1⟩
 have G1:=Hid.mk' ((World.grownBy_alloc w _ none).trans g1)
 obtain ⟨c1_0,c1_1,c1_2,c1_3,c1_4,c1_5,c1_6,c1_7,c1_8,c1_9,c1_10,c1_11,c1_12⟩:=oY g1
 cases h1:eF i
 ·go_wp2_with fail
  go_ret
  exact ⟨aM (by simp[aP,h1]),G1.out⟩
 go_wp2_with fail
 refine Calls.mono (fL 1 0 i m ai ao is.length ci es.length co _) ?_
 rintro e w2 ⟨rfl,g2⟩
 have G2:=Hid.mk' (G1.out.trans g2)
 go_wp2_with fail
 go_ret
 exact ⟨aM (by simp[aP,eU,h1]),G2.out⟩
theorem aJp (s:Int)(i:It)(m:Mk)(is:List It)(es:List En)(vi vo:Value)(w:World)(hi:bH w vi is)(ho:bL w vo es):
  Calls prog 184 #[rv 2 s i m vi vo] w fun e w'=>e=.returned (.bool (aP ⟨2,s,i,m,is,es⟩))/\w.grownBy w' none:=by
 have HI:=Hid.mk' hi
 have HO:=Hid.mk' ho
 clear hi ho
 unfold rv
 obtain ⟨ai,ci,rfl,_⟩:=HI.out
 obtain ⟨ao,co,rfl,_⟩:=HO.out
 by_cases hs:¬s=0
 ·have hs':(s==0)=false:=by simp[hs]
  have E:aP ⟨2,s,i,m,is,es⟩=false:=by simp[aP,hs]
  rw[E]
  clear E hs
  go_enter func184,ntmps184
  go_wp2_with fail
  go_ret
  exact ⟨rfl,World.grownBy_alloc _ _ _⟩
 replace hs:s=0:=by omega
 subst hs
 go_enter func184,ntmps184
 go_wp2_with fail
 refine Calls.mono (tJ i.sh i.nu _) ?_
 rintro e w1 ⟨rfl,g1⟩
 have G1:=Hid.mk' ((World.grownBy_alloc w _ none).trans g1)
 obtain ⟨c1_0,c1_1,c1_2,c1_3,c1_4,c1_5,c1_6,c1_7,c1_8,c1_9,c1_10,c1_11,c1_12⟩:=oY g1
 cases h1:pA i.sh i.nu
 ·go_wp2_with fail
  go_ret
  exact ⟨aM (by simp[aP,h1]),G1.out⟩
 go_wp2_with fail
 refine Calls.mono (tK i _) ?_
 rintro e w2 ⟨rfl,g2⟩
 have G2:=Hid.mk' (G1.out.trans g2)
 obtain ⟨c2_0,c2_1,c2_2,c2_3,c2_4,c2_5,c2_6,c2_7,c2_8,c2_9,c2_10,c2_11,c2_12⟩:=jL g2 c1_0 c1_1 c1_2 c1_3 c1_4 c1_5 c1_6 c1_7 c1_8 c1_9 c1_10 c1_11 c1_12
 clear c1_0 c1_1 c1_2 c1_3 c1_4 c1_5 c1_6 c1_7 c1_8 c1_9 c1_10 c1_11 c1_12
 cases h2:zU i
 ·go_wp2_with fail
  go_ret
  exact ⟨aM (by simp[aP,h2]),G2.out⟩
 go_wp2_with fail
 refine Calls.mono (fL 2 0 i m ai ao is.length ci es.length co _) ?_
 rintro e w3 ⟨rfl,g3⟩
 have G3:=Hid.mk' (G2.out.trans g3)
 go_wp2_with fail
 go_ret
 exact ⟨aM (by simp[aP,eU,h1,h2]),G3.out⟩
theorem aJq (s:Int)(i:It)(m:Mk)(is:List It)(es:List En)(vi vo:Value)(w:World)(hi:bH w vi is)(ho:bL w vo es):
  Calls prog 184 #[rv 3 s i m vi vo] w fun e w'=>e=.returned (.bool (aP ⟨3,s,i,m,is,es⟩))/\w.grownBy w' none:=by
 have HI:=Hid.mk' hi
 have HO:=Hid.mk' ho
 clear hi ho
 unfold rv
 obtain ⟨ai,ci,rfl,_⟩:=HI.out
 obtain ⟨ao,co,rfl,_⟩:=HO.out
 by_cases hs:¬s=0
 ·have hs':(s==0)=false:=by simp[hs]
  have E:aP ⟨3,s,i,m,is,es⟩=false:=by simp[aP,hs]
  rw[E]
  clear E hs
  go_enter func184,ntmps184
  go_wp2_with fail
  go_ret
  exact ⟨rfl,World.grownBy_alloc _ _ _⟩
 replace hs:s=0:=by omega
 subst hs
 go_enter func184,ntmps184
 go_wp2_with fail
 refine Calls.mono (jO i _) ?_
 rintro e w1 ⟨rfl,g1⟩
 have G1:=Hid.mk' ((World.grownBy_alloc w _ none).trans g1)
 obtain ⟨c1_0,c1_1,c1_2,c1_3,c1_4,c1_5,c1_6,c1_7,c1_8,c1_9,c1_10,c1_11,c1_12⟩:=oY g1
 cases h1:jM i
 ·go_wp2_with fail
  go_ret
  exact ⟨aM (by simp[aP,h1]),G1.out⟩
 go_wp2_with fail
 refine Calls.mono (fL 3 0 i m ai ao is.length ci es.length co _) ?_
 rintro e w2 ⟨rfl,g2⟩
 have G2:=Hid.mk' (G1.out.trans g2)
 go_wp2_with fail
 go_ret
 exact ⟨aM (by simp[aP,eU,h1]),G2.out⟩
theorem aJr (s:Int)(i:It)(m:Mk)(is:List It)(es:List En)(vi vo:Value)(w:World)(hi:bH w vi is)(ho:bL w vo es):
  Calls prog 184 #[rv 4 s i m vi vo] w fun e w'=>e=.returned (.bool (aP ⟨4,s,i,m,is,es⟩))/\w.grownBy w' none:=by
 have HI:=Hid.mk' hi
 have HO:=Hid.mk' ho
 clear hi ho
 unfold rv
 obtain ⟨ai,ci,rfl,_⟩:=HI.out
 obtain ⟨ao,co,rfl,_⟩:=HO.out
 by_cases hs:¬1<=s
 ·have hs':decide (1<=s)=false:=by simp;omega
  have E:aP ⟨4,s,i,m,is,es⟩=false:=by simp[aP,hs']
  rw[E]
  clear E hs
  go_enter func184,ntmps184
  go_wp2_with fail
  go_ret
  exact ⟨rfl,World.grownBy_alloc _ _ _⟩
 have hs':decide (1<=s)=true:=by simp;omega
 go_enter func184,ntmps184
 go_wp2_with fail
 refine Calls.mono (kQ s _) ?_
 rintro e w1 ⟨rfl,g1⟩
 have G1:=Hid.mk' ((World.grownBy_alloc w _ none).trans g1)
 obtain ⟨c1_0,c1_1,c1_2,c1_3,c1_4,c1_5,c1_6,c1_7,c1_8,c1_9,c1_10,c1_11,c1_12⟩:=oY g1
 cases h1:eE s
 ·go_wp2_with fail
  go_ret
  exact ⟨aM (by simp[aP,h1]),G1.out⟩
 go_wp2_with fail
 refine Calls.mono (iS i _) ?_
 rintro e w2 ⟨rfl,g2⟩
 have G2:=Hid.mk' (G1.out.trans g2)
 obtain ⟨c2_0,c2_1,c2_2,c2_3,c2_4,c2_5,c2_6,c2_7,c2_8,c2_9,c2_10,c2_11,c2_12⟩:=jL g2 c1_0 c1_1 c1_2 c1_3 c1_4 c1_5 c1_6 c1_7 c1_8 c1_9 c1_10 c1_11 c1_12
 clear c1_0 c1_1 c1_2 c1_3 c1_4 c1_5 c1_6 c1_7 c1_8 c1_9 c1_10 c1_11 c1_12
 cases h2:eF i
 ·go_wp2_with fail
  go_ret
  exact ⟨aM (by simp[aP,h2]),G2.out⟩
 go_wp2_with fail
 refine Calls.mono (fL 4 s i m ai ao is.length ci es.length co _) ?_
 rintro e w3 ⟨rfl,g3⟩
 have G3:=Hid.mk' (G2.out.trans g3)
 go_wp2_with fail
 go_ret
 exact ⟨aM (by simp[aP,eU,h1,h2,hs']),G3.out⟩
theorem aJs (s:Int)(i:It)(m:Mk)(is:List It)(es:List En)(vi vo:Value)(w:World)(hi:bH w vi is)(ho:bL w vo es):
  Calls prog 184 #[rv 7 s i m vi vo] w fun e w'=>e=.returned (.bool (aP ⟨7,s,i,m,is,es⟩))/\w.grownBy w' none:=by
 have HI:=Hid.mk' hi
 have HO:=Hid.mk' ho
 clear hi ho
 unfold rv
 obtain ⟨ai,ci,rfl,_⟩:=HI.out
 obtain ⟨ao,co,rfl,_⟩:=HO.out
 by_cases hs:¬1<=s
 ·have hs':decide (1<=s)=false:=by simp;omega
  have E:aP ⟨7,s,i,m,is,es⟩=false:=by simp[aP,hs']
  rw[E]
  clear E hs
  go_enter func184,ntmps184
  go_wp2_with fail
  go_ret
  exact ⟨rfl,World.grownBy_alloc _ _ _⟩
 have hs':decide (1<=s)=true:=by simp;omega
 go_enter func184,ntmps184
 go_wp2_with fail
 refine Calls.mono (kQ s _) ?_
 rintro e w1 ⟨rfl,g1⟩
 have G1:=Hid.mk' ((World.grownBy_alloc w _ none).trans g1)
 obtain ⟨c1_0,c1_1,c1_2,c1_3,c1_4,c1_5,c1_6,c1_7,c1_8,c1_9,c1_10,c1_11,c1_12⟩:=oY g1
 cases h1:eE s
 ·go_wp2_with fail
  go_ret
  exact ⟨aM (by simp[aP,h1]),G1.out⟩
 go_wp2_with fail
 refine Calls.mono (iS i _) ?_
 rintro e w2 ⟨rfl,g2⟩
 have G2:=Hid.mk' (G1.out.trans g2)
 obtain ⟨c2_0,c2_1,c2_2,c2_3,c2_4,c2_5,c2_6,c2_7,c2_8,c2_9,c2_10,c2_11,c2_12⟩:=jL g2 c1_0 c1_1 c1_2 c1_3 c1_4 c1_5 c1_6 c1_7 c1_8 c1_9 c1_10 c1_11 c1_12
 clear c1_0 c1_1 c1_2 c1_3 c1_4 c1_5 c1_6 c1_7 c1_8 c1_9 c1_10 c1_11 c1_12
 cases h2:eF i
 ·go_wp2_with fail
  go_ret
  exact ⟨aM (by simp[aP,h2]),G2.out⟩
 go_wp2_with fail
 refine Calls.mono (fL 7 s i m ai ao is.length ci es.length co _) ?_
 rintro e w3 ⟨rfl,g3⟩
 have G3:=Hid.mk' (G2.out.trans g3)
 go_wp2_with fail
 go_ret
 exact ⟨aM (by simp[aP,eU,h1,h2,hs']),G3.out⟩
theorem aJt (s:Int)(i:It)(m:Mk)(is:List It)(es:List En)(vi vo:Value)(w:World)(hi:bH w vi is)(ho:bL w vo es):
  Calls prog 184 #[rv 5 s i m vi vo] w fun e w'=>e=.returned (.bool (aP ⟨5,s,i,m,is,es⟩))/\w.grownBy w' none:=by
 have HI:=Hid.mk' hi
 have HO:=Hid.mk' ho
 clear hi ho
 unfold rv
 obtain ⟨ai,ci,rfl,_⟩:=HI.out
 obtain ⟨ao,co,rfl,_⟩:=HO.out
 go_enter func184,ntmps184
 go_wp2_with fail
 refine Calls.mono (kQ s _) ?_
 rintro e w1 ⟨rfl,g1⟩
 have G1:=Hid.mk' ((World.grownBy_alloc w _ none).trans g1)
 obtain ⟨c1_0,c1_1,c1_2,c1_3,c1_4,c1_5,c1_6,c1_7,c1_8,c1_9,c1_10,c1_11,c1_12⟩:=oY g1
 cases h1:eE s
 ·go_wp2_with fail
  go_ret
  exact ⟨aM (by simp[aP,h1]),G1.out⟩
 go_wp2_with fail
 refine Calls.mono (jO i _) ?_
 rintro e w2 ⟨rfl,g2⟩
 have G2:=Hid.mk' (G1.out.trans g2)
 obtain ⟨c2_0,c2_1,c2_2,c2_3,c2_4,c2_5,c2_6,c2_7,c2_8,c2_9,c2_10,c2_11,c2_12⟩:=jL g2 c1_0 c1_1 c1_2 c1_3 c1_4 c1_5 c1_6 c1_7 c1_8 c1_9 c1_10 c1_11 c1_12
 clear c1_0 c1_1 c1_2 c1_3 c1_4 c1_5 c1_6 c1_7 c1_8 c1_9 c1_10 c1_11 c1_12
 cases h2:jM i
 ·go_wp2_with fail
  go_ret
  exact ⟨aM (by simp[aP,h2]),G2.out⟩
 go_wp2_with fail
 refine Calls.mono (fL 5 s i m ai ao is.length ci es.length co _) ?_
 rintro e w3 ⟨rfl,g3⟩
 have G3:=Hid.mk' (G2.out.trans g3)
 go_wp2_with fail
 go_ret
 exact ⟨aM (by simp[aP,eU,h1,h2]),G3.out⟩
theorem aJu (s:Int)(i:It)(m:Mk)(is:List It)(es:List En)(vi vo:Value)(w:World)(hi:bH w vi is)(ho:bL w vo es):
  Calls prog 184 #[rv 8 s i m vi vo] w fun e w'=>e=.returned (.bool (aP ⟨8,s,i,m,is,es⟩))/\w.grownBy w' none:=by
 have HI:=Hid.mk' hi
 have HO:=Hid.mk' ho
 clear hi ho
 unfold rv
 obtain ⟨ai,ci,rfl,_⟩:=HI.out
 obtain ⟨ao,co,rfl,_⟩:=HO.out
 go_enter func184,ntmps184
 go_wp2_with fail
 refine Calls.mono (kQ s _) ?_
 rintro e w1 ⟨rfl,g1⟩
 have G1:=Hid.mk' ((World.grownBy_alloc w _ none).trans g1)
 obtain ⟨c1_0,c1_1,c1_2,c1_3,c1_4,c1_5,c1_6,c1_7,c1_8,c1_9,c1_10,c1_11,c1_12⟩:=oY g1
 cases h1:eE s
 ·go_wp2_with fail
  go_ret
  exact ⟨aM (by simp[aP,h1]),G1.out⟩
 go_wp2_with fail
 refine Calls.mono (jO i _) ?_
 rintro e w2 ⟨rfl,g2⟩
 have G2:=Hid.mk' (G1.out.trans g2)
 obtain ⟨c2_0,c2_1,c2_2,c2_3,c2_4,c2_5,c2_6,c2_7,c2_8,c2_9,c2_10,c2_11,c2_12⟩:=jL g2 c1_0 c1_1 c1_2 c1_3 c1_4 c1_5 c1_6 c1_7 c1_8 c1_9 c1_10 c1_11 c1_12
 clear c1_0 c1_1 c1_2 c1_3 c1_4 c1_5 c1_6 c1_7 c1_8 c1_9 c1_10 c1_11 c1_12
 cases h2:jM i
 ·go_wp2_with fail
  go_ret
  exact ⟨aM (by simp[aP,h2]),G2.out⟩
 go_wp2_with fail
 refine Calls.mono (fL 8 s i m ai ao is.length ci es.length co _) ?_
 rintro e w3 ⟨rfl,g3⟩
 have G3:=Hid.mk' (G2.out.trans g3)
 go_wp2_with fail
 go_ret
 exact ⟨aM (by simp[aP,eU,h1,h2]),G3.out⟩
theorem aJv (s:Int)(i:It)(m:Mk)(is:List It)(es:List En)(vi vo:Value)(w:World)(hi:bH w vi is)(ho:bL w vo es):
  Calls prog 184 #[rv 6 s i m vi vo] w fun e w'=>e=.returned (.bool (aP ⟨6,s,i,m,is,es⟩))/\w.grownBy w' none:=by
 have HI:=Hid.mk' hi
 have HO:=Hid.mk' ho
 clear hi ho
 unfold rv
 obtain ⟨ai,ci,rfl,_⟩:=HI.out
 obtain ⟨ao,co,rfl,_⟩:=HO.out
 by_cases hs:¬s=0
 ·have hs':(s==0)=false:=by simp[hs]
  have E:aP ⟨6,s,i,m,is,es⟩=false:=by simp[aP,hs]
  rw[E]
  clear E hs
  go_enter func184,ntmps184
  go_wp2_with fail
  go_ret
  exact ⟨rfl,World.grownBy_alloc _ _ _⟩
 replace hs:s=0:=by omega
 subst hs
 go_enter func184,ntmps184
 go_wp2_with fail
 refine Calls.mono (jO i _) ?_
 rintro e w1 ⟨rfl,g1⟩
 have G1:=Hid.mk' ((World.grownBy_alloc w _ none).trans g1)
 obtain ⟨c1_0,c1_1,c1_2,c1_3,c1_4,c1_5,c1_6,c1_7,c1_8,c1_9,c1_10,c1_11,c1_12⟩:=oY g1
 cases h1:jM i
 ·go_wp2_with fail
  go_ret
  exact ⟨aM (by simp[aP,h1]),G1.out⟩
 go_wp2_with fail
 refine Calls.mono (wU ⟨6,0,i,m,is,es⟩ _ _ _ (HI.out.grown G1.out) (HO.out.grown G1.out)) ?_
 rintro e w2 ⟨rfl,g2⟩
 have G2:=Hid.mk' (G1.out.trans g2)
 go_wp2_with fail
 go_ret
 exact ⟨aM (by simp[aP,h1]),G2.out⟩
theorem aCt (K s:Int)(i:It)(m:Mk)(is:List It)(es:List En)(ai ao:Option Addr)(ni ci no co:Nat)(w:World)(hk:K<1∨8<K):
  Calls prog 184 #[rv K s i m (.slice ai ni ci) (.slice ao no co)] w fun e w'=>e=.returned (.bool (aP ⟨K,s,i,m,is,es⟩))/\w.grownBy w' none:=by
 have E:aP ⟨K,s,i,m,is,es⟩=false:=by
  unfold aP
  rw[if_neg (by simp;omega),if_neg (by simp;omega),if_neg (by simp;omega),if_neg (by simp;omega),if_neg (by simp;omega),if_neg (by simp;omega)]
 rw[E]
 clear E
 have k1:(K==1)=false:=by simp;omega
 have k2:(K==2)=false:=by simp;omega
 have k3:(K==3)=false:=by simp;omega
 have k4:(K==4)=false:=by simp;omega
 have k5:(K==5)=false:=by simp;omega
 have k6:(K==6)=false:=by simp;omega
 have k7:(K==7)=false:=by simp;omega
 have k8:(K==8)=false:=by simp;omega
 clear hk
 unfold rv
 go_enter func184,ntmps184
 go_wp2_with fail
 go_ret
 exact ⟨rfl,World.grownBy_alloc _ _ _⟩
theorem aBv (r:Rc)(vi vo:Value)(w:World)(hi:bH w vi r.items)(ho:bL w vo r.outs):
  Calls prog 184 #[rv r.kind r.seq r.it r.mks vi vo] w fun e w'=>e=.returned (.bool (aP r))/\w.grownBy w' none:=by
 obtain ⟨K,s,i,m,is,es⟩:=r
 by_cases hk:K<1∨8<K
 ·obtain ⟨ai,ci,rfl,_⟩:=hi
  obtain ⟨ao,co,rfl,_⟩:=ho
  exact aCt K s i m is es ai ao _ ci _ co w hk
 ·have:K=1∨K=2∨K=3∨K=4∨K=5∨K=6∨K=7∨K=8:=by omega
  rcases this with rfl | rfl | rfl | rfl | rfl | rfl | rfl | rfl
  ·exact aJo s i m is es vi vo w hi ho
  ·exact aJp s i m is es vi vo w hi ho
  ·exact aJq s i m is es vi vo w hi ho
  ·exact aJr s i m is es vi vo w hi ho
  ·exact aJt s i m is es vi vo w hi ho
  ·exact aJv s i m is es vi vo w hi ho
  ·exact aJs s i m is es vi vo w hi ho
  ·exact aJu s i m is es vi vo w hi ho
def uO (x:Nat):Prop:=FloatKind.f32.format.order x x=some .eq
structure Fine (i:It):Prop where
 p:uO i.pl
 s:uO i.sp
theorem qW {x:Nat}(h:aS x=true):uO x:=by
 unfold uO
 simp only[aS,Bool.and_eq_true,Bool.or_eq_true,beq_iff_eq] at h
 obtain ⟨h,_⟩:=h
 simp only[Ieee.Format.order] at h ⊢
 generalize Ieee.Format.read FloatKind.f32.format x=d at *
 cases d with
 | nan s f=>generalize Ieee.Format.read FloatKind.f32.format 3296329728=c at *;cases c<;>simp[Ieee.Datum.order] at h
 | infinity s=>simp[Ieee.Datum.order]
 | number s m e=>simp[Ieee.Datum.order]
theorem aBw {i:It}(h:eF i=true):Fine i:=by
 simp only[eF,Bool.and_eq_true] at h
 exact ⟨qW h.1.2,qW h.2⟩
theorem iD (d:Nat)(a b:Nat)(w:World):(Op.equalIn (d+1) 33 (.float .f32 a) (.float .f32 b)).run prog w=.ok (FloatKind.f32.format.order a b==some .eq) w:=by
 simp[Op.equalIn,run_underlying underlying33,Op.floatEq]
theorem wV (is:List It)(g off c g' off' c':Nat)(w:World)(hpos:0<is.length)(hmx:is.length<=1000000)(hF:∀i∈is,Fine i)
  (hc:∀j u,(is.flatMap It.cells)[j]?=some u->w.cell? ⟨g,off+j,none⟩=some u) (hc':∀j u,(is.flatMap It.cells)[j]?=some u->w.cell? ⟨g',off'+j,none⟩=some u):
  Calls prog 19 #[.slice (some ⟨g,off,none⟩) is.length c,.slice (some ⟨g',off',none⟩) is.length c'] w fun e w'=>e=.returned (.bool true)/\w.grownBy w' none:=by
 obtain ⟨n,hL⟩:∃n,is.length=n:=⟨_,rfl⟩
 rw[hL] at hmx hpos ⊢
 have HL:Hid (is.length=n):=hL
 clear hL
 have HC:=Hid.mk' hc
 have HC':=Hid.mk' hc'
 have HF:=Hid.mk' hF
 clear hc hc' hF
 have hq:=iD
 have hnn:((n:Int) !=(n:Int))=false:=by simp
 go_enter func19,ntmps19
 go_wp2
 go_loopw [5] (fun i wr=>∃k:Nat,k<=n/\i=.int .i64 k/\w.grownBy wr none) (fun i _=>n -(intOf i).toNat)
 case atStart=>exact ⟨0,by omega,rfl,aD _ _⟩
 case round=>
  obtain ⟨k,hk,rfl,gk⟩:=hrel
  by_cases hlt:k<n
  ·have hkl:k<is.length:=by rw[HL.out];exact hlt
   obtain ⟨i,hi⟩:∃i,is[k]=i:=⟨_,rfl⟩
   have d:∀j (hj:j<4) u,i.cells[j]?=some u->wr.cell? ⟨g,off+k * 4+j,none⟩=some u:=fun j hj u hu=>by
    have:=HC.out (4 * k+j) u (by rw[cQ is k j hkl hj,hi];exact hu)
    rw[show off+(4 * k+j)=off+k * 4+j by omega] at this
    exact gk.cell this (by simp)
   have d':∀j (hj:j<4) u,i.cells[j]?=some u->wr.cell? ⟨g',off'+k * 4+j,none⟩=some u:=fun j hj u hu=>by
    have:=HC'.out (4 * k+j) u (by rw[cQ is k j hkl hj,hi];exact hu)
    rw[show off'+(4 * k+j)=off'+k * 4+j by omega] at this
    exact gk.cell this (by simp)
   have d0:=d 0 (by omega) _ rfl
   have d1:=d 1 (by omega) _ rfl
   have d2:=d 2 (by omega) _ rfl
   have d3:=d 3 (by omega) _ rfl
   have e0:=d' 0 (by omega) _ rfl
   have e1:=d' 1 (by omega) _ rfl
   have e2:=d' 2 (by omega) _ rfl
   have e3:=d' 3 (by omega) _ rfl
   have hf:=HF.out i (by rw[<- hi];exact List.getElem_mem hkl)
   have f1:FloatKind.f32.format.order i.pl i.pl=some .eq:=hf.p
   have f2:FloatKind.f32.format.order i.sp i.sp=some .eq:=hf.s
   clear d d' hi hf
   rw[Nat.add_zero] at d0 e0
   have y0:(0:Int)<=(k:Int):=by omega
   have y1:(k:Int)<(n:Int):=by omega
   go_wp2_with fail
   go_quiet (fail)
   go_wp2
   exact ⟨⟨k+1,by omega,by go_num,aL gk nq⟩,by simp[intOf];omega⟩
  ·go_wp2
   go_ret
   exact ⟨rfl,gk⟩
theorem sS (is:List En)(g off c g' off' c':Nat)(w:World)(hpos:0<is.length)(hmx:is.length<=1000000)(hF:∀i∈is,Fine i.it)
  (hc:∀j u,(is.flatMap En.cells)[j]?=some u->w.cell? ⟨g,off+j,none⟩=some u) (hc':∀j u,(is.flatMap En.cells)[j]?=some u->w.cell? ⟨g',off'+j,none⟩=some u):
  Calls prog 20 #[.slice (some ⟨g,off,none⟩) is.length c,.slice (some ⟨g',off',none⟩) is.length c'] w fun e w'=>e=.returned (.bool true)/\w.grownBy w' none:=by
 obtain ⟨n,hL⟩:∃n,is.length=n:=⟨_,rfl⟩
 rw[hL] at hmx hpos ⊢
 have HL:Hid (is.length=n):=hL
 clear hL
 have HC:=Hid.mk' hc
 have HC':=Hid.mk' hc'
 have HF:=Hid.mk' hF
 clear hc hc' hF
 have hq:=iD
 have hnn:((n:Int) !=(n:Int))=false:=by simp
 go_enter func20,ntmps20
 go_wp2
 go_loopw [5] (fun i wr=>∃k:Nat,k<=n/\i=.int .i64 k/\w.grownBy wr none) (fun i _=>n -(intOf i).toNat)
 case atStart=>exact ⟨0,by omega,rfl,aD _ _⟩
 case round=>
  obtain ⟨k,hk,rfl,gk⟩:=hrel
  by_cases hlt:k<n
  ·have hkl:k<is.length:=by rw[HL.out];exact hlt
   obtain ⟨i,hi⟩:∃i,is[k]=i:=⟨_,rfl⟩
   have d:∀j (hj:j<5) u,i.cells[j]?=some u->wr.cell? ⟨g,off+k * 5+j,none⟩=some u:=fun j hj u hu=>by
    have:=HC.out (5 * k+j) u (by rw[dY is k j hkl hj,hi];exact hu)
    rw[show off+(5 * k+j)=off+k * 5+j by omega] at this
    exact gk.cell this (by simp)
   have d':∀j (hj:j<5) u,i.cells[j]?=some u->wr.cell? ⟨g',off'+k * 5+j,none⟩=some u:=fun j hj u hu=>by
    have:=HC'.out (5 * k+j) u (by rw[dY is k j hkl hj,hi];exact hu)
    rw[show off'+(5 * k+j)=off'+k * 5+j by omega] at this
    exact gk.cell this (by simp)
   have d0:=d 0 (by omega) _ rfl
   have d1:=d 1 (by omega) _ rfl
   have d2:=d 2 (by omega) _ rfl
   have d3:=d 3 (by omega) _ rfl
   have d4:=d 4 (by omega) _ rfl
   have e0:=d' 0 (by omega) _ rfl
   have e1:=d' 1 (by omega) _ rfl
   have e2:=d' 2 (by omega) _ rfl
   have e3:=d' 3 (by omega) _ rfl
   have e4:=d' 4 (by omega) _ rfl
   have hf:=HF.out i (by rw[<- hi];exact List.getElem_mem hkl)
   have f1:FloatKind.f32.format.order i.it.pl i.it.pl=some .eq:=hf.p
   have f2:FloatKind.f32.format.order i.it.sp i.it.sp=some .eq:=hf.s
   clear d d' hi hf
   rw[Nat.add_zero] at d0 e0
   have y0:(0:Int)<=(k:Int):=by omega
   have y1:(k:Int)<(n:Int):=by omega
   go_wp2_with fail
   go_quiet (fail)
   go_wp2
   exact ⟨⟨k+1,by omega,by go_num,aL gk nq⟩,by simp[intOf];omega⟩
  ·go_wp2
   go_ret
   exact ⟨rfl,gk⟩
theorem sT (va vb:Value)(is:List It)(w:World)(ha:bH w va is)(hb:bH w vb is)(hmx:is.length<=1000000)(hF:∀i∈is,Fine i):
  Calls prog 19 #[va,vb] w fun e w'=>e=.returned (.bool true)/\w.grownBy w' none:=by
 obtain ⟨a,c,rfl,hx⟩:=ha
 obtain ⟨a',c',rfl,hx'⟩:=hb
 by_cases hp:0<is.length
 ·obtain ⟨g,off,rfl,hc⟩:=hx hp
  obtain ⟨g',off',rfl,hc'⟩:=hx' hp
  exact wV is g off c g' off' c' w hp hmx hF hc hc'
 ·have e0:is=[]:=List.eq_nil_of_length_eq_zero (by omega)
  subst e0
  clear hx hx' hp hmx hF
  show Calls prog 19 #[.slice a 0 c,.slice a' 0 c'] w _
  go_enter func19,ntmps19
  go_wp2
  refine wp_loop_rounds 1 ?_
  rw[rounds_succ]
  go_wp2
  go_ret
  exact ⟨rfl,aD _ _⟩
theorem qE (va vb:Value)(is:List En)(w:World)(ha:bL w va is)(hb:bL w vb is)(hmx:is.length<=1000000)(hF:∀i∈is,Fine i.it):
  Calls prog 20 #[va,vb] w fun e w'=>e=.returned (.bool true)/\w.grownBy w' none:=by
 obtain ⟨a,c,rfl,hx⟩:=ha
 obtain ⟨a',c',rfl,hx'⟩:=hb
 by_cases hp:0<is.length
 ·obtain ⟨g,off,rfl,hc⟩:=hx hp
  obtain ⟨g',off',rfl,hc'⟩:=hx' hp
  exact sS is g off c g' off' c' w hp hmx hF hc hc'
 ·have e0:is=[]:=List.eq_nil_of_length_eq_zero (by omega)
  subst e0
  clear hx hx' hp hmx hF
  show Calls prog 20 #[.slice a 0 c,.slice a' 0 c'] w _
  go_enter func20,ntmps20
  go_wp2
  refine wp_loop_rounds 1 ?_
  rw[rounds_succ]
  go_wp2
  go_ret
  exact ⟨rfl,aD _ _⟩
end Go.Proofs.YtammnaafdhhjaaaGreat
