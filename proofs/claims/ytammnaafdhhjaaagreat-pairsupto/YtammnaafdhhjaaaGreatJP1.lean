import Derived.Deep.RegionLawGrows
import Derived.Test.YtammnaafdhhjaaaGreatJW6
set_option maxHeartbeats 16000000
set_option maxRecDepth 100000
namespace Go.Proofs.YtammnaafdhhjaaaGreat
open Go.RowKit Go.Proofs.Tryz
def n4 (n:Nat):List UInt8:=[u8 (n / 16777216),u8 (n / 65536 % 256),u8 (n / 256 % 256),u8 (n % 256)]
theorem dK (W:World)(l:List UInt8)(n:Nat)(hn:W.heap.size=n)(vs:Array Value)(h:vs=(l.map qI).toArray):∀j u,(l.map qI)[j]?=some u->(W.alloc (.cells vs 5)).cell? ((⟨n,0,none⟩:Addr).add j)=some u:=by
 subst h;exact aW W _ _ n hn
theorem nZ (B:Nat)(v:Value)(l:List UInt8)(n:Nat)(w:World)(hown:Own B w v l)(hB:B<=w.heap.size)(hl:l.length<=900000)(h1:n<4294967296):
  Calls prog 229 #[v,.float .f32 n] w fun e w'=>∃v',e=.returned v'/\Put B w w' v v' (l++n4 n):=by
 have HO:Hid (Own B w v l):=hown
 clear hown
 have hb:=pQ
 have h0:(0:Int)<=(n:Int):=by omega
 have h2:(n:Int)<=4294967295:=by omega
 have E:Hid (#[.int .u8 ((n:Int) / 16777216),.int .u8 ((n:Int) / 65536 % 256),.int .u8 ((n:Int) / 256 % 256),.int .u8 ((n:Int) % 256)]=((n4 n).map qI).toArray):=by
  show _=_
  simp only[n4,List.map_cons,List.map_nil]
  rw[gJ _ (by omega) (by omega),gJ _ (by omega) (by omega),gJ _ (by omega) (by omega),gJ _ (by omega) (by omega)]
 go_enter func229,ntmps229
 go_wp2_with (at_builtin;refine eM rfl _ _ rfl B _ l rfl (HO.out.alloc _) ⟨w.heap.size,0,none⟩ 4 4 (n4 n) rfl rfl ?c1 ?c2 ?c3 ?c4)
 case c1=>exact dK w (n4 n) _ rfl _ E.out
 case c2=>omega
 case c3=>simp;omega
 case c4=>
  intro v' w' hp
  go_wp2
  go_ret
  exact ⟨_,rfl,hp.pre (World.grownBy_alloc _ _ _)⟩
theorem Put.keep {B:Nat}{w w':World}{v v':Value}{l:List UInt8}(hp:Put B w w' v v' l){k o:Nat}{u:Value}(h:w.cell? ⟨k,o,none⟩=some u)(hk:v.ownBlock≠some k):w'.cell? ⟨k,o,none⟩=some u:=
 hp.g.cell h (fun e=>hk e.symm)
theorem Own.fresh {B:Nat}{w:World}{v:Value}{l:List UInt8}(h:Own B w v l){k:Nat}(hk:w.heap.size<=k):v.ownBlock≠some k:=fun e=>by have:=(h.lt k e).2;omega
theorem Put.far {B:Nat}{w w':World}{v v':Value}{l:List UInt8}(hp:Put B w w' v v' l){k:Nat}(hk:v.ownBlock≠some k)(hlt:k<w.heap.size):v'.ownBlock≠some k:=by
 rcases hp.at_ with e | ⟨j,e,hj⟩
 ·rw[e];exact hk
 ·rw[e];intro h;injection h with h;omega
theorem aCu {ops:Array Oper}{o:Oper}{a:Act}{w:World}{K:Act->World->Prop}{Q:Exit->Act->World->Prop}{E:Prop}
  (hg:o.guard=none) (s x:Operand) (ho:o.op=.call {callee:=.builtin .append,args:=#[s,x],argTypes:=#[173,173]})
  (B:Nat) (v:Value) (l:List UInt8) (hs:a.eval s=v) (hown:Own B w v l) (ad:Addr) (m c:Nat) (news:List UInt8) (hx:a.eval x=.slice (some ad) m c) (hm:news.length=m)
  (hnews:∀j u,(news.map qI)[j]?=some u->w.cell? (ad.add j)=some u) (hl:l.length+m<=1000000) (hB:B<=w.heap.size)
  (hK:∀v' w',Put B w w' v v' (l++news)->K (a.put o.dst v') w'):
  if Region.wanted o (yielded ops a.tmps)=true then Oper.wp prog o a w K Q else E:=by
 have hw:Region.wanted o (yielded ops a.tmps)=true:=by simp[Region.wanted,hg]
 rw[if_pos hw]
 obtain ⟨i0,hi,hz0,hz1,hz2⟩:=Tryz.info5'
 obtain ⟨v',w',hr,h2,h3,_,h5⟩:=run_append_own_at (P:=prog) w B 173 o.type 5 i0 (.int .u8 0) 1 1 underlying173 hi hz0 hz1 hz2 rfl (by decide) v l.length (l.map qI) hown ad m c (news.map qI) (by simp[hm]) hnews
  (by intro u hu;obtain ⟨y,_,rfl⟩:=List.mem_map.1 hu;rfl) (by unfold maxLen;omega) (by omega) hB
 unfold Oper.wp execOp
 simp only[ho,resolve,invoke,builtin,Sem.run_bind,Sem.run_pure,Result.andThen_ok,List.map_toArray,List.map_cons,List.map_nil,hs,hx,hr]
 refine hK v' w' ⟨?_,h3,?_⟩
 ·unfold Own;rw[List.length_append,hm,List.map_append];exact h2
 ·rcases h5 with e | e
  ·exact .inl e
  ·exact .inr ⟨_,e,Nat.le_refl _⟩
theorem qX (B:Nat)(v:Value)(l:List UInt8)(n:Int)(w:World)(hown:Own B w v l)(hB:B<=w.heap.size)(hl:l.length<=900000)(h1:0<=n)(h2:n<=65535)(k o p:Nat)(x y:Value)(hx:w.cell? ⟨k,o,none⟩=some x)(hy:w.cell? ⟨k,p,none⟩=some y)(hk:v.ownBlock≠some k):
  Calls prog 186 #[v,.int .i64 n] w fun e w'=>∃v',e=.returned v'/\Put B w w' v v' (l++n2 n)/\w'.cell? ⟨k,o,none⟩=some x/\w'.cell? ⟨k,p,none⟩=some y:=by
 refine (bS B v l n w hown hB hl h1 h2).mono ?_
 rintro e w' ⟨v',he,hp⟩
 exact ⟨v',he,hp,hp.keep hx hk,hp.keep hy hk⟩
theorem tL (B:Nat)(v:Value)(l:List UInt8)(s n:Int)(w:World)(hown:Own B w v l)(hB:B<=w.heap.size)(hl:l.length<=800000)(h0:0<=s)(h1:s<=255)(h2:0<=n)(h3:n<=65535):
  Calls prog 210 #[v,.agg #[.int .i64 s,.int .i64 n]] w fun e w'=>∃v',e=.returned v'/\Put B w w' v v' (l++[u8 s]++n2 n):=by
 have HO:Hid (Own B w v l):=hown
 clear hown
 have E:Hid (#[.int .u8 s]=(([u8 s]).map qI).toArray):=by
  show _=_
  simp only[List.map_cons,List.map_nil]
  rw[gJ _ (by omega) (by omega)]
 have hf:=Hid.mk' (HO.out.fresh (Nat.le_refl _))
 have hw8:IntKind.u8.wrap s=s:=by rw[IntKind.wrap_u8'];omega
 go_enter func210,ntmps210
 go_wp2_with fail
 go_region_held3 (fun w'=>w'.cell? ⟨w.heap.size,0,none⟩=some (.int .i64 s)/\w'.cell? ⟨w.heap.size,1,none⟩=some (.int .i64 n)) (go_keep)
  (first | (refine aCu rfl _ _ rfl B v l rfl ((HO.out.alloc _).alloc _) ⟨w.heap.size+1,0,none⟩ 1 1 [u8 s] rfl rfl (dK _ [u8 s] _ (by simp) _ E.out) (by omega) (by simp;omega) ?_;intro v1 w1 p1;have k0:w1.cell? ⟨w.heap.size,0,none⟩=some (.int .i64 s):=p1.keep (by go_simp) hf.out;have k1:w1.cell? ⟨w.heap.size,1,none⟩=some (.int .i64 n):=p1.keep (by go_simp) hf.out) | (go_at_call 186;refine Calls.mono (qX B v1 (l++[u8 s]) n w1 p1.own ?_ ?_ h2 h3 w.heap.size 0 1 (.int .i64 s) (.int .i64 n) k0 k1 ?_) ?_;(have:=p1.g.size;simp at this;omega);(simp;omega);(exact p1.far hf.out (by simp;omega));rintro e w2 ⟨v2,rfl,p2,q0,q1⟩))
 go_wp2
 go_ret
 exact ⟨_,rfl,(p1.pre (aA (aG (World.grownBy_alloc _ _ _) _))).trans p2⟩
end Go.Proofs.YtammnaafdhhjaaaGreat
namespace Go.Proofs.YtammnaafdhhjaaaGreat
open Go.RowKit Go.Proofs.Tryz
def gZ (i:It):List UInt8:=[u8 i.sh]++n2 i.nu++n4 i.pl++n4 i.sp
def tM (m:Mk):List UInt8:=n2 m.g++n2 m.m++n2 m.s++n2 m.a++n2 m.n
def lJ (e:En):List UInt8:=n2 e.sq++gZ e.it
structure ItOk (i:It):Prop where
 a:0<=i.sh
 b:i.sh<=255
 c:0<=i.nu
 d:i.nu<=65535
 p:i.pl<4294967296
 s:i.sp<4294967296
structure MkOk (m:Mk):Prop where
 g0:0<=m.g
 g1:m.g<=65535
 m0:0<=m.m
 m1:m.m<=65535
 s0:0<=m.s
 s1:m.s<=65535
 a0:0<=m.a
 a1:m.a<=65535
 n0:0<=m.n
 n1:m.n<=65535
structure EnOk (e:En):Prop where
 a:0<=e.sq
 b:e.sq<=65535
 i:ItOk e.it
theorem dZ (n:Int):(n2 n).length=2:=rfl
theorem aIK (n:Nat):(n4 n).length=4:=rfl
theorem eV (i:It):(gZ i).length=11:=rfl
theorem uP (m:Mk):(tM m).length=10:=rfl
theorem aGZ (e:En):(lJ e).length=13:=rfl
theorem fW (B:Nat)(v:Value)(l:List UInt8)(i:It)(w:World)(hown:Own B w v l)(hB:B<=w.heap.size)(hl:l.length<=700000)(hi:ItOk i):
  Calls prog 209 #[v,.agg #[.int .i64 i.sh,.int .i64 i.nu,.float .f32 i.pl,.float .f32 i.sp]] w fun e w'=>∃v',e=.returned v'/\Put B w w' v v' (l++gZ i):=by
 have HO:Hid (Own B w v l):=hown
 clear hown
 have hf:=Hid.mk' (HO.out.fresh (Nat.le_refl _))
 go_enter func209,ntmps209
 go_wp2_with fail
 refine Calls.mono (tL B v (l) i.sh i.nu _ (HO.out.alloc _) (by simp;omega) (by omega) hi.a hi.b hi.c hi.d) ?_
 rintro e w1 ⟨v1,rfl,p1⟩
 have y1:B<=w1.heap.size:=by have:=p1.g.size;simp at this;omega
 have f1:=Hid.mk' (p1.far hf.out (by simp))
 have s1:w.heap.size<w1.heap.size:=by have:=p1.g.size;simp at this;omega
 have c1_2:w1.cell? ⟨w.heap.size,2,none⟩=some (.float .f32 i.pl):=p1.keep (by go_simp) hf.out
 have c1_3:w1.cell? ⟨w.heap.size,3,none⟩=some (.float .f32 i.sp):=p1.keep (by go_simp) hf.out
 go_wp2_with fail
 refine Calls.mono (nZ B v1 (l++[u8 i.sh]++n2 i.nu) i.pl _ (p1.own) y1 (by simp only[List.length_append,dZ,List.length_cons,List.length_nil];omega) hi.p) ?_
 rintro e w2 ⟨v2,rfl,p2⟩
 have y2:B<=w2.heap.size:=by have:=p2.g.size;omega
 have f2:=Hid.mk' (p2.far f1.out s1)
 have s2:w.heap.size<w2.heap.size:=by have:=p2.g.size;omega
 have c2_3:w2.cell? ⟨w.heap.size,3,none⟩=some (.float .f32 i.sp):=p2.keep (by go_simp) f1.out
 go_wp2_with fail
 refine Calls.mono (nZ B v2 (l++[u8 i.sh]++n2 i.nu++n4 i.pl) i.sp _ (p2.own) y2 (by simp only[List.length_append,dZ,aIK,List.length_cons,List.length_nil];omega) hi.s) ?_
 rintro e w3 ⟨v3,rfl,p3⟩
 have y3:B<=w3.heap.size:=by have:=p3.g.size;omega
 go_wp2_with fail
 go_ret
 refine ⟨v3,rfl,?_⟩
 have P:=(((p1.pre (World.grownBy_alloc _ _ _)).trans p2).trans p3)
 simp only[List.append_assoc] at P
 simpa only[gZ,List.append_assoc] using P
theorem uQ (B:Nat)(v:Value)(l:List UInt8)(m:Mk)(w:World)(hown:Own B w v l)(hB:B<=w.heap.size)(hl:l.length<=700000)(hm:MkOk m):
  Calls prog 211 #[v,.agg #[.int .i64 m.g,.int .i64 m.m,.int .i64 m.s,.int .i64 m.a,.int .i64 m.n]] w fun e w'=>∃v',e=.returned v'/\Put B w w' v v' (l++tM m):=by
 have HO:Hid (Own B w v l):=hown
 clear hown
 have hf:=Hid.mk' (HO.out.fresh (Nat.le_refl _))
 go_enter func211,ntmps211
 go_wp2_with fail
 refine Calls.mono (bS B v (l) m.g _ (HO.out.alloc _) (by simp;omega) (by omega) hm.g0 hm.g1) ?_
 rintro e w1 ⟨v1,rfl,p1⟩
 have y1:B<=w1.heap.size:=by have:=p1.g.size;simp at this;omega
 have f1:=Hid.mk' (p1.far hf.out (by simp))
 have s1:w.heap.size<w1.heap.size:=by have:=p1.g.size;simp at this;omega
 have c1_1:w1.cell? ⟨w.heap.size,1,none⟩=some (.int .i64 m.m):=p1.keep (by go_simp) hf.out
 have c1_2:w1.cell? ⟨w.heap.size,2,none⟩=some (.int .i64 m.s):=p1.keep (by go_simp) hf.out
 have c1_3:w1.cell? ⟨w.heap.size,3,none⟩=some (.int .i64 m.a):=p1.keep (by go_simp) hf.out
 have c1_4:w1.cell? ⟨w.heap.size,4,none⟩=some (.int .i64 m.n):=p1.keep (by go_simp) hf.out
 go_wp2_with fail
 refine Calls.mono (bS B v1 (l++n2 m.g) m.m _ (p1.own) y1 (by simp only[List.length_append,dZ];omega) hm.m0 hm.m1) ?_
 rintro e w2 ⟨v2,rfl,p2⟩
 have y2:B<=w2.heap.size:=by have:=p2.g.size;omega
 have f2:=Hid.mk' (p2.far f1.out s1)
 have s2:w.heap.size<w2.heap.size:=by have:=p2.g.size;omega
 have c2_2:w2.cell? ⟨w.heap.size,2,none⟩=some (.int .i64 m.s):=p2.keep (by go_simp) f1.out
 have c2_3:w2.cell? ⟨w.heap.size,3,none⟩=some (.int .i64 m.a):=p2.keep (by go_simp) f1.out
 have c2_4:w2.cell? ⟨w.heap.size,4,none⟩=some (.int .i64 m.n):=p2.keep (by go_simp) f1.out
 go_wp2_with fail
 refine Calls.mono (bS B v2 (l++n2 m.g++n2 m.m) m.s _ (p2.own) y2 (by simp only[List.length_append,dZ];omega) hm.s0 hm.s1) ?_
 rintro e w3 ⟨v3,rfl,p3⟩
 have y3:B<=w3.heap.size:=by have:=p3.g.size;omega
 have f3:=Hid.mk' (p3.far f2.out s2)
 have s3:w.heap.size<w3.heap.size:=by have:=p3.g.size;omega
 have c3_3:w3.cell? ⟨w.heap.size,3,none⟩=some (.int .i64 m.a):=p3.keep (by go_simp) f2.out
 have c3_4:w3.cell? ⟨w.heap.size,4,none⟩=some (.int .i64 m.n):=p3.keep (by go_simp) f2.out
 go_wp2_with fail
 refine Calls.mono (bS B v3 (l++n2 m.g++n2 m.m++n2 m.s) m.a _ (p3.own) y3 (by simp only[List.length_append,dZ];omega) hm.a0 hm.a1) ?_
 rintro e w4 ⟨v4,rfl,p4⟩
 have y4:B<=w4.heap.size:=by have:=p4.g.size;omega
 have f4:=Hid.mk' (p4.far f3.out s3)
 have s4:w.heap.size<w4.heap.size:=by have:=p4.g.size;omega
 have c4_4:w4.cell? ⟨w.heap.size,4,none⟩=some (.int .i64 m.n):=p4.keep (by go_simp) f3.out
 go_wp2_with fail
 refine Calls.mono (bS B v4 (l++n2 m.g++n2 m.m++n2 m.s++n2 m.a) m.n _ (p4.own) y4 (by simp only[List.length_append,dZ];omega) hm.n0 hm.n1) ?_
 rintro e w5 ⟨v5,rfl,p5⟩
 have y5:B<=w5.heap.size:=by have:=p5.g.size;omega
 go_wp2_with fail
 go_ret
 refine ⟨v5,rfl,?_⟩
 have P:=(((((p1.pre (World.grownBy_alloc _ _ _)).trans p2).trans p3).trans p4).trans p5)
 simp only[List.append_assoc] at P
 simpa only[tM,List.append_assoc] using P
def pB (is:List It):List UInt8:=[u8 is.length]++is.flatMap gZ
def qF (es:List En):List UInt8:=[u8 es.length]++es.flatMap lJ
theorem qY (is:List It):(pB is).length=1+11 * is.length:=by
 unfold pB
 rw[List.length_append]
 have:(is.flatMap gZ).length=11 * is.length:=by
  induction is with
  | nil=>rfl
  | cons i t ih=>rw[List.flatMap_cons,List.length_append,ih,eV,List.length_cons];omega
 rw[this];rfl
theorem wW (es:List En):(qF es).length=1+13 * es.length:=by
 unfold qF
 rw[List.length_append]
 have:(es.flatMap lJ).length=13 * es.length:=by
  induction es with
  | nil=>rfl
  | cons i t ih=>rw[List.flatMap_cons,List.length_append,ih,aGZ,List.length_cons];omega
 rw[this];rfl
theorem kR {α:Type}(l:List α)(k:Nat)(h:k<l.length):l.take (k+1)=l.take k++[l[k]]:=List.take_succ_eq_append_getElem h
theorem uR (is:List It)(k:Nat)(h:k<is.length):(is.take (k+1)).flatMap gZ=(is.take k).flatMap gZ++gZ is[k]:=by
 rw[kR is k h,List.flatMap_append];simp
theorem uS (is:List En)(k:Nat)(h:k<is.length):(is.take (k+1)).flatMap lJ=(is.take k).flatMap lJ++lJ is[k]:=by
 rw[kR is k h,List.flatMap_append];simp
theorem wX (is:List It):(is.flatMap gZ).length=11 * is.length:=by
 have:=qY is;unfold pB at this;rw[List.length_append] at this;simp at this;simp;omega
theorem wY (is:List En):(is.flatMap lJ).length=13 * is.length:=by
 have:=wW is;unfold qF at this;rw[List.length_append] at this;simp at this;simp;omega
end Go.Proofs.YtammnaafdhhjaaaGreat
namespace Go.Proofs.YtammnaafdhhjaaaGreat
open Go.RowKit Go.Proofs.Tryz
theorem zY (B:Nat)(v:Value)(l:List UInt8)(is:List It)(g off c:Nat)(w:World)(hown:Own B w v l)(hB:B<=w.heap.size)(hl:l.length<=500000)(hn:is.length<=16)(hpos:0<is.length)
  (hc:∀j u,(is.flatMap It.cells)[j]?=some u->w.cell? ⟨g,off+j,none⟩=some u) (hg:v.ownBlock≠some g) (hok:∀i∈is,ItOk i):
  Calls prog 212 #[v,.slice (some ⟨g,off,none⟩) is.length c] w fun e w'=>∃v',e=.returned v'/\Put B w w' v v' (l++pB is):=by
 obtain ⟨n,hL⟩:∃n,is.length=n:=⟨_,rfl⟩
 rw[hL] at hn hpos ⊢
 have HL:Hid (is.length=n):=hL
 clear hL
 have HC:Hid (∀j u,(is.flatMap It.cells)[j]?=some u->w.cell? ⟨g,off+j,none⟩=some u):=hc
 have HG:Hid (g<w.heap.size):=by
  have:=hc 0 _ (by rw[show (0:Nat)=4 * 0+0 from rfl,cQ is 0 0 (by rw[HL.out];omega) (by omega)];rfl)
  exact World.block_lt_of_cell? w _ this
 clear hc
 have HO:Hid (Own B w v l):=hown
 have HK:=Hid.mk' hok
 have HV:=Hid.mk' hg
 clear hown hok hg
 have hsf:=aK
 have hu:(n:Int) % 256=(n:Int):=by omega
 have E:Hid (#[.int .u8 (n:Int)]=(([u8 is.length]).map qI).toArray):=by
  show _=_
  simp only[List.map_cons,List.map_nil]
  rw[gJ _ (by rw[HL.out];omega) (by rw[HL.out];omega),HL.out]
 go_enter func212,ntmps212
 go_wp2_with (at_builtin;refine eM rfl _ _ rfl B _ l rfl (HO.out.alloc _) ⟨w.heap.size,0,none⟩ 1 1 [u8 is.length] rfl rfl ?c1 ?c2 ?c3 ?c4)
 case c1=>exact dK w [u8 is.length] _ rfl _ E.out
 case c2=>omega
 case c3=>simp;omega
 case c4=>
 intro v1 w1 p1
 have P1:=p1.pre (World.grownBy_alloc _ _ _)
 clear p1 hu
 go_wp2_with fail
 go_loopw [0,15] (fun b i wr=>∃k:Nat,k<=n/\i=.int .i64 k/\Put B w wr v b (l++[u8 is.length]++(is.take k).flatMap gZ)) (fun _ i _=>n -(intOf i).toNat)
 case atStart=>exact ⟨0,by omega,rfl,by simpa using P1⟩
 case round=>
  obtain ⟨k,hk,rfl,pk⟩:=hrel
  have PK:=Hid.mk' pk
  clear pk
  by_cases hlt:k<n
  ·have hkl:k<is.length:=by rw[HL.out];exact hlt
   have hz:=PK.out.g.size
   have hF:=Hid.mk' (uR is k hkl)
   have hLn:(l++[u8 is.length]++(is.take k).flatMap gZ).length<=600000:=by
    rw[List.length_append,List.length_append,wX,List.length_take];simp;omega
   obtain ⟨i,hi⟩:∃i,is[k]=i:=⟨_,rfl⟩
   have HI:=Hid.mk' (HK.out i (by rw[<- hi];exact List.getElem_mem hkl))
   have d:∀j (hj:j<4) u,i.cells[j]?=some u->wr.cell? ⟨g,off+k * 4+j,none⟩=some u:=fun j hj u hu=>by
    have:=HC.out (4 * k+j) u (by rw[cQ is k j hkl hj,hi];exact hu)
    rw[show off+(4 * k+j)=off+k * 4+j by omega] at this
    exact PK.out.keep this HV.out
   have d0:=d 0 (by omega) _ rfl
   have d1:=d 1 (by omega) _ rfl
   have d2:=d 2 (by omega) _ rfl
   have d3:=d 3 (by omega) _ rfl
   clear d
   rw[hi] at hF
   clear hi
   rw[Nat.add_zero] at d0
   generalize hM:l++[u8 is.length]++(is.take k).flatMap gZ=M at *
   have HM:=Hid.mk' hM
   clear hM
   have hBr:B<=wr.heap.size:=by omega
   have hfr:=Hid.mk' (PK.out.own.fresh (Nat.le_refl _))
   go_wp2_with fail
   refine Calls.mono (fW B u0 M i _ (PK.out.own.alloc _) (by simp;omega) (by omega) HI.out) ?_
   rintro e w2 ⟨v2,rfl,p2⟩
   go_wp2_with fail
   refine ⟨⟨k+1,by omega,by go_num,?_⟩,by simp[intOf];omega⟩
   rw[hF.out,<- List.append_assoc,HM.out]
   exact PK.out.trans (p2.pre (World.grownBy_alloc _ _ _))
  ·have hkn:k=n:=by omega
   go_wp2
   go_ret
   refine ⟨_,rfl,?_⟩
   have:=PK.out
   rw[List.take_of_length_le (by rw[HL.out];omega)] at this
   rw[List.append_assoc] at this
   exact this
theorem wZ (B:Nat)(v:Value)(l:List UInt8)(is:List En)(g off c:Nat)(w:World)(hown:Own B w v l)(hB:B<=w.heap.size)(hl:l.length<=500000)(hn:is.length<=8)(hpos:0<is.length)
  (hc:∀j u,(is.flatMap En.cells)[j]?=some u->w.cell? ⟨g,off+j,none⟩=some u) (hg:v.ownBlock≠some g) (hok:∀i∈is,EnOk i):
  Calls prog 213 #[v,.slice (some ⟨g,off,none⟩) is.length c] w fun e w'=>∃v',e=.returned v'/\Put B w w' v v' (l++qF is):=by
 obtain ⟨n,hL⟩:∃n,is.length=n:=⟨_,rfl⟩
 rw[hL] at hn hpos ⊢
 have HL:Hid (is.length=n):=hL
 clear hL
 have HC:Hid (∀j u,(is.flatMap En.cells)[j]?=some u->w.cell? ⟨g,off+j,none⟩=some u):=hc
 have HG:Hid (g<w.heap.size):=by
  have:=hc 0 _ (by rw[show (0:Nat)=5 * 0+0 from rfl,dY is 0 0 (by rw[HL.out];omega) (by omega)];rfl)
  exact World.block_lt_of_cell? w _ this
 clear hc
 have HO:Hid (Own B w v l):=hown
 have HK:=Hid.mk' hok
 have HV:=Hid.mk' hg
 clear hown hok hg
 have hsf:=aK
 have hu:(n:Int) % 256=(n:Int):=by omega
 have E:Hid (#[.int .u8 (n:Int)]=(([u8 is.length]).map qI).toArray):=by
  show _=_
  simp only[List.map_cons,List.map_nil]
  rw[gJ _ (by rw[HL.out];omega) (by rw[HL.out];omega),HL.out]
 go_enter func213,ntmps213
 go_wp2_with (at_builtin;refine eM rfl _ _ rfl B _ l rfl (HO.out.alloc _) ⟨w.heap.size,0,none⟩ 1 1 [u8 is.length] rfl rfl ?c1 ?c2 ?c3 ?c4)
 case c1=>exact dK w [u8 is.length] _ rfl _ E.out
 case c2=>omega
 case c3=>simp;omega
 case c4=>
 intro v1 w1 p1
 have P1:=p1.pre (World.grownBy_alloc _ _ _)
 clear p1 hu
 go_wp2_with fail
 go_loopw [0,15] (fun b i wr=>∃k:Nat,k<=n/\i=.int .i64 k/\Put B w wr v b (l++[u8 is.length]++(is.take k).flatMap lJ)) (fun _ i _=>n -(intOf i).toNat)
 case atStart=>exact ⟨0,by omega,rfl,by simpa using P1⟩
 case round=>
  obtain ⟨k,hk,rfl,pk⟩:=hrel
  have PK:=Hid.mk' pk
  clear pk
  by_cases hlt:k<n
  ·have hkl:k<is.length:=by rw[HL.out];exact hlt
   have hz:=PK.out.g.size
   have hF:=Hid.mk' (uS is k hkl)
   have hLn:(l++[u8 is.length]++(is.take k).flatMap lJ).length<=600000:=by
    rw[List.length_append,List.length_append,wY,List.length_take];simp;omega
   obtain ⟨i,hi⟩:∃i,is[k]=i:=⟨_,rfl⟩
   have HI:=Hid.mk' (HK.out i (by rw[<- hi];exact List.getElem_mem hkl))
   have d:∀j (hj:j<5) u,i.cells[j]?=some u->wr.cell? ⟨g,off+k * 5+j,none⟩=some u:=fun j hj u hu=>by
    have:=HC.out (5 * k+j) u (by rw[dY is k j hkl hj,hi];exact hu)
    rw[show off+(5 * k+j)=off+k * 5+j by omega] at this
    exact PK.out.keep this HV.out
   have d0:=d 0 (by omega) _ rfl
   have d1:=d 1 (by omega) _ rfl
   have d2:=d 2 (by omega) _ rfl
   have d3:=d 3 (by omega) _ rfl
   have d4:=d 4 (by omega) _ rfl
   clear d
   rw[hi] at hF
   clear hi
   rw[Nat.add_zero] at d0
   generalize hM:l++[u8 is.length]++(is.take k).flatMap lJ=M at *
   have HM:=Hid.mk' hM
   clear hM
   have hBr:B<=wr.heap.size:=by omega
   have hfr:=Hid.mk' (PK.out.own.fresh (Nat.le_refl _))
   go_wp2_with fail
   refine Calls.mono (bS B u0 M i.sq _ (PK.out.own.alloc _) (by simp;omega) (by omega) HI.out.a HI.out.b) ?_
   rintro e w2 ⟨v2,rfl,p2⟩
   have c1:w2.cell? ⟨wr.heap.size,1,none⟩=some (.int .i64 i.it.sh):=p2.keep (by go_simp) hfr.out
   have c2:w2.cell? ⟨wr.heap.size,2,none⟩=some (.int .i64 i.it.nu):=p2.keep (by go_simp) hfr.out
   have c3:w2.cell? ⟨wr.heap.size,3,none⟩=some (.float .f32 i.it.pl):=p2.keep (by go_simp) hfr.out
   have c4:w2.cell? ⟨wr.heap.size,4,none⟩=some (.float .f32 i.it.sp):=p2.keep (by go_simp) hfr.out
   have z2:=p2.g.size
   simp at z2
   go_wp2_with fail
   refine Calls.mono (fW B v2 (M++n2 i.sq) i.it _ p2.own (by omega) (by simp only[List.length_append,dZ];omega) HI.out.i) ?_
   rintro e w3 ⟨v3,rfl,p3⟩
   go_wp2_with fail
   refine ⟨⟨k+1,by omega,by go_num,?_⟩,by simp[intOf];omega⟩
   rw[hF.out,<- List.append_assoc,HM.out]
   have P3:=PK.out.trans ((p2.pre (World.grownBy_alloc _ _ _)).trans p3)
   simpa only[lJ,List.append_assoc] using P3
  ·have hkn:k=n:=by omega
   go_wp2
   go_ret
   refine ⟨_,rfl,?_⟩
   have:=PK.out
   rw[List.take_of_length_le (by rw[HL.out];omega)] at this
   rw[List.append_assoc] at this
   exact this
end Go.Proofs.YtammnaafdhhjaaaGreat
namespace Go.Proofs.YtammnaafdhhjaaaGreat
open Go.RowKit Go.Proofs.Tryz
theorem Put.low {w0 w w':World}{v v':Value}{l l0:List UInt8}(hp:Put w0.heap.size w w' v v' l)(ho:Own w0.heap.size w v l0)(g:w0.grownBy w none):w0.grownBy w' none:=
 ⟨hp.g.os.trans g.os,hp.g.tape.trans g.tape,hp.g.output.trans g.output,Nat.le_trans g.size hp.g.size,fun k hk _=>by
  have hz:=g.size
  rw[hp.g.block k (by omega) (fun e=>by have:=(ho.lt k e.symm).1;omega),g.block k hk (by simp)]⟩
theorem uT (w0:World)(v:Value)(l:List UInt8)(is:List It)(vi:Value)(w:World)(hown:Own w0.heap.size w v l)(g0:w0.grownBy w none)(hl:l.length<=500000)(hn:is.length<=16)(hi:bH w0 vi is)(hok:∀i∈is,ItOk i):
  Calls prog 212 #[v,vi] w fun e w'=>∃v',e=.returned v'/\Put w0.heap.size w w' v v' (l++pB is):=by
 obtain ⟨a,c,rfl,hx⟩:=hi
 by_cases hp:0<is.length
 ·obtain ⟨g,off,rfl,hc⟩:=hx hp
  have hg:g<w0.heap.size:=by
   have:=hc 0 _ (by rw[show (0:Nat)=4 * 0+0 from rfl,cQ is 0 0 hp (by omega)];rfl)
   exact World.block_lt_of_cell? w0 _ this
  exact zY w0.heap.size v l is g off c w hown g0.size hl hn hp (fun j u hu=>g0.cell (hc j u hu) (by simp)) (fun e=>by have:=(hown.lt g e).1;omega) hok
 ·have e0:is=[]:=List.eq_nil_of_length_eq_zero (by omega)
  subst e0
  have HO:=Hid.mk' hown
  have hz:=g0.size
  clear hx hn hp hok hown g0
  show Calls prog 212 #[v,.slice a 0 c] w _
  go_enter func212,ntmps212
  go_wp2_with (at_builtin;refine eM rfl _ _ rfl w0.heap.size _ l rfl (HO.out.alloc _) ⟨w.heap.size,0,none⟩ 1 1 [u8 0] rfl rfl ?c1 ?c2 ?c3 ?c4)
  case c1=>exact dK w [u8 0] _ rfl _ rfl
  case c2=>omega
  case c3=>simp;omega
  case c4=>
  intro v1 w1 p1
  go_wp2_with fail
  refine wp_loop_rounds 1 ?_
  rw[rounds_succ]
  go_wp2
  go_ret
  exact ⟨v1,rfl,p1.pre (World.grownBy_alloc _ _ _)⟩
theorem sU (w0:World)(v:Value)(l:List UInt8)(is:List En)(vi:Value)(w:World)(hown:Own w0.heap.size w v l)(g0:w0.grownBy w none)(hl:l.length<=500000)(hn:is.length<=8)(hi:bL w0 vi is)(hok:∀i∈is,EnOk i):
  Calls prog 213 #[v,vi] w fun e w'=>∃v',e=.returned v'/\Put w0.heap.size w w' v v' (l++qF is):=by
 obtain ⟨a,c,rfl,hx⟩:=hi
 by_cases hp:0<is.length
 ·obtain ⟨g,off,rfl,hc⟩:=hx hp
  have hg:g<w0.heap.size:=by
   have:=hc 0 _ (by rw[show (0:Nat)=5 * 0+0 from rfl,dY is 0 0 hp (by omega)];rfl)
   exact World.block_lt_of_cell? w0 _ this
  exact wZ w0.heap.size v l is g off c w hown g0.size hl hn hp (fun j u hu=>g0.cell (hc j u hu) (by simp)) (fun e=>by have:=(hown.lt g e).1;omega) hok
 ·have e0:is=[]:=List.eq_nil_of_length_eq_zero (by omega)
  subst e0
  have HO:=Hid.mk' hown
  have hz:=g0.size
  clear hx hn hp hok hown g0
  show Calls prog 213 #[v,.slice a 0 c] w _
  go_enter func213,ntmps213
  go_wp2_with (at_builtin;refine eM rfl _ _ rfl w0.heap.size _ l rfl (HO.out.alloc _) ⟨w.heap.size,0,none⟩ 1 1 [u8 0] rfl rfl ?c1 ?c2 ?c3 ?c4)
  case c1=>exact dK w [u8 0] _ rfl _ rfl
  case c2=>omega
  case c3=>simp;omega
  case c4=>
  intro v1 w1 p1
  go_wp2_with fail
  refine wp_loop_rounds 1 ?_
  rw[rounds_succ]
  go_wp2
  go_ret
  exact ⟨v1,rfl,p1.pre (World.grownBy_alloc _ _ _)⟩
def cG (r:Rc):List UInt8:=
 if r.kind=1 then [u8 1]++gZ r.it
 else if r.kind=2 then [u8 2]++([u8 r.it.sh]++n2 r.it.nu)
 else if r.kind=4∨r.kind=7 then [u8 r.kind]++n2 r.seq++gZ r.it
 else if r.kind=5∨r.kind=8 then [u8 r.kind]++n2 r.seq
 else if r.kind=6 then [u8 6]++tM r.mks++pB r.items++qF r.outs
 else [u8 r.kind]
def iM (w:World)(l:List UInt8)(e:Ending)(w':World):Prop:=∃v',e=.returned v'/\Own w.heap.size w' v' l/\w.grownBy w' none
theorem aEu (s:Int)(i:It)(m:Mk)(is:List It)(es:List En)(vi vo:Value)(w:World)(hi:bH w vi is)(ho:bL w vo es)(hk:ItOk i):
  Calls prog 185 #[.slice none 0 0,rv 1 s i m vi vo] w fun e w'=>iM w (cG ⟨1,s,i,m,is,es⟩) e w':=by
 have HI:=Hid.mk' hi
 have HO:=Hid.mk' ho
 clear hi ho
 unfold rv
 obtain ⟨ai,ci,rfl,_⟩:=HI.out
 obtain ⟨ao,co,rfl,_⟩:=HO.out
 have hf:Hid (Value.ownBlock (.slice none 0 0)≠some w.heap.size):=by show _≠_;simp[Value.ownBlock]
 go_enter func185,ntmps185
 go_wp2_with (at_builtin;refine eM rfl _ _ rfl w.heap.size _ [] rfl (Own.nil _ _) ⟨w.heap.size+1,0,none⟩ 1 1 [u8 1] rfl rfl ?c1 ?c2 ?c3 ?c4)
 case c1=>exact dK _ [u8 1] _ (by simp) _ rfl
 case c2=>simp
 case c3=>simp;omega
 case c4=>
 intro v1 w1 p1
 have G1:=Hid.mk' (p1.low (Own.nil _ _) (aG (World.grownBy_alloc _ _ _) _))
 have y1:=G1.out.size
 have f1:=Hid.mk' (p1.far hf.out (by simp;omega))
 have s1:w.heap.size<w1.heap.size:=by have:=p1.g.size;simp at this;omega
 have c1_0:w1.cell? ⟨w.heap.size,0,none⟩=some (.int .i64 1):=p1.keep (by go_simp) hf.out
 have c1_2:w1.cell? ⟨w.heap.size,2,none⟩=some (.int .i64 i.sh):=p1.keep (by go_simp) hf.out
 have c1_3:w1.cell? ⟨w.heap.size,3,none⟩=some (.int .i64 i.nu):=p1.keep (by go_simp) hf.out
 have c1_4:w1.cell? ⟨w.heap.size,4,none⟩=some (.float .f32 i.pl):=p1.keep (by go_simp) hf.out
 have c1_5:w1.cell? ⟨w.heap.size,5,none⟩=some (.float .f32 i.sp):=p1.keep (by go_simp) hf.out
 go_wp2_with fail
 refine Calls.mono (fW w.heap.size v1 ([u8 1]) i _ p1.own y1 (by simp) hk) ?_
 rintro e w2 ⟨v2,rfl,p2⟩
 have G2:=Hid.mk' (p2.low p1.own G1.out)
 have y2:=G2.out.size
 go_wp2_with fail
 go_ret
 refine ⟨v2,rfl,?_,G2.out⟩
 have E:cG ⟨1,s,i,m,is,es⟩=[u8 1]++gZ i:=by simp[cG]
 rw[E]
 exact p2.own
theorem aEv (s:Int)(i:It)(m:Mk)(is:List It)(es:List En)(vi vo:Value)(w:World)(hi:bH w vi is)(ho:bL w vo es)(hk:ItOk i):
  Calls prog 185 #[.slice none 0 0,rv 2 s i m vi vo] w fun e w'=>iM w (cG ⟨2,s,i,m,is,es⟩) e w':=by
 have HI:=Hid.mk' hi
 have HO:=Hid.mk' ho
 clear hi ho
 unfold rv
 obtain ⟨ai,ci,rfl,_⟩:=HI.out
 obtain ⟨ao,co,rfl,_⟩:=HO.out
 have hf:Hid (Value.ownBlock (.slice none 0 0)≠some w.heap.size):=by show _≠_;simp[Value.ownBlock]
 go_enter func185,ntmps185
 go_wp2_with (at_builtin;refine eM rfl _ _ rfl w.heap.size _ [] rfl (Own.nil _ _) ⟨w.heap.size+1,0,none⟩ 1 1 [u8 2] rfl rfl ?c1 ?c2 ?c3 ?c4)
 case c1=>exact dK _ [u8 2] _ (by simp) _ rfl
 case c2=>simp
 case c3=>simp;omega
 case c4=>
 intro v1 w1 p1
 have G1:=Hid.mk' (p1.low (Own.nil _ _) (aG (World.grownBy_alloc _ _ _) _))
 have y1:=G1.out.size
 have f1:=Hid.mk' (p1.far hf.out (by simp;omega))
 have s1:w.heap.size<w1.heap.size:=by have:=p1.g.size;simp at this;omega
 have c1_0:w1.cell? ⟨w.heap.size,0,none⟩=some (.int .i64 2):=p1.keep (by go_simp) hf.out
 have c1_2:w1.cell? ⟨w.heap.size,2,none⟩=some (.int .i64 i.sh):=p1.keep (by go_simp) hf.out
 have c1_3:w1.cell? ⟨w.heap.size,3,none⟩=some (.int .i64 i.nu):=p1.keep (by go_simp) hf.out
 go_wp2_with fail
 refine Calls.mono (tL w.heap.size v1 ([u8 2]) i.sh i.nu _ p1.own y1 (by simp) hk.a hk.b hk.c hk.d) ?_
 rintro e w2 ⟨v2,rfl,p2⟩
 have G2:=Hid.mk' (p2.low p1.own G1.out)
 have y2:=G2.out.size
 go_wp2_with fail
 go_ret
 refine ⟨v2,rfl,?_,G2.out⟩
 have E:cG ⟨2,s,i,m,is,es⟩=[u8 2]++([u8 i.sh]++n2 i.nu):=by simp[cG]
 rw[E]
 exact p2.own
theorem aEw (s:Int)(i:It)(m:Mk)(is:List It)(es:List En)(vi vo:Value)(w:World)(hi:bH w vi is)(ho:bL w vo es):
  Calls prog 185 #[.slice none 0 0,rv 3 s i m vi vo] w fun e w'=>iM w (cG ⟨3,s,i,m,is,es⟩) e w':=by
 have HI:=Hid.mk' hi
 have HO:=Hid.mk' ho
 clear hi ho
 unfold rv
 obtain ⟨ai,ci,rfl,_⟩:=HI.out
 obtain ⟨ao,co,rfl,_⟩:=HO.out
 have hf:Hid (Value.ownBlock (.slice none 0 0)≠some w.heap.size):=by show _≠_;simp[Value.ownBlock]
 go_enter func185,ntmps185
 go_wp2_with (at_builtin;refine eM rfl _ _ rfl w.heap.size _ [] rfl (Own.nil _ _) ⟨w.heap.size+1,0,none⟩ 1 1 [u8 3] rfl rfl ?c1 ?c2 ?c3 ?c4)
 case c1=>exact dK _ [u8 3] _ (by simp) _ rfl
 case c2=>simp
 case c3=>simp;omega
 case c4=>
 intro v1 w1 p1
 have G1:=Hid.mk' (p1.low (Own.nil _ _) (aG (World.grownBy_alloc _ _ _) _))
 have y1:=G1.out.size
 have f1:=Hid.mk' (p1.far hf.out (by simp;omega))
 have s1:w.heap.size<w1.heap.size:=by have:=p1.g.size;simp at this;omega
 have c1_0:w1.cell? ⟨w.heap.size,0,none⟩=some (.int .i64 3):=p1.keep (by go_simp) hf.out
 go_wp2_with fail
 go_ret
 refine ⟨v1,rfl,?_,G1.out⟩
 have E:cG ⟨3,s,i,m,is,es⟩=[u8 3]:=by simp[cG]
 rw[E]
 exact p1.own
theorem aEx (s:Int)(i:It)(m:Mk)(is:List It)(es:List En)(vi vo:Value)(w:World)(hi:bH w vi is)(ho:bL w vo es)(hs:0<=s)(hs':s<=65535)(hk:ItOk i):
  Calls prog 185 #[.slice none 0 0,rv 4 s i m vi vo] w fun e w'=>iM w (cG ⟨4,s,i,m,is,es⟩) e w':=by
 have HI:=Hid.mk' hi
 have HO:=Hid.mk' ho
 clear hi ho
 unfold rv
 obtain ⟨ai,ci,rfl,_⟩:=HI.out
 obtain ⟨ao,co,rfl,_⟩:=HO.out
 have hf:Hid (Value.ownBlock (.slice none 0 0)≠some w.heap.size):=by show _≠_;simp[Value.ownBlock]
 go_enter func185,ntmps185
 go_wp2_with (at_builtin;refine eM rfl _ _ rfl w.heap.size _ [] rfl (Own.nil _ _) ⟨w.heap.size+1,0,none⟩ 1 1 [u8 4] rfl rfl ?c1 ?c2 ?c3 ?c4)
 case c1=>exact dK _ [u8 4] _ (by simp) _ rfl
 case c2=>simp
 case c3=>simp;omega
 case c4=>
 intro v1 w1 p1
 have G1:=Hid.mk' (p1.low (Own.nil _ _) (aG (World.grownBy_alloc _ _ _) _))
 have y1:=G1.out.size
 have f1:=Hid.mk' (p1.far hf.out (by simp;omega))
 have s1:w.heap.size<w1.heap.size:=by have:=p1.g.size;simp at this;omega
 have c1_0:w1.cell? ⟨w.heap.size,0,none⟩=some (.int .i64 4):=p1.keep (by go_simp) hf.out
 have c1_1:w1.cell? ⟨w.heap.size,1,none⟩=some (.int .i64 s):=p1.keep (by go_simp) hf.out
 have c1_2:w1.cell? ⟨w.heap.size,2,none⟩=some (.int .i64 i.sh):=p1.keep (by go_simp) hf.out
 have c1_3:w1.cell? ⟨w.heap.size,3,none⟩=some (.int .i64 i.nu):=p1.keep (by go_simp) hf.out
 have c1_4:w1.cell? ⟨w.heap.size,4,none⟩=some (.float .f32 i.pl):=p1.keep (by go_simp) hf.out
 have c1_5:w1.cell? ⟨w.heap.size,5,none⟩=some (.float .f32 i.sp):=p1.keep (by go_simp) hf.out
 go_wp2_with fail
 refine Calls.mono (bS w.heap.size v1 ([u8 4]) s _ p1.own y1 (by simp) hs hs') ?_
 rintro e w2 ⟨v2,rfl,p2⟩
 have G2:=Hid.mk' (p2.low p1.own G1.out)
 have y2:=G2.out.size
 have f2:=Hid.mk' (p2.far f1.out s1)
 have s2:w.heap.size<w2.heap.size:=by have:=p2.g.size;omega
 have c2_2:w2.cell? ⟨w.heap.size,2,none⟩=some (.int .i64 i.sh):=p2.keep (by go_simp) f1.out
 have c2_3:w2.cell? ⟨w.heap.size,3,none⟩=some (.int .i64 i.nu):=p2.keep (by go_simp) f1.out
 have c2_4:w2.cell? ⟨w.heap.size,4,none⟩=some (.float .f32 i.pl):=p2.keep (by go_simp) f1.out
 have c2_5:w2.cell? ⟨w.heap.size,5,none⟩=some (.float .f32 i.sp):=p2.keep (by go_simp) f1.out
 go_wp2_with fail
 refine Calls.mono (fW w.heap.size v2 ([u8 4]++n2 s) i _ p2.own y2 (by simp[dZ]) hk) ?_
 rintro e w3 ⟨v3,rfl,p3⟩
 have G3:=Hid.mk' (p3.low p2.own G2.out)
 have y3:=G3.out.size
 go_wp2_with fail
 go_ret
 refine ⟨v3,rfl,?_,G3.out⟩
 have E:cG ⟨4,s,i,m,is,es⟩=[u8 4]++n2 s++gZ i:=by simp[cG]
 rw[E]
 exact p3.own
theorem aEy (s:Int)(i:It)(m:Mk)(is:List It)(es:List En)(vi vo:Value)(w:World)(hi:bH w vi is)(ho:bL w vo es)(hs:0<=s)(hs':s<=65535)(hk:ItOk i):
  Calls prog 185 #[.slice none 0 0,rv 7 s i m vi vo] w fun e w'=>iM w (cG ⟨7,s,i,m,is,es⟩) e w':=by
 have HI:=Hid.mk' hi
 have HO:=Hid.mk' ho
 clear hi ho
 unfold rv
 obtain ⟨ai,ci,rfl,_⟩:=HI.out
 obtain ⟨ao,co,rfl,_⟩:=HO.out
 have hf:Hid (Value.ownBlock (.slice none 0 0)≠some w.heap.size):=by show _≠_;simp[Value.ownBlock]
 go_enter func185,ntmps185
 go_wp2_with (at_builtin;refine eM rfl _ _ rfl w.heap.size _ [] rfl (Own.nil _ _) ⟨w.heap.size+1,0,none⟩ 1 1 [u8 7] rfl rfl ?c1 ?c2 ?c3 ?c4)
 case c1=>exact dK _ [u8 7] _ (by simp) _ rfl
 case c2=>simp
 case c3=>simp;omega
 case c4=>
 intro v1 w1 p1
 have G1:=Hid.mk' (p1.low (Own.nil _ _) (aG (World.grownBy_alloc _ _ _) _))
 have y1:=G1.out.size
 have f1:=Hid.mk' (p1.far hf.out (by simp;omega))
 have s1:w.heap.size<w1.heap.size:=by have:=p1.g.size;simp at this;omega
 have c1_0:w1.cell? ⟨w.heap.size,0,none⟩=some (.int .i64 7):=p1.keep (by go_simp) hf.out
 have c1_1:w1.cell? ⟨w.heap.size,1,none⟩=some (.int .i64 s):=p1.keep (by go_simp) hf.out
 have c1_2:w1.cell? ⟨w.heap.size,2,none⟩=some (.int .i64 i.sh):=p1.keep (by go_simp) hf.out
 have c1_3:w1.cell? ⟨w.heap.size,3,none⟩=some (.int .i64 i.nu):=p1.keep (by go_simp) hf.out
 have c1_4:w1.cell? ⟨w.heap.size,4,none⟩=some (.float .f32 i.pl):=p1.keep (by go_simp) hf.out
 have c1_5:w1.cell? ⟨w.heap.size,5,none⟩=some (.float .f32 i.sp):=p1.keep (by go_simp) hf.out
 go_wp2_with fail
 refine Calls.mono (bS w.heap.size v1 ([u8 7]) s _ p1.own y1 (by simp) hs hs') ?_
 rintro e w2 ⟨v2,rfl,p2⟩
 have G2:=Hid.mk' (p2.low p1.own G1.out)
 have y2:=G2.out.size
 have f2:=Hid.mk' (p2.far f1.out s1)
 have s2:w.heap.size<w2.heap.size:=by have:=p2.g.size;omega
 have c2_2:w2.cell? ⟨w.heap.size,2,none⟩=some (.int .i64 i.sh):=p2.keep (by go_simp) f1.out
 have c2_3:w2.cell? ⟨w.heap.size,3,none⟩=some (.int .i64 i.nu):=p2.keep (by go_simp) f1.out
 have c2_4:w2.cell? ⟨w.heap.size,4,none⟩=some (.float .f32 i.pl):=p2.keep (by go_simp) f1.out
 have c2_5:w2.cell? ⟨w.heap.size,5,none⟩=some (.float .f32 i.sp):=p2.keep (by go_simp) f1.out
 go_wp2_with fail
 refine Calls.mono (fW w.heap.size v2 ([u8 7]++n2 s) i _ p2.own y2 (by simp[dZ]) hk) ?_
 rintro e w3 ⟨v3,rfl,p3⟩
 have G3:=Hid.mk' (p3.low p2.own G2.out)
 have y3:=G3.out.size
 go_wp2_with fail
 go_ret
 refine ⟨v3,rfl,?_,G3.out⟩
 have E:cG ⟨7,s,i,m,is,es⟩=[u8 7]++n2 s++gZ i:=by simp[cG]
 rw[E]
 exact p3.own
theorem aEz (s:Int)(i:It)(m:Mk)(is:List It)(es:List En)(vi vo:Value)(w:World)(hi:bH w vi is)(ho:bL w vo es)(hs:0<=s)(hs':s<=65535):
  Calls prog 185 #[.slice none 0 0,rv 5 s i m vi vo] w fun e w'=>iM w (cG ⟨5,s,i,m,is,es⟩) e w':=by
 have HI:=Hid.mk' hi
 have HO:=Hid.mk' ho
 clear hi ho
 unfold rv
 obtain ⟨ai,ci,rfl,_⟩:=HI.out
 obtain ⟨ao,co,rfl,_⟩:=HO.out
 have hf:Hid (Value.ownBlock (.slice none 0 0)≠some w.heap.size):=by show _≠_;simp[Value.ownBlock]
 go_enter func185,ntmps185
 go_wp2_with (at_builtin;refine eM rfl _ _ rfl w.heap.size _ [] rfl (Own.nil _ _) ⟨w.heap.size+1,0,none⟩ 1 1 [u8 5] rfl rfl ?c1 ?c2 ?c3 ?c4)
 case c1=>exact dK _ [u8 5] _ (by simp) _ rfl
 case c2=>simp
 case c3=>simp;omega
 case c4=>
 intro v1 w1 p1
 have G1:=Hid.mk' (p1.low (Own.nil _ _) (aG (World.grownBy_alloc _ _ _) _))
 have y1:=G1.out.size
 have f1:=Hid.mk' (p1.far hf.out (by simp;omega))
 have s1:w.heap.size<w1.heap.size:=by have:=p1.g.size;simp at this;omega
 have c1_0:w1.cell? ⟨w.heap.size,0,none⟩=some (.int .i64 5):=p1.keep (by go_simp) hf.out
 have c1_1:w1.cell? ⟨w.heap.size,1,none⟩=some (.int .i64 s):=p1.keep (by go_simp) hf.out
 go_wp2_with fail
 refine Calls.mono (bS w.heap.size v1 ([u8 5]) s _ p1.own y1 (by simp) hs hs') ?_
 rintro e w2 ⟨v2,rfl,p2⟩
 have G2:=Hid.mk' (p2.low p1.own G1.out)
 have y2:=G2.out.size
 go_wp2_with fail
 go_ret
 refine ⟨v2,rfl,?_,G2.out⟩
 have E:cG ⟨5,s,i,m,is,es⟩=[u8 5]++n2 s:=by simp[cG]
 rw[E]
 exact p2.own
theorem aEA (s:Int)(i:It)(m:Mk)(is:List It)(es:List En)(vi vo:Value)(w:World)(hi:bH w vi is)(ho:bL w vo es)(hs:0<=s)(hs':s<=65535):
  Calls prog 185 #[.slice none 0 0,rv 8 s i m vi vo] w fun e w'=>iM w (cG ⟨8,s,i,m,is,es⟩) e w':=by
 have HI:=Hid.mk' hi
 have HO:=Hid.mk' ho
 clear hi ho
 unfold rv
 obtain ⟨ai,ci,rfl,_⟩:=HI.out
 obtain ⟨ao,co,rfl,_⟩:=HO.out
 have hf:Hid (Value.ownBlock (.slice none 0 0)≠some w.heap.size):=by show _≠_;simp[Value.ownBlock]
 go_enter func185,ntmps185
 go_wp2_with (at_builtin;refine eM rfl _ _ rfl w.heap.size _ [] rfl (Own.nil _ _) ⟨w.heap.size+1,0,none⟩ 1 1 [u8 8] rfl rfl ?c1 ?c2 ?c3 ?c4)
 case c1=>exact dK _ [u8 8] _ (by simp) _ rfl
 case c2=>simp
 case c3=>simp;omega
 case c4=>
 intro v1 w1 p1
 have G1:=Hid.mk' (p1.low (Own.nil _ _) (aG (World.grownBy_alloc _ _ _) _))
 have y1:=G1.out.size
 have f1:=Hid.mk' (p1.far hf.out (by simp;omega))
 have s1:w.heap.size<w1.heap.size:=by have:=p1.g.size;simp at this;omega
 have c1_0:w1.cell? ⟨w.heap.size,0,none⟩=some (.int .i64 8):=p1.keep (by go_simp) hf.out
 have c1_1:w1.cell? ⟨w.heap.size,1,none⟩=some (.int .i64 s):=p1.keep (by go_simp) hf.out
 go_wp2_with fail
 refine Calls.mono (bS w.heap.size v1 ([u8 8]) s _ p1.own y1 (by simp) hs hs') ?_
 rintro e w2 ⟨v2,rfl,p2⟩
 have G2:=Hid.mk' (p2.low p1.own G1.out)
 have y2:=G2.out.size
 go_wp2_with fail
 go_ret
 refine ⟨v2,rfl,?_,G2.out⟩
 have E:cG ⟨8,s,i,m,is,es⟩=[u8 8]++n2 s:=by simp[cG]
 rw[E]
 exact p2.own
theorem aEB (s:Int)(i:It)(m:Mk)(is:List It)(es:List En)(vi vo:Value)(w:World)(hi:bH w vi is)(ho:bL w vo es)(hk:MkOk m)(hni:is.length<=16)(hki:∀x∈is,ItOk x)(hno:es.length<=8)(hko:∀x∈es,EnOk x):
  Calls prog 185 #[.slice none 0 0,rv 6 s i m vi vo] w fun e w'=>iM w (cG ⟨6,s,i,m,is,es⟩) e w':=by
 have HI:=Hid.mk' hi
 have HO:=Hid.mk' ho
 clear hi ho
 unfold rv
 obtain ⟨ai,ci,rfl,_⟩:=HI.out
 obtain ⟨ao,co,rfl,_⟩:=HO.out
 have hf:Hid (Value.ownBlock (.slice none 0 0)≠some w.heap.size):=by show _≠_;simp[Value.ownBlock]
 go_enter func185,ntmps185
 go_wp2_with (at_builtin;refine eM rfl _ _ rfl w.heap.size _ [] rfl (Own.nil _ _) ⟨w.heap.size+1,0,none⟩ 1 1 [u8 6] rfl rfl ?c1 ?c2 ?c3 ?c4)
 case c1=>exact dK _ [u8 6] _ (by simp) _ rfl
 case c2=>simp
 case c3=>simp;omega
 case c4=>
 intro v1 w1 p1
 have G1:=Hid.mk' (p1.low (Own.nil _ _) (aG (World.grownBy_alloc _ _ _) _))
 have y1:=G1.out.size
 have f1:=Hid.mk' (p1.far hf.out (by simp;omega))
 have s1:w.heap.size<w1.heap.size:=by have:=p1.g.size;simp at this;omega
 have c1_0:w1.cell? ⟨w.heap.size,0,none⟩=some (.int .i64 6):=p1.keep (by go_simp) hf.out
 have c1_6:w1.cell? ⟨w.heap.size,6,none⟩=some (.int .i64 m.g):=p1.keep (by go_simp) hf.out
 have c1_7:w1.cell? ⟨w.heap.size,7,none⟩=some (.int .i64 m.m):=p1.keep (by go_simp) hf.out
 have c1_8:w1.cell? ⟨w.heap.size,8,none⟩=some (.int .i64 m.s):=p1.keep (by go_simp) hf.out
 have c1_9:w1.cell? ⟨w.heap.size,9,none⟩=some (.int .i64 m.a):=p1.keep (by go_simp) hf.out
 have c1_10:w1.cell? ⟨w.heap.size,10,none⟩=some (.int .i64 m.n):=p1.keep (by go_simp) hf.out
 have c1_11:w1.cell? ⟨w.heap.size,11,none⟩=some (.slice ai is.length ci):=p1.keep (by go_simp) hf.out
 have c1_12:w1.cell? ⟨w.heap.size,12,none⟩=some (.slice ao es.length co):=p1.keep (by go_simp) hf.out
 go_wp2_with fail
 refine Calls.mono (uQ w.heap.size v1 ([u8 6]) m _ p1.own y1 (by simp) hk) ?_
 rintro e w2 ⟨v2,rfl,p2⟩
 have G2:=Hid.mk' (p2.low p1.own G1.out)
 have y2:=G2.out.size
 have f2:=Hid.mk' (p2.far f1.out s1)
 have s2:w.heap.size<w2.heap.size:=by have:=p2.g.size;omega
 have c2_11:w2.cell? ⟨w.heap.size,11,none⟩=some (.slice ai is.length ci):=p2.keep (by go_simp) f1.out
 have c2_12:w2.cell? ⟨w.heap.size,12,none⟩=some (.slice ao es.length co):=p2.keep (by go_simp) f1.out
 go_wp2_with fail
 refine Calls.mono (uT w v2 ([u8 6]++tM m) is _ _ p2.own G2.out (by simp[uP]) hni HI.out hki) ?_
 rintro e w3 ⟨v3,rfl,p3⟩
 have G3:=Hid.mk' (p3.low p2.own G2.out)
 have y3:=G3.out.size
 have f3:=Hid.mk' (p3.far f2.out s2)
 have s3:w.heap.size<w3.heap.size:=by have:=p3.g.size;omega
 have c3_12:w3.cell? ⟨w.heap.size,12,none⟩=some (.slice ao es.length co):=p3.keep (by go_simp) f2.out
 go_wp2_with fail
 refine Calls.mono (sU w v3 ([u8 6]++tM m++pB is) es _ _ p3.own G3.out (by simp[uP,qY];omega) hno HO.out hko) ?_
 rintro e w4 ⟨v4,rfl,p4⟩
 have G4:=Hid.mk' (p4.low p3.own G3.out)
 have y4:=G4.out.size
 go_wp2_with fail
 go_ret
 refine ⟨v4,rfl,?_,G4.out⟩
 have E:cG ⟨6,s,i,m,is,es⟩=[u8 6]++tM m++pB is++qF es:=by simp[cG]
 rw[E]
 exact p4.own
end Go.Proofs.YtammnaafdhhjaaaGreat
namespace Go.Proofs.YtammnaafdhhjaaaGreat
open Go.RowKit Go.Proofs.Tryz
def lE (l:List UInt8):Int:=l.foldl (fun a c=>(31 * a+(c.toNat:Int)+1) % 65521) 1
theorem pC (l:List UInt8)(c:UInt8):lE (l++[c])=(31 * lE l+(c.toNat:Int)+1) % 65521:=by simp[lE]
theorem qJ (l:List UInt8):0<=lE l/\lE l<65521:=by
 rcases List.eq_nil_or_concat l with rfl | ⟨t,c,rfl⟩
 ·simp[lE]
 ·rw[List.concat_eq_append,pC];omega
theorem aHa (l:List UInt8)(w:World)(hl:l.length<=maxLen):
  Calls prog 187 #[.string (S l)] w fun e w'=>e=.returned (.int .i64 (lE l))/\w'=w:=by
 unfold maxLen at hl
 have hz:Hid ((S l).size=l.length):=aQ l
 obtain ⟨n,hn⟩:∃n,(S l).size=n:=⟨_,rfl⟩
 have HN:=Hid.mk' hn
 have hnl:Hid (n=l.length):=by show n=l.length;rw[<- hn];exact aQ l
 have hnm:n<=9223372036854775807:=by rw[hnl.out];omega
 clear hn
 go_enter func187,ntmps187
 go_wp2
 rw[HN.out]
 go_loop [3,7] (fun t i=>∃k:Nat,k<=n/\i=.int .i64 k/\t=.int .i64 (lE (l.take k))) (fun _ i=>n -(intOf i).toNat)
 case atStart=>exact ⟨0,Nat.zero_le _,rfl,rfl⟩
 case round=>
  obtain ⟨k,hk,rfl,rfl⟩:=hrel
  obtain ⟨hd0,hd1⟩:=qJ (l.take k)
  by_cases hlt:k<n
  ·have hkl:k<l.length:=by rw[<- hnl.out];exact hlt
   have hks:k<(S l).size:=by rw[HN.out];exact hlt
   have hts:Hid (l.take (k+1)=l.take k++[(S l)[k]]):=by
    show _=_
    rw[kR l k hkl];rfl
   generalize hA:lE (l.take k)=A at *
   have HA:=Hid.mk' hA
   clear hA
   have hc:=(S l)[k].toNat_lt
   go_wp2
   go_round
   case rel=>exact ⟨k+1,by omega,by go_num,by rw[hts.out,pC,HA.out]⟩
   case measure=>simp[intOf];omega
  ·go_wp2
   go_ret
   exact ⟨eD (by rw[List.take_of_length_le (by rw[<- hnl.out];omega)]),rfl⟩
structure WfIt (i:It):Prop where
 p:i.pl<4294967296
 s:i.sp<4294967296
structure WfR (r:Rc):Prop where
 it:WfIt r.it
 items:∀i∈r.items,WfIt i
 outs:∀e∈r.outs,WfIt e.it
theorem bU {n:Int}(h:eE n=true):0<=n/\n<=65535:=by simpa [eE] using h
theorem jZ {s n:Int}(h:pA s n=true):0<=s/\s<=1/\1<=n/\n<=65535:=by
 simp[pA] at h;omega
theorem iF {i:It}(h:eF i=true)(wf:WfIt i):ItOk i:=by
 simp only[eF,Bool.and_eq_true] at h
 obtain ⟨h1,h2,h3,h4⟩:=jZ h.1.1
 exact ⟨h1,by omega,by omega,h4,wf.p,wf.s⟩
theorem zZ {m:Mk}(h:zQ m=true):MkOk m:=by
 simp only[zQ,Bool.and_eq_true] at h
 obtain ⟨⟨⟨⟨a,b⟩,c⟩,d⟩,e⟩:=h
 exact ⟨(bU a).1,(bU a).2,(bU b).1,(bU b).2,(bU c).1,(bU c).2,(bU d).1,(bU d).2,(bU e).1,(bU e).2⟩
theorem uU {p:Option It}{is:List It}(h:qV p is=true):∀i∈is,eF i=true:=by
 induction is generalizing p with
 | nil=>simp
 | cons a t ih=>
  simp only[qV,Bool.and_eq_true] at h
  intro i hi
  rcases List.mem_cons.1 hi with rfl | hi
  ·exact h.1.1
  ·exact ih h.2 i hi
theorem jQ {l:Int}{es:List En}(h:fD l es=true):∀e∈es,eE e.sq=true/\eF e.it=true:=by
 induction es generalizing l with
 | nil=>simp
 | cons a t ih=>
  simp only[fD,Bool.and_eq_true] at h
  intro e he
  rcases List.mem_cons.1 he with rfl | he
  ·exact ⟨h.1.1.2,h.1.2⟩
  ·exact ih h.2 e he
theorem aAa (r:Rc)(vi vo:Value)(w:World)(hi:bH w vi r.items)(ho:bL w vo r.outs)(hm:aP r=true)(wf:WfR r):
  Calls prog 185 #[.slice none 0 0,rv r.kind r.seq r.it r.mks vi vo] w fun e w'=>iM w (cG r) e w':=by
 obtain ⟨K,s,i,m,is,es⟩:=r
 have hk:K=1∨K=2∨K=3∨K=4∨K=5∨K=6∨K=7∨K=8:=by
  unfold aP at hm
  simp only at hm
  by_cases h1:K=1;· omega
  rw[if_neg h1] at hm
  by_cases h2:K=2;· omega
  rw[if_neg h2] at hm
  by_cases h3:K=3;· omega
  rw[if_neg h3] at hm
  by_cases h4:K=4∨K=7;· omega
  rw[if_neg h4] at hm
  by_cases h5:K=5∨K=8;· omega
  rw[if_neg h5] at hm
  by_cases h6:K=6;· omega
  rw[if_neg h6] at hm
  cases hm
 rcases hk with rfl | rfl | rfl | rfl | rfl | rfl | rfl | rfl
 ·simp[aP] at hm
  exact aEu s i m is es vi vo w hi ho (iF hm.1.2 wf.it)
 ·simp[aP] at hm
  obtain ⟨h1,h2,h3,h4⟩:=jZ hm.1.1.2
  exact aEv s i m is es vi vo w hi ho ⟨h1,by show i.sh<=255;omega,by show 0<=i.nu;omega,h4,wf.it.p,wf.it.s⟩
 ·exact aEw s i m is es vi vo w hi ho
 ·simp[aP] at hm
  obtain ⟨h1,h2⟩:=bU hm.1.1.2
  exact aEx s i m is es vi vo w hi ho h1 h2 (iF hm.1.2 wf.it)
 ·simp[aP] at hm
  obtain ⟨h1,h2⟩:=bU hm.1.1
  exact aEz s i m is es vi vo w hi ho h1 h2
 ·simp[aP,gY,gK,lA] at hm
  obtain ⟨_,⟨hmk,hl,hc⟩,hl',hc'⟩:=hm
  exact aEB s i m is es vi vo w hi ho (zZ hmk) hl (fun x hx=>iF (uU hc x hx) (wf.items x hx)) hl' (fun x hx=>⟨(bU (jQ hc' x hx).1).1,(bU (jQ hc' x hx).1).2,iF (jQ hc' x hx).2 (wf.outs x hx)⟩)
 ·simp[aP] at hm
  obtain ⟨h1,h2⟩:=bU hm.1.1.2
  exact aEy s i m is es vi vo w hi ho h1 h2 (iF hm.1.2 wf.it)
 ·simp[aP] at hm
  obtain ⟨h1,h2⟩:=bU hm.1.1
  exact aEA s i m is es vi vo w hi ho h1 h2
end Go.Proofs.YtammnaafdhhjaaaGreat
namespace Go.Proofs.YtammnaafdhhjaaaGreat
open Go.RowKit Go.Proofs.Tryz
def enc (r:Rc):List UInt8:=cG r++n2 (lE (cG r))
theorem aAb (l:List UInt8)(a:List UInt8):(l.map (fun c=>(c.toNat:Int))).foldl (fun r n=>r.push (UInt8.ofNat n.toNat)) (S a)=S (a++l):=by
 induction l generalizing a with
 | nil=>simp
 | cons c t ih=>
  have e:(S a).push (UInt8.ofNat ((c.toNat:Int)).toNat)=S (a++[c]):=by
   apply ByteArray.ext;simp[S,ByteArray.push]
  rw[List.map_cons,List.foldl_cons,e,ih];simp
theorem oB (B:Nat)(w:World)(v:Value)(l:List UInt8)(h:Own B w v l):(convert 173 9 v).run prog w=.ok (.string (S l)) w:=by
 obtain ⟨a,n,c,rfl⟩:=dD h
 rw[run_convert_bytes_string w 173 9 5 a n c underlying173 underlying5 underlying9]
 rcases h.2 with ⟨hv,hn⟩ | ⟨g,cap,cur,hv,_⟩
 ·injection hv with h1 h2 h3
  subst h1 h2 h3
  have hl:l=[]:=List.eq_nil_of_length_eq_zero hn
  subst hl
  rfl
 ·injection hv with h1 h2 h3
  subst h1 h2 h3
  have hm:l.map qI=(l.map (fun c=>(c.toNat:Int))).map (Value.int .u8):=by rw[List.map_map];rfl
  have hload:=run_loadCells_list (P:=prog) w ⟨g,0,none⟩ (l.map qI) (h.cells (g:=g) rfl)
  rw[List.length_map] at hload
  rw[run_bytesToString w ⟨g,0,none⟩ l.length c (l.map (fun c=>(c.toNat:Int))) (by rw[hload,hm])]
  have:=aAb l []
  simp only[List.nil_append] at this
  exact congrArg (fun x=>Result.ok (Value.string x) w) this
theorem qZ (r:Rc)(hm:aP r=true):(cG r).length<=1000:=by
 have h6:r.kind=6->r.items.length<=16/\r.outs.length<=8:=by
  intro h
  simp[aP,h,gY,gK,lA] at hm
  exact ⟨hm.2.1.2.1,hm.2.2.1⟩
 unfold cG
 split
 ·simp[eV]
 ·split
  ·simp[dZ]
  ·split
   ·simp[dZ,eV]
   ·split
    ·simp[dZ]
    ·split
     ·rename_i h
      have:=h6 h
      simp[uP,qY,wW];omega
     ·simp
theorem eG {a b:Value}{c d:Value}(h1:a=c)(h2:b=d):Ending.returned (.tuple #[a,b])=.returned (.tuple #[c,d]):=by rw[h1,h2]
theorem aCv (r:Rc)(vi vo:Value)(w:World)(hi:bH w vi r.items)(ho:bL w vo r.outs)(hm:aP r=false):
  Calls prog 160 #[rv r.kind r.seq r.it r.mks vi vo] w fun e w'=>e=.returned (.tuple #[.string (S []),.int .i64 2])/\w.grownBy w' none:=by
 obtain ⟨K,s,i,m,is,es⟩:=r
 have HI:=Hid.mk' hi
 have HO:=Hid.mk' ho
 have HM:=Hid.mk' hm
 clear hi ho hm
 obtain ⟨ai,ci,rfl,_⟩:=HI.out
 obtain ⟨ao,co,rfl,_⟩:=HO.out
 show Calls prog 160 #[rv K s i m (.slice ai is.length ci) (.slice ao es.length co)] w _
 unfold rv
 go_enter func160,ntmps160
 go_wp2_with fail
 refine Calls.mono (aBv ⟨K,s,i,m,is,es⟩ (.slice ai is.length ci) (.slice ao es.length co) _ (HI.out.grown (World.grownBy_alloc _ _ _)) (HO.out.grown (World.grownBy_alloc _ _ _))) ?_
 rintro e w1 ⟨rfl,g1⟩
 rw[HM.out]
 go_wp2_with fail
 go_ret2
 exact ⟨eG rfl rfl,(World.grownBy_alloc _ _ _).trans g1⟩
theorem rA (r:Rc)(vi vo:Value)(w:World)(hi:bH w vi r.items)(ho:bL w vo r.outs)(hm:aP r=true)(wf:WfR r):
  Calls prog 160 #[rv r.kind r.seq r.it r.mks vi vo] w fun e w'=>e=.returned (.tuple #[.string (S (enc r)),.int .i64 0])/\w.grownBy w' none:=by
 have hbl:=qZ r hm
 obtain ⟨K,s,i,m,is,es⟩:=r
 have HI:=Hid.mk' hi
 have HO:=Hid.mk' ho
 have HM:=Hid.mk' hm
 have HW:=Hid.mk' wf
 clear hi ho hm wf
 obtain ⟨ai,ci,rfl,_⟩:=HI.out
 obtain ⟨ao,co,rfl,_⟩:=HO.out
 show Calls prog 160 #[rv K s i m (.slice ai is.length ci) (.slice ao es.length co)] w _
 unfold rv
 go_enter func160,ntmps160
 go_wp2_with fail
 refine Calls.mono (aBv ⟨K,s,i,m,is,es⟩ (.slice ai is.length ci) (.slice ao es.length co) _ (HI.out.grown (World.grownBy_alloc _ _ _)) (HO.out.grown (World.grownBy_alloc _ _ _))) ?_
 rintro e w1 ⟨rfl,g1⟩
 have G1:=Hid.mk' ((World.grownBy_alloc w _ none).trans g1)
 have z1:=G1.out.size
 rw[HM.out]
 obtain ⟨c0,c1,c2,c3,c4,c5,c6,c7,c8,c9,c10,c11,c12⟩:=oY g1
 go_wp2_with fail
 refine Calls.mono (aAa ⟨K,s,i,m,is,es⟩ (.slice ai is.length ci) (.slice ao es.length co) _ (HI.out.grown G1.out) (HO.out.grown G1.out) HM.out HW.out) ?_
 rintro e w2 ⟨v2,rfl,o2,g2⟩
 obtain ⟨l,hl⟩:∃l,cG ⟨K,s,i,m,is,es⟩=l:=⟨_,rfl⟩
 rw[hl] at o2 hbl
 have HL:=Hid.mk' hl
 clear hl
 have O2:=Hid.mk' o2
 have z2:=g2.size
 obtain ⟨b0,b1⟩:=qJ l
 have hr2:=oB _ _ _ _ o2
 clear o2
 go_wp2_with fail
 refine Calls.mono (aHa l _ (by unfold maxLen;omega)) ?_
 rintro e w3 ⟨rfl,rfl⟩
 go_wp2_with fail
 refine Calls.mono (bS w1.heap.size v2 l (lE l) _ O2.out (by omega) (by omega) b0 (by omega)) ?_
 rintro e w4 ⟨v4,rfl,p4⟩
 have hr4:=oB _ _ _ _ p4.own
 go_wp2_with fail
 go_ret2
 exact ⟨eG (by unfold enc;rw[HL.out];rfl) rfl,G1.out.trans (p4.low O2.out g2)⟩
end Go.Proofs.YtammnaafdhhjaaaGreat
namespace Go.Proofs.YtammnaafdhhjaaaGreat
open Go.RowKit Go.Proofs.Tryz
def iC (l:List UInt8):Rc:=eP (b1 l) (t1 l)
theorem aAc (l:List UInt8)(b:Nat)(w:World)(h:w.cell? ⟨b,0,none⟩=some (.string (S l)))(hf:w.frozen? ⟨b,0,none⟩=false):
  Calls prog 161 #[.pointer (some ⟨b,0,none⟩)] w fun e w'=>iK b w (iC l) e w':=by
 unfold iC
 by_cases h1:b1 l=1
 ·rw[h1];exact aEl l h1 b w h hf
 by_cases h2:b1 l=2
 ·rw[h2];exact aEm l h2 b w h hf
 by_cases h4:b1 l=4
 ·rw[h4];exact aEn l h4 b w h hf
 by_cases h7:b1 l=7
 ·rw[h7];exact aEq l h7 b w h hf
 by_cases h5:b1 l=5
 ·rw[h5];exact aEo l h5 b w h hf
 by_cases h8:b1 l=8
 ·rw[h8];exact aEr l h8 b w h hf
 by_cases h6:b1 l=6
 ·rw[h6]
  exact aEp l h6 _ _ (Int.toNat_of_nonneg (mU _).1).symm (Int.toNat_of_nonneg (mU _).1).symm b w h hf
 have E:eP (b1 l) (t1 l)=⟨b1 l,0,bT,aZ,[],[]⟩:=by
  unfold eP
  rw[if_neg h1,if_neg h2,if_neg (by omega),if_neg (by omega),if_neg h6]
 rw[E]
 exact uL l (b1 l) rfl (by simpa using h1) (by simpa using h2) (by simpa using h4) (by simpa using h7) (by simpa using h5) (by simpa using h8) (by simpa using h6) b w h hf
theorem lK (l:List UInt8):WfIt (fU l):=⟨aIq _,aIq _⟩
theorem nD:WfIt bT:=⟨by decide,by decide⟩
theorem aBx (n:Nat)(l:List UInt8):∀i∈fC n l,WfIt i:=by
 induction n with
 | zero=>simp[fC]
 | succ n ih=>
  intro i hi
  simp only[fC,List.mem_append,List.mem_singleton] at hi
  rcases hi with hi | rfl
  ·exact ih i hi
  ·exact lK _
theorem aBy (n:Nat)(l:List UInt8):∀e∈eC n l,WfIt e.it:=by
 induction n with
 | zero=>simp[eC]
 | succ n ih=>
  intro i hi
  simp only[eC,List.mem_append,List.mem_singleton] at hi
  rcases hi with hi | rfl
  ·exact ih i hi
  ·exact lK _
theorem aEC (l:List UInt8):WfR (iC l):=by
 unfold iC eP
 split
 ·exact ⟨lK _,by simp,by simp⟩
 split
 ·exact ⟨⟨by show 0<4294967296;omega,by show 0<4294967296;omega⟩,by simp,by simp⟩
 split
 ·exact ⟨lK _,by simp,by simp⟩
 split
 ·exact ⟨nD,by simp,by simp⟩
 split
 ·exact ⟨nD,aBx _ _,aBy _ _⟩
 ·exact ⟨nD,by simp,by simp⟩
def cV (l:List UInt8):Bool:=aP (iC l)&&(enc (iC l)==l)
def bQ:Value:=rv 0 0 bT aZ (.slice none 0 0) (.slice none 0 0)
def dF (w:World)(l:List UInt8)(e:Ending)(w':World):Prop:=
 w.grownBy w' none∧
 ((cV l=false/\e=.returned (.tuple #[bQ,.int .i64 7]))∨
  (cV l=true/\∃vi vo,e=.returned (.tuple #[rv (iC l).kind (iC l).seq (iC l).it (iC l).mks vi vo,.int .i64 0])/\OwnI w.heap.size w' vi (iC l).items/\OwnE w.heap.size w' vo (iC l).outs/\(∀j,vi.ownBlock=some j->vo.ownBlock≠some j)))
theorem lL {w W w':World}{b:Nat}(h:w.grownBy W none)(g:W.grownBy w' (some b))(hb:w.heap.size<=b):w.grownBy w' none:=
 ⟨g.os.trans h.os,g.tape.trans h.tape,g.output.trans h.output,Nat.le_trans h.size g.size,fun k hk _=>by
  have hz:=h.size
  rw[g.block k (by omega) (by intro e;injection e with e;omega),h.block k hk (by simp)]⟩
theorem aO {B:Nat}{e:TypeId}{size:Nat}{v:Value}{n:Nat}{xs:List Value}{w w':World}(h:w.ownsRow B e size v n xs)(g:w.grownBy w' none):w'.ownsRow B e size v n xs:=
 h.kept g (by cases hv:v.ownBlock<;>simp)
end Go.Proofs.YtammnaafdhhjaaaGreat
namespace Go.Proofs.YtammnaafdhhjaaaGreat
open Go.RowKit Go.Proofs.Tryz
theorem rB (l:List UInt8)(w:World):
  Calls prog 129 #[.string (S l)] w fun e w'=>dF w l e w':=by
 have hsf:=aK
 go_enter func129,ntmps129
 go_wp2_with fail
 refine Calls.mono (aAc l (w.heap.size+1) _ ?_ ?_) ?_
 ·go_simp
 ·go_simp
 rintro e w1 ⟨vi,vo,rfl,g1,oi,oo,hap⟩
 have HWF:=Hid.mk' (aEC l)
 have HB:Hid (cV l=(aP (iC l)&&(enc (iC l)==l))):=rfl
 have HD:Hid (dF w l=dF w l):=rfl
 obtain ⟨p,hp⟩:∃p,iC l=p:=⟨_,rfl⟩
 rw[hp] at oi oo HWF HB ⊢
 have HP:=Hid.mk' hp
 clear hp HD
 have OI:=Hid.mk' oi
 have OO:=Hid.mk' oo
 have HAP:=Hid.mk' hap
 clear oi oo hap
 obtain ⟨ai,ni,ci,rfl⟩:=dD OI.out
 obtain ⟨ao,no,co,rfl⟩:=dD OO.out
 have z1:=g1.size
 simp at z1
 have G1:=Hid.mk' (lL (aG (World.grownBy_alloc w _ none) _) g1 (by omega))
 unfold rv
 have a0:w1.cell? ⟨w.heap.size,0,none⟩=some (.int .i64 0):=g1.cell (by go_simp) (by simp)
 have a1:w1.cell? ⟨w.heap.size,1,none⟩=some (.int .i64 0):=g1.cell (by go_simp) (by simp)
 have a2:w1.cell? ⟨w.heap.size,2,none⟩=some (.int .i64 0):=g1.cell (by go_simp) (by simp)
 have a3:w1.cell? ⟨w.heap.size,3,none⟩=some (.int .i64 0):=g1.cell (by go_simp) (by simp)
 have a4:w1.cell? ⟨w.heap.size,4,none⟩=some (.float .f32 0):=g1.cell (by go_simp) (by simp)
 have a5:w1.cell? ⟨w.heap.size,5,none⟩=some (.float .f32 0):=g1.cell (by go_simp) (by simp)
 have a6:w1.cell? ⟨w.heap.size,6,none⟩=some (.int .i64 0):=g1.cell (by go_simp) (by simp)
 have a7:w1.cell? ⟨w.heap.size,7,none⟩=some (.int .i64 0):=g1.cell (by go_simp) (by simp)
 have a8:w1.cell? ⟨w.heap.size,8,none⟩=some (.int .i64 0):=g1.cell (by go_simp) (by simp)
 have a9:w1.cell? ⟨w.heap.size,9,none⟩=some (.int .i64 0):=g1.cell (by go_simp) (by simp)
 have a10:w1.cell? ⟨w.heap.size,10,none⟩=some (.int .i64 0):=g1.cell (by go_simp) (by simp)
 have a11:w1.cell? ⟨w.heap.size,11,none⟩=some (.slice none 0 0):=g1.cell (by go_simp) (by simp)
 have a12:w1.cell? ⟨w.heap.size,12,none⟩=some (.slice none 0 0):=g1.cell (by go_simp) (by simp)
 have fa:∀o,w1.frozen? ⟨w.heap.size,o,none⟩=false:=fun o=>by
  rw[World.frozen?_of_block (a:=⟨w.heap.size,o,none⟩) (g1.block w.heap.size (by simp;omega) (by simp))];go_simp
 have y1:w.heap.size<w1.heap.size:=by omega
 have x1:w.heap.size≠w1.heap.size:=by omega
 clear g1
 have kI:Hid (Value.ownBlock (.slice ai ni ci)≠some w.heap.size):=fun e=>by have:=(OI.out.lt _ e).1;simp at this;omega
 have kO:Hid (Value.ownBlock (.slice ao no co)≠some w.heap.size):=fun e=>by have:=(OO.out.lt _ e).1;simp at this;omega
 have LI:Hid (bH w1 (.slice ai ni ci) p.items):=Lies.of_own OI.out
 have LO:Hid (bL w1 (.slice ao no co) p.outs):=Lies.of_own OO.out
 cases hm:aP p
 ·go_wp2_with fail
  refine Calls.mono (aCv p (.slice ai ni ci) (.slice ao no co) _ (LI.out.grown (World.grownBy_alloc _ _ _)) (LO.out.grown (World.grownBy_alloc _ _ _)) hm) ?_
  rintro e w2 ⟨rfl,g2⟩
  have b0:w2.cell? ⟨w.heap.size,0,none⟩=some (.int .i64 0):=g2.cell (by go_simp) (by simp)
  have b1:w2.cell? ⟨w.heap.size,1,none⟩=some (.int .i64 0):=g2.cell (by go_simp) (by simp)
  have b2:w2.cell? ⟨w.heap.size,2,none⟩=some (.int .i64 0):=g2.cell (by go_simp) (by simp)
  have b3:w2.cell? ⟨w.heap.size,3,none⟩=some (.int .i64 0):=g2.cell (by go_simp) (by simp)
  have b4:w2.cell? ⟨w.heap.size,4,none⟩=some (.float .f32 0):=g2.cell (by go_simp) (by simp)
  have b5:w2.cell? ⟨w.heap.size,5,none⟩=some (.float .f32 0):=g2.cell (by go_simp) (by simp)
  have b6:w2.cell? ⟨w.heap.size,6,none⟩=some (.int .i64 0):=g2.cell (by go_simp) (by simp)
  have b7:w2.cell? ⟨w.heap.size,7,none⟩=some (.int .i64 0):=g2.cell (by go_simp) (by simp)
  have b8:w2.cell? ⟨w.heap.size,8,none⟩=some (.int .i64 0):=g2.cell (by go_simp) (by simp)
  have b9:w2.cell? ⟨w.heap.size,9,none⟩=some (.int .i64 0):=g2.cell (by go_simp) (by simp)
  have b10:w2.cell? ⟨w.heap.size,10,none⟩=some (.int .i64 0):=g2.cell (by go_simp) (by simp)
  have b11:w2.cell? ⟨w.heap.size,11,none⟩=some (.slice none 0 0):=g2.cell (by go_simp) (by simp)
  have b12:w2.cell? ⟨w.heap.size,12,none⟩=some (.slice none 0 0):=g2.cell (by go_simp) (by simp)
  have fb:∀o,w2.frozen? ⟨w.heap.size,o,none⟩=false:=fun o=>by
   rw[World.frozen?_of_block (a:=⟨w.heap.size,o,none⟩) (g2.block w.heap.size (by simp;omega) (by simp))];go_simp
  clear a0 a1 a2 a3 a4 a5 a6 a7 a8 a9 a10 a11 a12 fa
  have G2:=(aG G1.out _).trans g2
  go_wp2_with fail
  refine bodyPost_ret (v:=.tuple #[bQ,.int .i64 7]) (by simp[results,results129,go_sem,bQ,rv,bT,aZ, *]) rfl ⟨?_,.inl ⟨?_,rfl⟩⟩
  ·exact (aB (aB (aB (aB (aB (aB (aB (aB (aB (aB (aB (aB (aB G2 (Nat.le_refl _) _ _) (Nat.le_refl _) _ _) (Nat.le_refl _) _ _) (Nat.le_refl _) _ _) (Nat.le_refl _) _ _) (Nat.le_refl _) _ _) (Nat.le_refl _) _ _) (Nat.le_refl _) _ _) (Nat.le_refl _) _ _) (Nat.le_refl _) _ _) (Nat.le_refl _) _ _) (Nat.le_refl _) _ _) (Nat.le_refl _) _ _)
  ·rw[HB.out,hm];rfl
 ·have HM:=Hid.mk' hm
  go_wp2_with fail
  refine Calls.mono (rA p (.slice ai ni ci) (.slice ao no co) _ (LI.out.grown (World.grownBy_alloc _ _ _)) (LO.out.grown (World.grownBy_alloc _ _ _)) hm HWF.out) ?_
  rintro e w2 ⟨rfl,g2⟩
  have b0:w2.cell? ⟨w.heap.size,0,none⟩=some (.int .i64 0):=g2.cell (by go_simp) (by simp)
  have b1:w2.cell? ⟨w.heap.size,1,none⟩=some (.int .i64 0):=g2.cell (by go_simp) (by simp)
  have b2:w2.cell? ⟨w.heap.size,2,none⟩=some (.int .i64 0):=g2.cell (by go_simp) (by simp)
  have b3:w2.cell? ⟨w.heap.size,3,none⟩=some (.int .i64 0):=g2.cell (by go_simp) (by simp)
  have b4:w2.cell? ⟨w.heap.size,4,none⟩=some (.float .f32 0):=g2.cell (by go_simp) (by simp)
  have b5:w2.cell? ⟨w.heap.size,5,none⟩=some (.float .f32 0):=g2.cell (by go_simp) (by simp)
  have b6:w2.cell? ⟨w.heap.size,6,none⟩=some (.int .i64 0):=g2.cell (by go_simp) (by simp)
  have b7:w2.cell? ⟨w.heap.size,7,none⟩=some (.int .i64 0):=g2.cell (by go_simp) (by simp)
  have b8:w2.cell? ⟨w.heap.size,8,none⟩=some (.int .i64 0):=g2.cell (by go_simp) (by simp)
  have b9:w2.cell? ⟨w.heap.size,9,none⟩=some (.int .i64 0):=g2.cell (by go_simp) (by simp)
  have b10:w2.cell? ⟨w.heap.size,10,none⟩=some (.int .i64 0):=g2.cell (by go_simp) (by simp)
  have b11:w2.cell? ⟨w.heap.size,11,none⟩=some (.slice none 0 0):=g2.cell (by go_simp) (by simp)
  have b12:w2.cell? ⟨w.heap.size,12,none⟩=some (.slice none 0 0):=g2.cell (by go_simp) (by simp)
  have fb:∀o,w2.frozen? ⟨w.heap.size,o,none⟩=false:=fun o=>by
   rw[World.frozen?_of_block (a:=⟨w.heap.size,o,none⟩) (g2.block w.heap.size (by simp;omega) (by simp))];go_simp
  have r0:w2.cell? ⟨w1.heap.size,0,none⟩=some (.int .i64 p.kind):=g2.cell (by go_simp) (by simp)
  have r1:w2.cell? ⟨w1.heap.size,1,none⟩=some (.int .i64 p.seq):=g2.cell (by go_simp) (by simp)
  have r2:w2.cell? ⟨w1.heap.size,2,none⟩=some (.int .i64 p.it.sh):=g2.cell (by go_simp) (by simp)
  have r3:w2.cell? ⟨w1.heap.size,3,none⟩=some (.int .i64 p.it.nu):=g2.cell (by go_simp) (by simp)
  have r4:w2.cell? ⟨w1.heap.size,4,none⟩=some (.float .f32 p.it.pl):=g2.cell (by go_simp) (by simp)
  have r5:w2.cell? ⟨w1.heap.size,5,none⟩=some (.float .f32 p.it.sp):=g2.cell (by go_simp) (by simp)
  have r6:w2.cell? ⟨w1.heap.size,6,none⟩=some (.int .i64 p.mks.g):=g2.cell (by go_simp) (by simp)
  have r7:w2.cell? ⟨w1.heap.size,7,none⟩=some (.int .i64 p.mks.m):=g2.cell (by go_simp) (by simp)
  have r8:w2.cell? ⟨w1.heap.size,8,none⟩=some (.int .i64 p.mks.s):=g2.cell (by go_simp) (by simp)
  have r9:w2.cell? ⟨w1.heap.size,9,none⟩=some (.int .i64 p.mks.a):=g2.cell (by go_simp) (by simp)
  have r10:w2.cell? ⟨w1.heap.size,10,none⟩=some (.int .i64 p.mks.n):=g2.cell (by go_simp) (by simp)
  have r11:w2.cell? ⟨w1.heap.size,11,none⟩=some (.slice ai ni ci):=g2.cell (by go_simp) (by simp)
  have r12:w2.cell? ⟨w1.heap.size,12,none⟩=some (.slice ao no co):=g2.cell (by go_simp) (by simp)
  clear a0 a1 a2 a3 a4 a5 a6 a7 a8 a9 a10 a11 a12 fa
  have G2:=(aG G1.out _).trans g2
  obtain ⟨t,ht⟩:∃t,enc p=t:=⟨_,rfl⟩
  rw[ht] at HB ⊢
  have HT:=Hid.mk' ht
  clear ht
  by_cases hl:t=l
  ·subst hl
   go_wp2_with fail
   refine bodyPost_ret (v:=.tuple #[rv p.kind p.seq p.it p.mks (.slice ai ni ci) (.slice ao no co),.int .i64 0]) (by simp[results,results129,go_sem,rv, *]) rfl ⟨?_,.inr ⟨?_,_,_,?_,?_,?_,HAP.out⟩⟩
   ·exact (aB (aB (aB (aB (aB (aB (aB (aB (aB (aB (aB (aB (aB G2 (Nat.le_refl _) _ _) (Nat.le_refl _) _ _) (Nat.le_refl _) _ _) (Nat.le_refl _) _ _) (Nat.le_refl _) _ _) (Nat.le_refl _) _ _) (Nat.le_refl _) _ _) (Nat.le_refl _) _ _) (Nat.le_refl _) _ _) (Nat.le_refl _) _ _) (Nat.le_refl _) _ _) (Nat.le_refl _) _ _) (Nat.le_refl _) _ _)
   ·rw[HB.out,HM.out];simp
   ·rw[HP.out]
   ·rw[HP.out];exact bP (aH (aH (aH (aH (aH (aH (aH (aH (aH (aH (aH (aH (aH (aO (World.ownsRow.alloc OI.out _) g2) w.heap.size _ _ kI.out) w.heap.size _ _ kI.out) w.heap.size _ _ kI.out) w.heap.size _ _ kI.out) w.heap.size _ _ kI.out) w.heap.size _ _ kI.out) w.heap.size _ _ kI.out) w.heap.size _ _ kI.out) w.heap.size _ _ kI.out) w.heap.size _ _ kI.out) w.heap.size _ _ kI.out) w.heap.size _ _ kI.out) w.heap.size _ _ kI.out) (by simp;omega)
   ·rw[HP.out];exact bP (aH (aH (aH (aH (aH (aH (aH (aH (aH (aH (aH (aH (aH (aO (World.ownsRow.alloc OO.out _) g2) w.heap.size _ _ kO.out) w.heap.size _ _ kO.out) w.heap.size _ _ kO.out) w.heap.size _ _ kO.out) w.heap.size _ _ kO.out) w.heap.size _ _ kO.out) w.heap.size _ _ kO.out) w.heap.size _ _ kO.out) w.heap.size _ _ kO.out) w.heap.size _ _ kO.out) w.heap.size _ _ kO.out) w.heap.size _ _ kO.out) w.heap.size _ _ kO.out) (by simp;omega)
  ·have hne:((S t).toList==(S l).toList)=false:=by rw[bW,bW];simp[hl]
   go_wp2_with fail
   refine bodyPost_ret (v:=.tuple #[bQ,.int .i64 7]) (by simp[results,results129,go_sem,bQ,rv,bT,aZ, *]) rfl ⟨?_,.inl ⟨?_,rfl⟩⟩
   ·exact (aB (aB (aB (aB (aB (aB (aB (aB (aB (aB (aB (aB (aB G2 (Nat.le_refl _) _ _) (Nat.le_refl _) _ _) (Nat.le_refl _) _ _) (Nat.le_refl _) _ _) (Nat.le_refl _) _ _) (Nat.le_refl _) _ _) (Nat.le_refl _) _ _) (Nat.le_refl _) _ _) (Nat.le_refl _) _ _) (Nat.le_refl _) _ _) (Nat.le_refl _) _ _) (Nat.le_refl _) _ _) (Nat.le_refl _) _ _)
   ·rw[HB.out,HM.out];simp[hl]
end Go.Proofs.YtammnaafdhhjaaaGreat
namespace Go.Proofs.YtammnaafdhhjaaaGreat
theorem eW (c:UInt8)(l:List UInt8):t1 (c::l)=l:=rfl
theorem jR (n:Int)(l:List UInt8)(h0:0<=n)(h1:n<=65535):b2 (n2 n++l)=n:=by
 show ((u8 (n / 256)).toNat:Int) * 256+((u8 (n % 256)).toNat:Int)=n
 rw[gX _ (by omega) (by omega),gX _ (by omega) (by omega)];omega
theorem hU (n:Int)(l:List UInt8):t2 (n2 n++l)=l:=rfl
theorem aIr (n:Nat)(l:List UInt8)(h:n<4294967296):b4 (n4 n++l)=n:=by
 show ((((u8 ((n:Int) / 16777216)).toNat:Int) * 256+((u8 ((n:Int) / 65536 % 256)).toNat:Int)) * 65536+(((u8 ((n:Int) / 256 % 256)).toNat:Int) * 256+((u8 ((n:Int) % 256)).toNat:Int))).toNat=n
 rw[gX _ (by omega) (by omega),gX _ (by omega) (by omega),gX _ (by omega) (by omega),gX _ (by omega) (by omega)];omega
theorem aED (n:Nat)(l:List UInt8):t4 (n4 n++l)=l:=rfl
theorem lB (n:Int)(l:List UInt8)(h0:0<=n)(h1:n<256):b1 (u8 n::l)=n:=gX n h0 h1
theorem aBz (i:It)(l:List UInt8):gZ i++l=u8 i.sh::(n2 i.nu++(n4 i.pl++(n4 i.sp++l))):=by simp[gZ]
theorem oC (i:It)(l:List UInt8)(h:ItOk i):fU (gZ i++l)=i:=by
 rw[aBz]
 unfold fU
 rw[lB _ _ h.a (by have:=h.b;omega),eW,jR _ _ h.c h.d,hU,aIr _ _ h.p,aED,aIr _ _ h.s]
theorem aBA (i:It)(l:List UInt8):zS (gZ i++l)=l:=by
 rw[aBz];unfold zS;rw[eW,hU,aED,aED]
theorem aHb (m:Mk)(l:List UInt8)(h:MkOk m):mF (tM m++l)=m:=by
 have e:tM m++l=n2 m.g++(n2 m.m++(n2 m.s++(n2 m.a++(n2 m.n++l)))):=by simp[tM]
 rw[e];unfold mF
 rw[jR _ _ h.g0 h.g1,hU,jR _ _ h.m0 h.m1,hU,jR _ _ h.s0 h.s1,hU,jR _ _ h.a0 h.a1,hU,jR _ _ h.n0 h.n1]
theorem aHc (m:Mk)(l:List UInt8):tI (tM m++l)=l:=by
 have e:tM m++l=n2 m.g++(n2 m.m++(n2 m.s++(n2 m.a++(n2 m.n++l)))):=by simp[tM]
 rw[e];unfold tI;rw[hU,hU,hU,hU,hU]
theorem aHd (i:En)(l:List UInt8)(h:EnOk i):pEn (lJ i++l)=i:=by
 have e:lJ i++l=n2 i.sq++(gZ i.it++l):=by simp[lJ]
 rw[e];unfold pEn;rw[jR _ _ h.a h.b,hU,oC _ _ h.i]
theorem aHe (i:En)(l:List UInt8):tEn (lJ i++l)=l:=by
 have e:lJ i++l=n2 i.sq++(gZ i.it++l):=by simp[lJ]
 rw[e];unfold tEn;rw[hU,aBA]
theorem tN (k:Nat)(l:List UInt8):iJ (k+1) l=iJ k (zS l):=by
 induction k with
 | zero=>rfl
 | succ k ih=>show zS (iJ (k+1) l)=zS (iJ k (zS l));rw[ih]
theorem aCw (k:Nat)(l:List UInt8):fC (k+1) l=fU l::fC k (zS l):=by
 induction k with
 | zero=>rfl
 | succ k ih=>show fC (k+1) l++[fU (iJ (k+1) l)]=fU l::(fC k (zS l)++[fU (iJ k (zS l))]);rw[ih,tN];rfl
theorem tO (k:Nat)(l:List UInt8):lI (k+1) l=lI k (tEn l):=by
 induction k with
 | zero=>rfl
 | succ k ih=>show tEn (lI (k+1) l)=tEn (lI k (tEn l));rw[ih]
theorem aCx (k:Nat)(l:List UInt8):eC (k+1) l=pEn l::eC k (tEn l):=by
 induction k with
 | zero=>rfl
 | succ k ih=>show eC (k+1) l++[pEn (lI (k+1) l)]=pEn l::(eC k (tEn l)++[pEn (lI k (tEn l))]);rw[ih,tO];rfl
theorem aAd (is:List It)(l:List UInt8)(h:∀i∈is,ItOk i):fC is.length (is.flatMap gZ++l)=is/\iJ is.length (is.flatMap gZ++l)=l:=by
 induction is with
 | nil=>exact ⟨rfl,rfl⟩
 | cons i t ih=>
  have:=ih (fun x hx=>h x (List.mem_cons_of_mem _ hx))
  rw[List.length_cons,List.flatMap_cons,List.append_assoc,aCw,tN,oC i _ (h i List.mem_cons_self),aBA,this.1,this.2]
  exact ⟨rfl,rfl⟩
theorem aCy (is:List En)(l:List UInt8)(h:∀i∈is,EnOk i):eC is.length (is.flatMap lJ++l)=is/\lI is.length (is.flatMap lJ++l)=l:=by
 induction is with
 | nil=>exact ⟨rfl,rfl⟩
 | cons i t ih=>
  have:=ih (fun x hx=>h x (List.mem_cons_of_mem _ hx))
  rw[List.length_cons,List.flatMap_cons,List.append_assoc,aCx,tO,aHd i _ (h i List.mem_cons_self),aHe,this.1,this.2]
  exact ⟨rfl,rfl⟩
theorem qK {i:It}(h:jM i=true):i=bT:=by
 obtain ⟨a,b,c,d⟩:=i
 simp[jM,zU] at h
 obtain ⟨⟨h1,h2⟩,h3,h4⟩:=h
 subst h1 h2 h3 h4;rfl
theorem jS {r:Rc}(h:eU r=true):r.mks=aZ/\r.items=[]/\r.outs=[]:=by
 obtain ⟨K,s,i,m,is,es⟩:=r
 obtain ⟨a,b,c,d,e⟩:=m
 simp[eU,wR] at h
 obtain ⟨⟨⟨⟨⟨⟨h1,h2⟩,h3⟩,h4⟩,h5⟩,h6⟩,h7⟩:=h
 subst h1 h2 h3 h4 h5 h6 h7;exact ⟨rfl,rfl,rfl⟩
theorem rC {r:Rc}(hm:aP r=true):r.kind=1∨r.kind=2∨r.kind=3∨r.kind=4∨r.kind=5∨r.kind=6∨r.kind=7∨r.kind=8:=by
 unfold aP at hm
 by_cases h1:r.kind=1;· omega
 rw[if_neg h1] at hm
 by_cases h2:r.kind=2;· omega
 rw[if_neg h2] at hm
 by_cases h3:r.kind=3;· omega
 rw[if_neg h3] at hm
 by_cases h4:r.kind=4∨r.kind=7;· omega
 rw[if_neg h4] at hm
 by_cases h5:r.kind=5∨r.kind=8;· omega
 rw[if_neg h5] at hm
 by_cases h6:r.kind=6;· omega
 rw[if_neg h6] at hm
 cases hm
theorem aIs (l:List UInt8):eP 1 l=⟨1,0,fU l,aZ,[],[]⟩:=by simp[eP]
theorem aIt (l:List UInt8):eP 2 l=⟨2,0,⟨b1 l,b2 (t1 l),0,0⟩,aZ,[],[]⟩:=by simp[eP]
theorem aJw (l:List UInt8):eP 3 l=⟨3,0,bT,aZ,[],[]⟩:=by simp[eP]
theorem aIu (l:List UInt8):eP 4 l=⟨4,b2 l,fU (t2 l),aZ,[],[]⟩:=by simp[eP]
theorem aIv (l:List UInt8):eP 7 l=⟨7,b2 l,fU (t2 l),aZ,[],[]⟩:=by simp[eP]
theorem aIw (l:List UInt8):eP 5 l=⟨5,b2 l,bT,aZ,[],[]⟩:=by simp[eP]
theorem aIx (l:List UInt8):eP 8 l=⟨8,b2 l,bT,aZ,[],[]⟩:=by simp[eP]
theorem aIy (l:List UInt8):eP 6 l=⟨6,0,bT,mF l,fC (b1 (tI l)).toNat (t1 (tI l)),eC (b1 (iJ (b1 (tI l)).toNat (t1 (tI l)))).toNat (t1 (iJ (b1 (tI l)).toNat (t1 (tI l))))⟩:=by simp[eP]
theorem aEE (r:Rc)(hm:aP r=true)(wf:WfR r)(l:List UInt8):iC (cG r++l)=r:=by
 have hk:=rC hm
 obtain ⟨K,s,i,m,is,es⟩:=r
 simp only at hk
 rcases hk with rfl | rfl | rfl | rfl | rfl | rfl | rfl | rfl
 ·simp[aP] at hm
  obtain ⟨⟨h1,h2⟩,h3⟩:=hm
  obtain ⟨e1,e2,e3⟩:=jS h3
  simp only at e1 e2 e3;subst h1 e1 e2 e3
  have e:cG ⟨1,0,i,aZ,[],[]⟩++l=u8 1::(gZ i++l):=by simp[cG]
  rw[e];unfold iC
  rw[lB _ _ (by omega) (by omega),eW,aIs,oC _ _ (iF h2 wf.it)]
 ·simp[aP] at hm
  obtain ⟨⟨⟨h1,h2⟩,h2'⟩,h3⟩:=hm
  obtain ⟨e1,e2,e3⟩:=jS h3
  simp only at e1 e2 e3;subst h1 e1 e2 e3
  obtain ⟨g1,g2,g3,g4⟩:=jZ h2
  obtain ⟨a,b,c,d⟩:=i
  simp[zU] at h2'
  obtain ⟨rfl,rfl⟩:=h2'
  have e:cG ⟨2,0,⟨a,b,0,0⟩,aZ,[],[]⟩++l=u8 2::u8 a::(n2 b++l):=by simp[cG]
  rw[e];unfold iC
  rw[lB _ _ (by omega) (by omega),eW,aIt,lB a _ g1 (by have:a<=1:=g2;omega),eW,jR b _ (by have:1<=b:=g3;omega) g4]
 ·simp[aP] at hm
  obtain ⟨⟨h1,h2⟩,h3⟩:=hm
  obtain ⟨e1,e2,e3⟩:=jS h3
  simp only at e1 e2 e3;subst h1 e1 e2 e3
  rw[qK h2]
  have e:cG ⟨3,0,bT,aZ,[],[]⟩++l=u8 3::l:=by simp[cG]
  rw[e];unfold iC
  rw[lB _ _ (by omega) (by omega),eW,aJw]
 ·simp[aP] at hm
  obtain ⟨⟨⟨_,h1⟩,h2⟩,h3⟩:=hm
  obtain ⟨e1,e2,e3⟩:=jS h3
  simp only at e1 e2 e3;subst e1 e2 e3
  obtain ⟨g1,g2⟩:=bU h1
  have e:cG ⟨4,s,i,aZ,[],[]⟩++l=u8 4::(n2 s++(gZ i++l)):=by simp[cG]
  rw[e];unfold iC
  rw[lB _ _ (by omega) (by omega),eW,aIu,jR _ _ g1 g2,hU,oC _ _ (iF h2 wf.it)]
 ·simp[aP] at hm
  obtain ⟨⟨h1,h2⟩,h3⟩:=hm
  obtain ⟨e1,e2,e3⟩:=jS h3
  simp only at e1 e2 e3;subst e1 e2 e3
  obtain ⟨g1,g2⟩:=bU h1
  rw[qK h2]
  have e:cG ⟨5,s,bT,aZ,[],[]⟩++l=u8 5::(n2 s++l):=by simp[cG]
  rw[e];unfold iC
  rw[lB _ _ (by omega) (by omega),eW,aIw,jR _ _ g1 g2]
 ·simp[aP,gY,gK,lA] at hm
  obtain ⟨⟨h1,h2⟩,⟨hmk,hl,hc⟩,hl',hc'⟩:=hm
  subst h1
  rw[qK h2]
  have hI:∀x∈is,ItOk x:=fun x hx=>iF (uU hc x hx) (wf.items x hx)
  have hE:∀x∈es,EnOk x:=fun x hx=>⟨(bU (jQ hc' x hx).1).1,(bU (jQ hc' x hx).1).2,iF (jQ hc' x hx).2 (wf.outs x hx)⟩
  have e:cG ⟨6,0,bT,m,is,es⟩++l=u8 6::(tM m++(u8 is.length::(is.flatMap gZ++(u8 es.length::(es.flatMap lJ++l))))):=by simp[cG,pB,qF]
  have i1:=aAd is (u8 es.length::(es.flatMap lJ++l)) hI
  have o1:=aCy es l hE
  rw[e];unfold iC
  rw[lB _ _ (by omega) (by omega),eW,aIy,aHb _ _ (zZ hmk),aHc,lB _ _ (by omega) (by omega),eW,Int.toNat_natCast,i1.1,i1.2,lB _ _ (by omega) (by omega),eW,Int.toNat_natCast,o1.1]
 ·simp[aP] at hm
  obtain ⟨⟨⟨_,h1⟩,h2⟩,h3⟩:=hm
  obtain ⟨e1,e2,e3⟩:=jS h3
  simp only at e1 e2 e3;subst e1 e2 e3
  obtain ⟨g1,g2⟩:=bU h1
  have e:cG ⟨7,s,i,aZ,[],[]⟩++l=u8 7::(n2 s++(gZ i++l)):=by simp[cG]
  rw[e];unfold iC
  rw[lB _ _ (by omega) (by omega),eW,aIv,jR _ _ g1 g2,hU,oC _ _ (iF h2 wf.it)]
 ·simp[aP] at hm
  obtain ⟨⟨h1,h2⟩,h3⟩:=hm
  obtain ⟨e1,e2,e3⟩:=jS h3
  simp only at e1 e2 e3;subst e1 e2 e3
  obtain ⟨g1,g2⟩:=bU h1
  rw[qK h2]
  have e:cG ⟨8,s,bT,aZ,[],[]⟩++l=u8 8::(n2 s++l):=by simp[cG]
  rw[e];unfold iC
  rw[lB _ _ (by omega) (by omega),eW,aIx,jR _ _ g1 g2]
end Go.Proofs.YtammnaafdhhjaaaGreat
namespace Go.Proofs.YtammnaafdhhjaaaGreat
theorem aBB (r:Rc)(hm:aP r=true)(wf:WfR r):iC (enc r)=r:=aEE r hm wf _
theorem aEF (r:Rc)(hm:aP r=true)(wf:WfR r):cV (enc r)=true:=by
 unfold cV;rw[aBB r hm wf,hm];simp
end Go.Proofs.YtammnaafdhhjaaaGreat
